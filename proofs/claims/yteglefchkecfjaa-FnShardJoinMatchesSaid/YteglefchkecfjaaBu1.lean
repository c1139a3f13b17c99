/- Texts that the laws of this folder share, one behind another; no conditions. -/
import Derived.RangeFuncNested
import Derived.RangeFuncBound
import Derived.RangeFuncCalls
import Derived.RangeFuncLeaves
import Derived.Shelf.Abstract
import Derived.Shelf.RegionOpen
import Derived.WalkKit
import Derived.OwnWalkIn
import Derived.TacticsInMore
import Derived.LoopNIn
import Derived.LoopIn
import Derived.Deep.RegionHeld3
import Derived.Test.YteglefchkecfjaaBu0
import Derived.Test.YteglefchkecfjaaRows
import Derived.Deep.QuietTactic
import Derived.BigQuiet
import Derived.RangeFuncBox
import Derived.Laws.Rows
import Derived.Laws.CopyRow
import Derived.WalkSpells

/- A loop over a function at the wide fence, opened by one law: whoever walks the iterator gets a round for every call of yield, and owes that the loop's own two blocks lie as they lay; no conditions of our own. -/
namespace Go.Proofs.Yteglefchkecfjaa
open Go.RowKit Go.Shelf

/-- How a round ends: the loop's block is busy still; off its end (yield says yes) or by a return (yield says no). -/
def RoundEnd (L : Nat) (rec : LoopState → Option Code → Obj) (R : Ending → World → Prop) : Exit → Act → World → Prop := fun e _ W =>
  W.heap[L]? = some (rec .busy none) ∧
  ((e = .normal ∧ R (.returned (.bool true)) (W.putObj L (rec .ready none))) ∨ (e = .ret ∧ R (.returned (.bool false)) (W.putObj L (rec .done (some .ret)))))

/-- A round, for whoever calls yield. -/
def Rounds (P : Program) (m : Nat) (a : Act) (ps : Array Tmp) (assign body : Code) (L : Nat) (rec : LoopState → Option Code → Obj) : Prop :=
  ∀ (args : Array Value) (W : World) (R : Ending → World → Prop), args.size = ps.size → W.heap[L]? = some (rec .ready none) →
    assign.wpIn (Fence.wide.inRound L) m P (Exit.then (fun a₁ W₁ => W₁.heap[L]? = some (rec .ready none) ∧ body.wpIn (Fence.wide.inRound L) m P (RoundEnd L rec R) a₁ (W₁.putObj L (rec .busy none))) (fun _ _ _ => False))
      { tmps := (ps.zip args).foldl (fun t (p, v) => t.setIfInBounds p v) a.tmps, defers := [] } W →
    YieldAt Fence.wide m P L args W R

theorem wpIn_over {P : Program} {n : Nat} {g : Operand} {ps : Array Tmp} {assign body : Code} {Q : Exit → Act → World → Prop} {a : Act} {w : World} {gf : Nat} {lb : Array Value}
    (hg : a.eval g = .func (.func gf) #[] lb) (eg : ∀ args w, (callFunc gf args).run P w = .ok (.enter gf args) w)
    (h : ∀ rec : LoopState → Option Code → Obj, (∀ st pe, (rec st pe).isCells = false) → Rounds P (n - 1 - 1) a ps assign body (w.heap.size + 1) rec →
      CallsIn Fence.wide (n - 1) P gf (#[.func (.yield (w.heap.size + 1)) #[] #[]] ++ lb) ((w.alloc (.deferred (some []))).alloc (rec .ready none)) fun e W => (∃ v, e = .returned v) ∧
        ((W.heap[w.heap.size + 1]? = some (rec .ready none) ∧ Q .normal { a with defers := { target := .collected w.heap.size, args := #[] } :: a.defers } (W.putObj (w.heap.size + 1) (rec .exhausted none))) ∨
         (W.heap[w.heap.size + 1]? = some (rec .done (some .ret)) ∧ Code.ret.wpIn Fence.wide n P Q { a with defers := { target := .collected w.heap.size, args := #[] } :: a.defers } (W.putObj (w.heap.size + 1) (rec .exhausted (some .ret)))))) :
    (Code.rangeFunc g ps assign body).wpIn Fence.wide n P Q a w := by
  refine wpIn_rangeFunc fun fn hfn => ?_
  obtain ⟨lp, hlp⟩ : ∃ lp : LoopState → Option Code → Loop, ∀ st pe, lp st pe = { state := st, pending := pe, fn := fn, tmps := a.tmps, params := ps, assign := assign, body := body, defers := w.heap.size } := ⟨fun _ _ => _, fun _ _ => rfl⟩
  have hb1 : ∀ {W : World}, W.heap[w.heap.size + 1]? = some (.loop (lp .ready none)) → (Instr.beginRound (w.heap.size + 1)).run P W = .ok () (W.putObj (w.heap.size + 1) (.loop (lp .busy none))) := fun hl => by
    have := run_beginRound (P := P) hl (by rw [hlp])
    rw [this]; simp only [hlp]
  have hb2 : ∀ {W : World} (j : Option Code), W.heap[w.heap.size + 1]? = some (.loop (lp .busy none)) → (Instr.endRound (w.heap.size + 1) j).run P W = .ok (.bool j.isNone) (W.putObj (w.heap.size + 1) (.loop (lp (if j.isNone then .ready else .done) j))) := fun j hl => by
    have := run_endRound (P := P) j hl
    rw [this]; simp only [hlp]
  have hb3 : ∀ {W : World} {st : LoopState} {j : Option Code}, st ≠ .busy → W.heap[w.heap.size + 1]? = some (.loop (lp st j)) → (Instr.endLoop (w.heap.size + 1)).run P W = .ok j (W.putObj (w.heap.size + 1) (.loop (lp .exhausted j))) := fun hs hl => by
    have := run_endLoop (P := P) hl (by rw [hlp]; exact hs)
    rw [this]; simp only [hlp]
  have hc := h (fun st pe => .loop (lp st pe)) (fun _ _ => rfl) (fun args W R hsz hl hw => by
    refine ⟨fn, _, assign, body, ?_, roundIn_of_wpIn hfn (wpIn_mono hw ?_)⟩
    · have := run_yield (P := P) (args := args) hl (by rw [hlp]; exact hsz)
      rw [this]; simp only [hlp]
    · rintro e a₁ W₁ he
      cases e with
      | normal =>
        obtain ⟨hl₁, hb⟩ := he
        refine ⟨_, hb1 hl₁, wpIn_mono hb ?_⟩
        rintro e a₂ W₂ ⟨hl₂, ⟨rfl, hR⟩ | ⟨rfl, hR⟩⟩
        · exact ⟨_, _, hb2 none hl₂, hR⟩
        · exact ⟨_, _, hb2 (some .ret) hl₂, hR⟩
      | _ => exact he.elim)
  have he : (Instr.enterLoop fn a.tmps ps assign body Fence.wide.round).run P w = .ok (w.heap.size + 1, [{ target := .collected w.heap.size, args := #[] }]) ((w.alloc (.deferred (some []))).alloc (.loop (lp .ready none))) := by
    rw [show Fence.wide.round = none from rfl, run_enterLoop_outer]; simp only [hlp]
  clear hb1 hb2 h
  generalize (w.alloc (.deferred (some []))).alloc (.loop (lp .ready none)) = W1 at hc he
  obtain ⟨ag, hag⟩ : ∃ ag : Array Value, ag = #[.func (.yield (w.heap.size + 1)) #[] #[]] := ⟨_, rfl⟩
  have hres : (resolve a.eval (rangeCall g (w.heap.size + 1)) 0).run P W1 = .ok { target := .fn (.func gf) lb, args := ag } W1 := by
    simp only [resolve, hg, hag]
    simp [go_sem]
  have hinv : (invoke (.fn (.func gf) lb) ag).run P W1 = .ok (.enter gf (ag ++ lb)) W1 := by
    simp [invoke, go_sem, eg]
  rw [← hag] at hc
  have hc2 := hc.mono (R' := rangePost Fence.wide n P (w.heap.size + 1) Q { a with defers := [{ target := .collected w.heap.size, args := #[] }] ++ a.defers }) (by
    rintro e W ⟨⟨v, rfl⟩, ⟨hl, hq⟩ | ⟨hl, hq⟩⟩
    · exact ⟨none, _, hb3 (by simp) hl, hq⟩
    · exact ⟨some .ret, _, hb3 (by simp) hl, hq⟩)
  exact ⟨_, _, _, _, _, _, _, _, he, hres, fun _ _ => trivial, hinv, fun h => by simp [Fence.wide] at h, hc2⟩

/-! a region that draws its order, in a round -/
theorem op_round {P : Program} {L n : Nat} {o : Oper} {a : Act} {w : World} {K : Act → World → Prop} {Q : Exit → Act → World → Prop} (hd : ∀ c, o.op ≠ .defer c) (h : o.wp P a w K Q) : o.wpIn (Fence.wide.inRound L) n P a w K Q := by
  refine ⟨fun _ _ => trivial, ?_⟩
  unfold Oper.wp at h
  rw [Fence.inRound_round, Oper.semAt_some L _ o hd]
  generalize (execOp a.eval o).run P w = r at *
  have hn : (Fence.wide.inRound L).depth.isSome = true → 1 ≤ n := fun h => by simp [Fence.wide] at h
  cases r with
  | ok x w' =>
    cases x <;> simp only [Oper.upon, Oper.uponIn] at h ⊢ <;>
      first
        | exact h
        | exact ⟨hn, CallsIn.inRound L (callsIn_wide.2 h)⟩
        | exact ⟨hn, fun c cs _ => let ⟨v, w', r, s⟩ := h c cs; ⟨v, w', r, stepsIn_wide.2 s⟩⟩
        | exact h.elim
  | halt x w' => cases x <;> simp only [Oper.upon, Oper.uponIn] at h ⊢ <;> exact h
/-- No operation of the region is a deferring. -/
def noDefer (ops : Array Oper) : Bool := ops.toList.all fun o => match o.op with | .defer _ => false | _ => true
theorem noDefer_at {ops : Array Oper} (h : noDefer ops = true) {i : Nat} {o : Oper} (hi : ops[i]? = some o) : ∀ c, o.op ≠ .defer c := by
  intro c e
  unfold noDefer at h
  rw [List.all_eq_true] at h
  have := h o (by rw [← Array.mem_def]; exact Array.mem_of_getElem? hi)
  rw [e] at this
  cases this
theorem any_round {P : Program} {L n : Nat} {md : Region.Mode} {ops : Array Oper} {Q : Exit → Act → World → Prop} (hd : noDefer ops = true) (hQ : ¬ LetsOut Q) :
    ∀ (fuel : Nat) (listed : Array Bool) (a : Act) (w : World), wpAny P md ops Q fuel listed a w → wpAnyIn (Fence.wide.inRound L) n P md ops Q fuel listed a w
  | 0, _, _, _, h => h
  | fuel + 1, listed, a, w, h => ⟨h.1, fun i hi => by
      have := h.2 i hi
      unfold wpOp at this
      unfold wpOpIn
      split
      · rename_i e
        simp only [e] at this
        exact any_round hd hQ fuel _ _ _ this
      · rename_i o e
        simp only [e] at this
        split
        · rename_i hw
          simp only [hw, if_true] at this
          rcases this with this | this
          · exact Oper.wpIn_mono (fun a w h => any_round hd hQ fuel _ a w h) (op_round (noDefer_at hd e) this)
          · exact absurd this.2 hQ
        · rename_i hw
          simp only [hw] at this
          exact ⟨fun _ _ => trivial, any_round hd hQ fuel _ _ _ this⟩⟩
/-- The region's end alone is let through. -/
def JustNormal (Q : Exit → Act → World → Prop) : Exit → Act → World → Prop
  | .normal, a, w => Q .normal a w
  | _, _, _ => False
theorem JustNormal.intro {Q : Exit → Act → World → Prop} {a : Act} {w : World} (h : Q .normal a w) : JustNormal Q .normal a w := h
theorem region_round {P : Program} {L n : Nat} {id : Nat} {ops : Array Oper} {Q : Exit → Act → World → Prop} {a : Act} {w : World} (S : World → Prop) (hm : P.follows .mixedOrders = true) (hd : noDefer ops = true) (hS : S w.drew)
    (h : S w.drew → wpAnyH P .any ops (JustNormal Q) S ops.size (Array.replicate ops.size false) a w.drew) : (Code.region id ops true).wpIn (Fence.wide.inRound L) n P Q a w :=
  Code.wpIn_mono (Q := JustNormal Q) (fun e a w q => by cases e <;> first | exact q | exact (q : False).elim)
    (wpIn_region_any hm (any_round hd (by rintro ⟨a, w, h⟩; exact h) _ _ _ _ (wpAny_of_held _ _ _ _ (h hS))))

end Go.Proofs.Yteglefchkecfjaa

/- What impl's small functions of shards answer, and a column's value, each by a walk of its text; conditions: a list that is read has fewer than 2^40 elements, the numbers are ints. -/
namespace Go.Proofs.Yteglefchkecfjaa
open Go.RowKit Go.Shelf
attribute [local go_sem] Oper.semAt_some

theorem IntsAt.other {W W' : World} {a : Option Addr} {x : List Int} {r : Nat} (h : IntsAt W a x) (hg : W.grownBy W' (some r)) (hne : ∀ b, a = some b → b.block ≠ r) : IntsAt W' a x :=
  h.grown hg fun b e e' => hne b e (by cases e'; rfl)

theorem impl_isSymbol (n : Int) (w : World) : Calls Try.prog 111 #[.int .i64 n] w fun e w' => e = .returned (.bool (symB n)) ∧ w = w' := by
  by_cases h : 0 ≤ n
  · have Hf := Lib.hid (show symB n = decide (n < 251) by unfold symB; rw [Bool.eq_iff_iff]; simp only [decide_eq_true_eq]; omega)
    go_enter Try.func111, Try.ntmps111
    go_wp2
    go_ret
    exact ⟨ret_bool Hf.out.symm, rfl⟩
  · have Hf := Lib.hid (show symB n = false by unfold symB; exact decide_eq_false (by omega))
    go_enter Try.func111, Try.ntmps111
    go_wp2
    go_ret
    exact ⟨ret_bool Hf.out.symm, rfl⟩

theorem impl_isShardNumber (n : Int) (w : World) : Calls Try.prog 43 #[.int .i64 n] w fun e w' => e = .returned (.bool (decide (1 ≤ n ∧ n ≤ 8))) ∧ w = w' := by
  by_cases h : 1 ≤ n
  · go_enter Try.func43, Try.ntmps43
    go_wp2
    go_ret
    exact ⟨ret_bool (by rw [Bool.eq_iff_iff]; simp only [decide_eq_true_eq]; omega), rfl⟩
  · go_enter Try.func43, Try.ntmps43
    go_wp2
    go_ret
    exact ⟨ret_bool (by rw [Bool.eq_iff_iff]; simp only [Bool.and_eq_true, decide_eq_true_eq, Bool.false_eq_true, false_iff]; omega), rfl⟩

theorem impl_isDataSize (n : Int) (w : World) : Calls Try.prog 42 #[.int .i64 n] w fun e w' => e = .returned (.bool (decide (1 ≤ n ∧ n ≤ 12))) ∧ w = w' := by
  by_cases h : 1 ≤ n
  · go_enter Try.func42, Try.ntmps42
    go_wp2
    go_ret
    exact ⟨ret_bool (by rw [Bool.eq_iff_iff]; simp only [decide_eq_true_eq]; omega), rfl⟩
  · go_enter Try.func42, Try.ntmps42
    go_wp2
    go_ret
    exact ⟨ret_bool (by rw [Bool.eq_iff_iff]; simp only [Bool.and_eq_true, decide_eq_true_eq, Bool.false_eq_true, false_iff]; omega), rfl⟩

theorem impl_areSymbols (a : Option Addr) (cap : Nat) (l : List Int) (w : World) (hbig : l.length ≤ 1099511627776) (hc : IntsAt w a l) :
    Calls Try.prog 87 #[.slice a l.length cap] w fun e w' => e = .returned (.bool (l.all symB)) ∧ w = w' := by
  rcases hc.len with h0 | ⟨b, off, rfl, hb, hc⟩
  all_goals
    go_enter Try.func87, Try.ntmps87
    go_wp2
    go_loop [7] (fun i => ∃ k : Nat, k ≤ l.length ∧ i = .int .i64 k ∧ Pre symB l k) (fun i => l.length - (intOf i).toNat)
    case atStart => exact ⟨0, by omega, rfl, pre_zero _ _⟩
    case round =>
      obtain ⟨k, hk, rfl, hg⟩ := hrel
      by_cases hlt : k < l.length
      · first
        | (exfalso; omega)
        | (have hcell := hc k hlt
           have Hc := Lib.hid hc; clear hc
           have hd := impl_isSymbol l[k] w
           by_cases h : symB l[k] = true
           · rw [h] at hd
             have Hd := Lib.hid hd; clear hd
             have Hs := Lib.hid (pre_step hg hlt h); clear hg h
             go_wp2_with fail
             refine Hd.out.mono ?_
             rintro e w' ⟨rfl, rfl⟩
             go_wp2
             go_round
             case rel => exact ⟨k + 1, by omega, by go_num, Hs.out⟩
             case measure => simp [intOf]; omega
           · rw [Bool.not_eq_true] at h
             rw [h] at hd
             have Hd := Lib.hid hd; clear hd
             have Hs := Lib.hid (pre_not hlt h); clear hg h
             go_wp2_with fail
             refine Hd.out.mono ?_
             rintro e w' ⟨rfl, rfl⟩
             go_wp2
             go_ret
             exact ⟨ret_bool Hs.out.symm, rfl⟩)
      · have Hs := Lib.hid (pre_all hg (by omega)); clear hg
        go_wp2
        go_ret
        exact ⟨ret_bool Hs.out.symm, rfl⟩

/-- Data that can be encoded. -/
def isdB (d : List Int) : Bool := decide (1 ≤ d.length ∧ d.length ≤ 12) && d.all symB
theorem isdB_data (d : List Int) (need : Int) : dataB d need = (isdB d && decide (1 ≤ need ∧ need ≤ 8)) := by unfold dataB isdB; rw [Bool.and_comm (d.all symB)]

theorem impl_isData (a : Option Addr) (cap : Nat) (l : List Int) (w : World) (hbig : l.length ≤ 1099511627776) (hc : IntsAt w a l) :
    Calls Try.prog 48 #[.slice a l.length cap] w fun e w' => e = .returned (.bool (isdB l)) ∧ w = w' := by
  have hz := impl_isDataSize (l.length : Int) w
  have hd := impl_areSymbols a cap l w hbig hc
  by_cases h : 1 ≤ (l.length : Int) ∧ (l.length : Int) ≤ 12
  · rw [decide_eq_true h] at hz
    have Hf := Lib.hid (show isdB l = l.all symB by unfold isdB; rw [decide_eq_true (by omega), Bool.true_and])
    have Hz := Lib.hid hz; clear hz
    have Hd := Lib.hid hd; clear hd hc h
    go_enter Try.func48, Try.ntmps48
    go_wp2_with fail
    refine Hz.out.mono ?_
    rintro e w' ⟨rfl, rfl⟩
    go_wp2_with fail
    refine Hd.out.mono ?_
    rintro e w' ⟨rfl, rfl⟩
    go_wp2
    go_ret
    exact ⟨ret_bool Hf.out.symm, rfl⟩
  · rw [decide_eq_false h] at hz
    have Hf := Lib.hid (show isdB l = false by unfold isdB; rw [decide_eq_false (by omega), Bool.false_and])
    have Hz := Lib.hid hz; clear hz hd hc h
    go_enter Try.func48, Try.ntmps48
    go_wp2_with fail
    refine Hz.out.mono ?_
    rintro e w' ⟨rfl, rfl⟩
    go_wp2
    go_ret
    exact ⟨ret_bool Hf.out.symm, rfl⟩

theorem impl_columnsOf (size need : Nat) (w : World) (h1 : 1 ≤ size) (h2 : size ≤ 12) (h3 : 1 ≤ need) (h4 : need ≤ 8) : Calls Try.prog 86 #[.int .i64 size, .int .i64 need] w fun e w' => e = .returned (.int .i64 (((size + need - 1) / need : Nat) : Int)) ∧ w = w' := by
  have hq := Lib.hid (show (((size + need - 1) / need : Nat) : Int) = ((size : Int) + (need : Int) - 1) / (need : Int) by rw [Int.natCast_ediv]; congr 1; omega)
  go_enter Try.func86, Try.ntmps86
  go_wp2
  go_ret
  exact ⟨ret_int hq.out.symm, rfl⟩

theorem lib_Backward (a : Option Addr) (n c : Nat) (w : World) : Calls Try.prog 115 #[.slice a n c] w fun e w' =>
    e = .returned (.func (.func 122) #[] #[.pointer (some ⟨w.heap.size, 0, none⟩)]) ∧ w' = w.alloc (.cells #[.slice a n c] 26) := by
  go_enter Try.func115, Try.ntmps115
  go_wp2
  go_ret
  exact ⟨rfl, rfl⟩

theorem lib_Backward1 (L Bl : Nat) (a : Option Addr) (c : Nat) (l : List Int) (hbig : l.length ≤ 1099511627776) (J : Nat → World → Prop)
    (hc : ∀ i W, J i W → W.cell? ⟨Bl, 0, none⟩ = some (.slice a l.length c) ∧ IntsAt W a l)
    (hY : ∀ i (hi : i < l.length) W, J (i + 1) W → YieldAt Fence.wide 1 Try.prog L #[.int .i64 (i : Int), .int .i64 l[i]] W fun e W' => e = .returned (.bool true) ∧ J i W')
    (W : World) (h0 : J l.length W) :
    CallsIn Fence.wide 2 Try.prog 122 #[.func (.yield L) #[] #[], .pointer (some ⟨Bl, 0, none⟩)] W fun e W' => (∃ v, e = .returned v) ∧ J 0 W' := by
  have hcl := (hc _ W h0).1
  have HY := Lib.hid hY; clear hY
  have Hc := Lib.hid hc; clear hc
  refine callsIn_of_wp Try.func122 rfl trivial ?_ rfl
  simp only [Try.ntmps122, List.size_toArray, List.length_cons, List.length_nil, Nat.reduceAdd, Nat.reduceSub, Array.replicate_succ, Array.replicate_zero, List.push_toArray, List.append_toArray, List.nil_append, List.cons_append]
  gi_wp2
  gi_loopw [3] (fun i wr => ∃ k : Nat, k ≤ l.length ∧ i = .int .i64 ((k : Int) - 1) ∧ J k wr) (fun i _ => (intOf i + 1).toNat)
  case atStart => exact ⟨l.length, Nat.le_refl _, rfl, h0⟩
  case round =>
    obtain ⟨k, hk, rfl, hJ⟩ := hrel
    rcases k with _ | k
    · gi_wp2
      go_end0
      exact ⟨⟨_, rfl⟩, hJ⟩
    · have hlt : k < l.length := by omega
      obtain ⟨hcell, hi⟩ := Hc.out _ wr hJ
      obtain ⟨b, off, rfl, hb, hcs⟩ := hi.cell (by omega)
      have hck := hcs k hlt
      clear hcs hi
      obtain ⟨fn, tmps, assign, body, hy, hR⟩ := HY.out k hlt wr hJ
      generalize l[k] = y at *
      have e1 : ((k + 1 : Nat) : Int) - 1 = (k : Int) := by omega
      rw [e1]
      clear e1
      gi_wp2
      refine hR.mono ?_
      rintro e W3 ⟨rfl, hJ3⟩
      gi_wp2
      go_roundw
      case rel => exact ⟨k, by omega, rfl, hJ3⟩
      case measure => simp [intOf]

end Go.Proofs.Yteglefchkecfjaa

/- What impl's value of a column and its shards are, each by a walk of its text; conditions: a list that is read is short, the numbers are symbols. -/
namespace Go.Proofs.Yteglefchkecfjaa
open Go.RowKit Go.Shelf
attribute [local go_sem] Oper.semAt_some

theorem impl_valueAt (a : Option Addr) (cap : Nat) (l : List Int) (x : Int) (w : World) (hbig : l.length ≤ 1000) (hd : ∀ y ∈ l, 0 ≤ y ∧ y ≤ 250) (hx0 : 0 ≤ x) (hx8 : x ≤ 8) (hc : IntsAt w a l) :
    Calls Try.prog 96 #[.slice a l.length cap, .int .i64 x] w fun e w' => e = .returned (.int .i64 (horZ l x)) ∧ Below w.heap.size w w' := by
  refine (callsIn_wide (n := 3)).1 ?_
  have Hd := Lib.hid hd; clear hd
  have Hc := Lib.hid hc; clear hc
  refine callsIn_of_wp_marks Try.func96 rfl trivial ?_ rfl
  simp only [Try.ntmps96, List.size_toArray, List.length_cons, List.length_nil, Nat.reduceAdd, Nat.reduceSub, Array.replicate_succ, Array.replicate_zero, List.push_toArray, List.append_toArray, List.nil_append, List.cons_append]
  gi_wp2_with fail
  refine ⟨trivial, (callsIn_wide.2 (lib_Backward a l.length cap _)).mono ?_⟩
  rintro e w' ⟨rfl, rfl⟩
  gi_wp2_with fail
  obtain ⟨w1, hw1⟩ : ∃ w1, ((w.alloc (.cells #[.int .i64 x] 3)).alloc (.cells #[.int .i64 0] 3)).alloc (.cells #[.slice a l.length cap] 26) = w1 := ⟨_, rfl⟩
  have hz1 : w1.heap.size = w.heap.size + 3 := by rw [← hw1]; simp
  have c0 : Boxed w1 w.heap.size 3 (.int .i64 x) := by rw [← hw1]; exact ((Boxed.new _ _ _).alloc _).alloc _
  have c1 : Boxed w1 (w.heap.size + 1) 3 (.int .i64 0) := by rw [← hw1]; have := (Boxed.new (w.alloc (.cells #[.int .i64 x] 3)) 3 (.int .i64 0)).alloc (.cells #[.slice a l.length cap] 26); simpa only [World.size_alloc] using this
  have c2 : Boxed w1 (w.heap.size + 1 + 1) 26 (.slice a l.length cap) := by rw [← hw1]; have := Boxed.new ((w.alloc (.cells #[.int .i64 x] 3)).alloc (.cells #[.int .i64 0] 3)) 26 (.slice a l.length cap); simpa only [World.size_alloc] using this
  have hb1 : Below w.heap.size w w1 := by rw [← hw1]; exact (((Below.refl _ w).alloc (Nat.le_refl _) _).alloc (by simp) _).alloc (by simp; omega) _
  rw [hw1]
  clear hw1
  refine wpIn_over (gf := 122) (lb := #[.pointer (some ⟨w.heap.size + 1 + 1, 0, none⟩)]) rfl (enters_of Try.func122 (by kernel_rfl) rfl) ?_
  intro rec _ hround
  have Hround := Lib.hid hround; clear hround
  obtain ⟨w2, hw2⟩ : ∃ w2, (w1.alloc (.deferred (some []))).alloc (rec .ready none) = w2 := ⟨_, rfl⟩
  have hD2 : w2.heap[w1.heap.size]? = some (.deferred (some [])) := by
    rw [← hw2]; exact (Below.heap_alloc _ _ _ (by simp)).trans (World.alloc_heap_new w1 _)
  have hL2 : w2.heap[w1.heap.size + 1]? = some (rec .ready none) := by
    rw [← hw2]; have := World.alloc_heap_new (w1.alloc (.deferred (some []))) (rec .ready none); rwa [World.size_alloc] at this
  have hb2 : Below w1.heap.size w1 w2 := by rw [← hw2]; exact ((Below.refl _ w1).alloc (Nat.le_refl _) _).alloc (by simp) _
  rw [hw2]
  clear hw2
  refine (lib_Backward1 (w1.heap.size + 1) (w.heap.size + 1 + 1) a cap l (by omega)
    (fun k W => Boxed W w.heap.size 3 (.int .i64 x) ∧ Boxed W (w.heap.size + 1) 3 (.int .i64 (horZ (l.drop k) x)) ∧ Boxed W (w.heap.size + 1 + 1) 26 (.slice a l.length cap) ∧ W.heap[w1.heap.size]? = some (.deferred (some [])) ∧ W.heap[w1.heap.size + 1]? = some (rec .ready none) ∧ Below w.heap.size w W) ?C ?Y w2
    ⟨(hb2.block _ (by omega)).trans c0, by rw [List.drop_length]; exact (hb2.block _ (by omega)).trans c1, (hb2.block _ (by omega)).trans c2, hD2, hL2, below_step hb1 hb1.size hb2⟩).mono ?_
  case C =>
    rintro i W ⟨_, _, b2, _, _, hB⟩
    exact ⟨b2.cell, Hc.out.below hB⟩
  case Y =>
    rintro k hk W ⟨b0, b1, b2, hD, hL, hB⟩
    have hLlt := (Array.getElem?_eq_some_iff.1 hL).1
    refine Hround.out #[.int .i64 (k : Int), .int .i64 l[k]] W _ rfl hL ?_
    gi_wp2
    refine ⟨hL, ?_⟩
    have hg1 := grownBy_putObj' W (w1.heap.size + 1) (rec .busy none)
    have hL3 : (W.putObj (w1.heap.size + 1) (rec .busy none)).heap[w1.heap.size + 1]? = some (rec .busy none) := World.putObj_heap_same hLlt
    have hD3 : (W.putObj (w1.heap.size + 1) (rec .busy none)).heap[w1.heap.size]? = some (.deferred (some [])) := (World.putObj_heap_other (by omega)).trans hD
    have b0 := b0.kept hg1 (by simp; omega)
    have b1 := b1.kept hg1 (by simp; omega)
    have b2 := b2.kept hg1 (by simp; omega)
    have hB3 : Below w.heap.size w (W.putObj (w1.heap.size + 1) (rec .busy none)) := hB.grown hg1 hB.size (fun k e => by cases e; omega)
    clear hL hD hB hg1 hLlt
    generalize W.putObj (w1.heap.size + 1) (rec .busy none) = W3 at *
    have hcb0 := b0.cell
    have hcb1 := b1.cell
    have hfb1 := b1.frozen
    have hh := Lib.hid (horZ_drop hk x)
    have hbd := horZ_bd (l.drop (k + 1)) x
    have hy := Hd.out _ (List.getElem_mem hk)
    generalize horZ (l.drop (k + 1)) x = h at *
    generalize l[k] = y at *
    have hm := mul_bd hbd.1 hbd.2 hx0 hx8
    have Hbx := Lib.hid b1
    obtain ⟨q, hq⟩ : ∃ q, h * x = q := ⟨_, rfl⟩
    rw [hq] at hm
    have hh' := Lib.hid (hh.out.trans (by rw [hq]))
    clear hh
    gi_wp2
    have hL4 : (W3.setCell ⟨w.heap.size + 1, 0, none⟩ (.int .i64 (horZ (l.drop k) x))).heap[w1.heap.size + 1]? = some (rec .busy none) := (Below.heap_setCell _ _ _ _ (by simp; omega)).trans hL3
    rw [← hh'.out]
    have hL4lt := (Array.getElem?_eq_some_iff.1 hL4).1
    have hg5 := grownBy_putObj' (W3.setCell ⟨w.heap.size + 1, 0, none⟩ (.int .i64 (horZ (l.drop k) x))) (w1.heap.size + 1) (rec .ready none)
    have hB4 := hB3.setCell (p := ⟨w.heap.size + 1, 0, none⟩) (by simp) (.int .i64 (horZ (l.drop k) x))
    refine ⟨hL4, .inl ⟨rfl, rfl, ?_, ?_, ?_, ?_, World.putObj_heap_same hL4lt, ?_⟩⟩
    · exact (b0.other (B' := w.heap.size + 1) (by omega) _).kept hg5 (by simp; omega)
    · exact (b1.set _).kept hg5 (by simp; omega)
    · exact (b2.other (B' := w.heap.size + 1) (by omega) _).kept hg5 (by simp; omega)
    · exact (World.putObj_heap_other (by omega)).trans ((Below.heap_setCell _ _ _ _ (by simp; omega)).trans hD3)
    · exact hB4.grown hg5 hB4.size (fun k e => by cases e; omega)
  · rintro e W ⟨hv, b0, b1, b2, hD, hL, hB⟩
    refine ⟨hv, .inl ⟨hL, ?_⟩⟩
    have hg1 := grownBy_putObj' W (w1.heap.size + 1) (rec .exhausted none)
    have hD1 : (W.putObj (w1.heap.size + 1) (rec .exhausted none)).heap[w1.heap.size]? = some (.deferred (some [])) := (World.putObj_heap_other (by omega)).trans hD
    have b1 := b1.kept hg1 (by simp; omega)
    have hB1 : Below w.heap.size w (W.putObj (w1.heap.size + 1) (rec .exhausted none)) := hB.grown hg1 hB.size (fun k e => by cases e; omega)
    clear b0 b2 hL hD hB hg1
    generalize W.putObj (w1.heap.size + 1) (rec .exhausted none) = W3 at *
    have hcb := b1.cell
    rw [List.drop_zero] at hcb
    gi_wp2
    refine ⟨by simp, .inl ⟨_, _, rfl, run_takeDeferred hD1, ?_⟩⟩
    refine ⟨_, results_tmp rfl _ _ _, ?_, hB1.grown (grownBy_putObj' _ _ _) hB1.size (fun k e => by cases e; omega)⟩
    exact rfl

theorem lib_Chunk (a : Option Addr) (n c : Nat) (need : Int) (w : World) (h1 : 1 ≤ need) : Calls Try.prog 95 #[.slice a n c, .int .i64 need] w fun e w' =>
    e = .returned (.func (.func 114) #[] #[.pointer (some ⟨w.heap.size, 0, none⟩), .pointer (some ⟨w.heap.size + 1, 0, none⟩)]) ∧ w' = (w.alloc (.cells #[.slice a n c] 26)).alloc (.cells #[.int .i64 need] 3) := by
  go_enter Try.func95, Try.ntmps95
  go_wp2
  go_ret
  exact ⟨rfl, rfl⟩

theorem IntsAt.part {w : World} {b off : Nat} {l : List Int} (hb : b < w.heap.size) (h : ∀ j (h : j < l.length), w.cell? ⟨b, off + j, none⟩ = some (.int .i64 l[j])) (m n : Nat) : IntsAt w (some ⟨b, off + m, none⟩) ((l.drop m).take n) := by
  refine .inr ⟨b, off + m, rfl, hb, fun j hj => ?_⟩
  simp only [List.length_take, List.length_drop] at hj
  have := h (m + j) (by omega)
  rw [Nat.add_assoc, this]
  simp
theorem mul_lt_cols {l : List Int} {need c : Nat} (hn : 1 ≤ need) (h : ¬ c * need < l.length) (hc : c ≤ colsN l need) : c = colsN l need := by
  rcases Nat.lt_or_ge c (colsN l need) with h' | h'
  · exact absurd ((cols_lt hn).1 h') h
  · omega

theorem lib_Chunk1 (L B1 B2 : Nat) (a : Option Addr) (cap : Nat) (l : List Int) (need : Nat) (h1 : 1 ≤ need) (h8 : need ≤ 8) (hbig : l.length ≤ 12) (hcap : l.length ≤ cap) (J : Nat → World → Prop)
    (hJ : ∀ c W q, J c W → J c (W.drewN q))
    (hc : ∀ c W, J c W → W.cell? ⟨B1, 0, none⟩ = some (.slice a l.length cap) ∧ W.cell? ⟨B2, 0, none⟩ = some (.int .i64 (need : Int)) ∧ IntsAt W a l)
    (hY : ∀ c (W : World) ac, c * need < l.length → J c W → IntsAt W ac ((l.drop (c * need)).take need) → (∀ p, ac = some p → ∃ q, a = some q ∧ p.block = q.block) → YieldAt Fence.wide 1 Try.prog L #[.slice ac ((l.drop (c * need)).take need).length ((l.drop (c * need)).take need).length] W fun e W' => e = .returned (.bool true) ∧ J (c + 1) W')
    (W : World) (h0 : J 0 W) :
    CallsIn Fence.wide 2 Try.prog 114 #[.func (.yield L) #[] #[], .pointer (some ⟨B1, 0, none⟩), .pointer (some ⟨B2, 0, none⟩)] W fun e W' => (∃ v, e = .returned v) ∧ J (colsN l need) W' := by
  have HY := Lib.hid hY; clear hY
  have Hc := Lib.hid hc; clear hc
  have HJ := Lib.hid hJ; clear hJ
  refine callsIn_of_wp Try.func114 rfl trivial ?_ rfl
  simp only [Try.ntmps114, List.size_toArray, List.length_cons, List.length_nil, Nat.reduceAdd, Nat.reduceSub, Array.replicate_succ, Array.replicate_zero, List.push_toArray, List.append_toArray, List.nil_append, List.cons_append]
  gi_wp2
  gi_loopw [4, 5] (fun i _ wr => ∃ c m : Nat, c ≤ colsN l need ∧ m = c * need ∧ i = .int .i64 (m : Int) ∧ J c wr) (fun i _ _ => l.length - (intOf i).toNat)
  case atStart => exact ⟨0, 0, Nat.zero_le _, (Nat.zero_mul _).symm, rfl, h0⟩
  case round =>
    obtain ⟨c, m, hcn, hm, rfl, hJc⟩ := hrel
    have Hm := Lib.hid hm; clear hm
    obtain ⟨hcell1, hcell2, hi⟩ := Hc.out _ _ hJc
    have Hi := Lib.hid hi; clear hi
    by_cases hlt : m < l.length
    · obtain ⟨b, off, rfl, hb, hcs⟩ := Hi.out.cell (by omega)
      have Hcs := Lib.hid hcs; clear hcs
      obtain ⟨e, he⟩ : ∃ e : Nat, min need (l.length - m) = e := ⟨_, rfl⟩
      have hpl : ((l.drop m).take need).length = e := by simp [he]
      have hmc : m < cap := by omega
      have hcs1 : c + 1 ≤ colsN l need := (cols_lt h1).2 (by rw [← Hm.out]; exact hlt)
      have hm1 := Lib.hid (show m + need = (c + 1) * need by rw [Nat.add_mul, Nat.one_mul, ← Hm.out])
      have hyy := HY.out c wr.drew (some ⟨b, off + m, none⟩) (by rw [← Hm.out]; exact hlt) (HJ.out c wr 1 hJc) (by rw [← Hm.out]; exact IntsAt.part (w := wr.drew) hb Hcs.out m need) (fun p hp => by cases hp; exact ⟨_, rfl, rfl⟩)
      rw [← Hm.out, hpl] at hyy
      by_cases hle : (need : Int) ≤ (l.length : Int) - (m : Int)
      · have hee : e = need := by omega
        rw [hee] at hyy
        clear hee he hpl
        obtain ⟨fn, tmps, assign, body, hy, hR⟩ := hyy
        gi_wp2
        gi_region
        gi_wp2
        refine hR.mono ?_
        rintro e W3 ⟨rfl, hJ3⟩
        obtain ⟨hd1, hd2, _⟩ := Hc.out _ _ hJ3
        clear hcell1 hcell2 hJc
        gi_wp2
        go_roundw
        case rel => exact ⟨c + 1, m + need, hcs1, hm1.out, by go_num, hJ3⟩
        case measure => simp [intOf]; omega
      · have hee : e = l.length - m := by omega
        rw [hee] at hyy
        clear hee he hpl
        obtain ⟨fn, tmps, assign, body, hy, hR⟩ := hyy
        gi_wp2
        gi_region
        gi_wp2
        refine hR.mono ?_
        rintro e W3 ⟨rfl, hJ3⟩
        obtain ⟨hd1, hd2, _⟩ := Hc.out _ _ hJ3
        clear hcell1 hcell2 hJc
        gi_wp2
        go_roundw
        case rel => exact ⟨c + 1, m + need, hcs1, hm1.out, by go_num, hJ3⟩
        case measure => simp [intOf]; omega
    · have hce := mul_lt_cols h1 (by rw [← Hm.out]; exact hlt) hcn
      have Hce := Lib.hid hce; clear hce
      gi_wp2
      go_end0
      exact ⟨⟨_, rfl⟩, by rw [← Hce.out]; exact hJc⟩

end Go.Proofs.Yteglefchkecfjaa

/- What impl's shard of a number is, by a walk of its text; conditions: the data is symbols, at most twelve, and fits its capacity. -/
namespace Go.Proofs.Yteglefchkecfjaa
open Go.RowKit Go.Shelf
attribute [local go_sem] Oper.semAt_some

theorem region_round_L {P : Program} {L n : Nat} {id : Nat} {ops : Array Oper} {Q : Exit → Act → World → Prop} {a : Act} {w : World} (m : Nat) (S : World → Prop) (hm : P.follows .mixedOrders = true) (hd : noDefer ops = true) (hS : S w.drew)
    (h : S w.drew → wpAnyL P .any ops (JustNormal Q) m S ops.size (Array.replicate ops.size false) a w.drew) : (Code.region id ops true).wpIn (Fence.wide.inRound L) n P Q a w :=
  Code.wpIn_mono (Q := JustNormal Q) (fun e a w q => by cases e <;> first | exact q | exact (q : False).elim)
    (wpIn_region_any hm (any_round hd (by rintro ⟨a, w, h⟩; exact h) _ _ _ _ (any_of_L _ _ _ _ (h hS))))
theorem shardV_take {d : List Int} {need c : Nat} {x : Int} (h : c < colsN d need) : (shardV d need x).take (c + 1) = (shardV d need x).take c ++ [horZ ((d.drop (c * need)).take need) x] := by
  rw [List.take_succ_eq_append_getElem (by rw [shardV_len]; exact h), shardV_get, hor_val]

set_option maxHeartbeats 2000000 in
theorem impl_shardOf (a : Option Addr) (cap : Nat) (d : List Int) (need : Nat) (x : Int) (w : World) (hd : ∀ y ∈ d, 0 ≤ y ∧ y ≤ 250) (hlen : d.length ≤ 12) (hneed : need ≤ 8) (hneed1 : 1 ≤ need) (hx0 : 0 ≤ x) (hx8 : x ≤ 8) (hcap : d.length ≤ cap) (hc : IntsAt w a d) :
    Calls Try.prog 50 #[.slice a d.length cap, .int .i64 need, .int .i64 x] w fun e w' => ∃ v, e = .returned (.agg #[.int .i64 x, v]) ∧ Own 3 w' w.heap.size v (shardV d need x) ∧ Below w.heap.size w w' := by
  refine (callsIn_wide (n := 3)).1 ?_
  have Hd := Lib.hid hd; clear hd
  have Hc := Lib.hid hc; clear hc
  have hcol := cols_le (d := d) (need := need) hneed1 hlen
  refine callsIn_of_wp_marks Try.func50 rfl trivial ?_ rfl
  simp only [Try.ntmps50, List.size_toArray, List.length_cons, List.length_nil, Nat.reduceAdd, Nat.reduceSub, Array.replicate_succ, Array.replicate_zero, List.push_toArray, List.append_toArray, List.nil_append, List.cons_append]
  gi_wp2_with fail
  refine ⟨trivial, (callsIn_wide.2 (lib_Chunk a d.length cap need _ (by omega))).mono ?_⟩
  rintro e w' ⟨rfl, rfl⟩
  gi_wp2_with fail
  have hoe : Own 3 (((w.alloc (.cells #[.int .i64 x] 3)).alloc (.cells #[.int .i64 0, .slice none 0 0] 32)).alloc (.cells #[] 3)) (w.heap.size + 1 + 1) (.slice (some ⟨w.heap.size + 1 + 1, 0, none⟩) 0 0) [] := by
    have := own_empty 3 ((w.alloc (.cells #[.int .i64 x] 3)).alloc (.cells #[.int .i64 0, .slice none 0 0] 32)) (B := w.heap.size + 1 + 1) (by simp)
    simpa only [World.size_alloc] using this
  obtain ⟨w1, hw1⟩ : ∃ w1, (((((w.alloc (.cells #[.int .i64 x] 3)).alloc (.cells #[.int .i64 0, .slice none 0 0] 32)).alloc (.cells #[] 3)).alloc (.cells #[.slice (some ⟨w.heap.size + 1 + 1, 0, none⟩) 0 0] 26)).alloc (.cells #[.slice a d.length cap] 26)).alloc (.cells #[.int .i64 (need : Int)] 3) = w1 := ⟨_, rfl⟩
  have hz1 : w1.heap.size = w.heap.size + 6 := by rw [← hw1]; simp
  have c0 : Boxed w1 w.heap.size 3 (.int .i64 x) := by rw [← hw1]; exact (((((Boxed.new _ _ _).alloc _).alloc _).alloc _).alloc _).alloc _
  have c1 : Str w1 (w.heap.size + 1) 32 #[.int .i64 0, .slice none 0 0] := by rw [← hw1]; have := ((((Str.new (w.alloc (.cells #[.int .i64 x] 3)) 32 #[.int .i64 0, .slice none 0 0]).alloc (.cells #[] 3)).alloc (.cells #[.slice (some ⟨w.heap.size + 1 + 1, 0, none⟩) 0 0] 26)).alloc (.cells #[.slice a d.length cap] 26)).alloc (.cells #[.int .i64 (need : Int)] 3); simpa only [World.size_alloc] using this
  have c2 : Own 3 w1 (w.heap.size + 1 + 1) (.slice (some ⟨w.heap.size + 1 + 1, 0, none⟩) 0 0) [] := by rw [← hw1]; exact ((hoe.alloc _).alloc _).alloc _
  have c3 : Boxed w1 (w.heap.size + 1 + 1 + 1) 26 (.slice (some ⟨w.heap.size + 1 + 1, 0, none⟩) 0 0) := by rw [← hw1]; have := ((Boxed.new (((w.alloc (.cells #[.int .i64 x] 3)).alloc (.cells #[.int .i64 0, .slice none 0 0] 32)).alloc (.cells #[] 3)) 26 (.slice (some ⟨w.heap.size + 1 + 1, 0, none⟩) 0 0)).alloc (.cells #[.slice a d.length cap] 26)).alloc (.cells #[.int .i64 (need : Int)] 3); simpa only [World.size_alloc] using this
  have c4 : Boxed w1 (w.heap.size + 1 + 1 + 1 + 1) 26 (.slice a d.length cap) := by rw [← hw1]; have := (Boxed.new ((((w.alloc (.cells #[.int .i64 x] 3)).alloc (.cells #[.int .i64 0, .slice none 0 0] 32)).alloc (.cells #[] 3)).alloc (.cells #[.slice (some ⟨w.heap.size + 1 + 1, 0, none⟩) 0 0] 26)) 26 (.slice a d.length cap)).alloc (.cells #[.int .i64 (need : Int)] 3); simpa only [World.size_alloc] using this
  have c5 : Boxed w1 (w.heap.size + 1 + 1 + 1 + 1 + 1) 3 (.int .i64 (need : Int)) := by rw [← hw1]; have := Boxed.new (((((w.alloc (.cells #[.int .i64 x] 3)).alloc (.cells #[.int .i64 0, .slice none 0 0] 32)).alloc (.cells #[] 3)).alloc (.cells #[.slice (some ⟨w.heap.size + 1 + 1, 0, none⟩) 0 0] 26)).alloc (.cells #[.slice a d.length cap] 26)) 3 (.int .i64 (need : Int)); simpa only [World.size_alloc] using this
  have hb1 : Below w.heap.size w w1 := by rw [← hw1]; exact ((((((Below.refl _ w).alloc (Nat.le_refl _) _).alloc (by simp) _).alloc (by simp; omega) _).alloc (by simp; omega) _).alloc (by simp; omega) _).alloc (by simp; omega) _
  rw [hw1]
  clear hw1 hoe
  refine wpIn_over (gf := 114) (lb := #[.pointer (some ⟨w.heap.size + 1 + 1 + 1 + 1, 0, none⟩), .pointer (some ⟨w.heap.size + 1 + 1 + 1 + 1 + 1, 0, none⟩)]) rfl (enters_of Try.func114 (by kernel_rfl) rfl) ?_
  intro rec _ hround
  have Hround := Lib.hid hround; clear hround
  obtain ⟨w2, hw2⟩ : ∃ w2, (w1.alloc (.deferred (some []))).alloc (rec .ready none) = w2 := ⟨_, rfl⟩
  have hD2 : w2.heap[w1.heap.size]? = some (.deferred (some [])) := by
    rw [← hw2]; exact (Below.heap_alloc _ _ _ (by simp)).trans (World.alloc_heap_new w1 _)
  have hL2 : w2.heap[w1.heap.size + 1]? = some (rec .ready none) := by
    rw [← hw2]; have := World.alloc_heap_new (w1.alloc (.deferred (some []))) (rec .ready none); rwa [World.size_alloc] at this
  have hb2 : Below w1.heap.size w1 w2 := by rw [← hw2]; exact ((Below.refl _ w1).alloc (Nat.le_refl _) _).alloc (by simp) _
  have hz2 : w1.heap.size + 2 ≤ w2.heap.size := by rw [← hw2]; simp
  rw [hw2]
  clear hw2
  refine (lib_Chunk1 (w1.heap.size + 1) (w.heap.size + 1 + 1 + 1 + 1) (w.heap.size + 1 + 1 + 1 + 1 + 1) a cap d need hneed1 hneed hlen hcap
    (fun c W => (∃ v, Boxed W (w.heap.size + 1 + 1 + 1) 26 v ∧ Own 3 W (w.heap.size + 1 + 1) v ((shardV d need x).take c) ∧ (∀ g, v.ownBlock = some g → g = w.heap.size + 1 + 1 ∨ w1.heap.size + 2 ≤ g)) ∧ w1.heap.size + 2 ≤ W.heap.size ∧ Boxed W w.heap.size 3 (.int .i64 x) ∧ Str W (w.heap.size + 1) 32 #[.int .i64 0, .slice none 0 0] ∧ Boxed W (w.heap.size + 1 + 1 + 1 + 1) 26 (.slice a d.length cap) ∧ Boxed W (w.heap.size + 1 + 1 + 1 + 1 + 1) 3 (.int .i64 (need : Int)) ∧ W.heap[w1.heap.size]? = some (.deferred (some [])) ∧ W.heap[w1.heap.size + 1]? = some (rec .ready none) ∧ Below w.heap.size w W) ?D ?C ?Y w2
    ⟨⟨_, (hb2.block _ (by omega)).trans c3, c2.below hb2, fun g e => .inl (by cases e; rfl)⟩, hz2, (hb2.block _ (by omega)).trans c0, (hb2.block _ (by omega)).trans c1, (hb2.block _ (by omega)).trans c4, (hb2.block _ (by omega)).trans c5, hD2, hL2, below_step hb1 hb1.size hb2⟩).mono ?_
  case D =>
    rintro c W q ⟨⟨v, h1, h2, h3⟩, h4, h5, h6, h7, h8, h9, h10, h11⟩
    exact ⟨⟨v, h1, h2, h3⟩, h4, h5, h6, h7, h8, h9, h10, below_drewN h11 q⟩
  case C =>
    rintro c W ⟨_, _, _, _, b4, b5, _, _, hB⟩
    exact ⟨b4.cell, b5.cell, Hc.out.below hB⟩
  case Y =>
    rintro c W ac hcd ⟨⟨v, b3, hown, hvb⟩, hsz, b0, b1, b4, b5, hD, hL, hB⟩ hiac hab
    have hLlt := (Array.getElem?_eq_some_iff.1 hL).1
    have hlc := (cols_lt (d := d) (c := c) hneed1).2 hcd
    have hpl : ((d.drop (c * need)).take need).length ≤ 12 := by simp; omega
    have hpd : ∀ y ∈ (d.drop (c * need)).take need, 0 ≤ y ∧ y ≤ 250 := fun y hy => Hd.out y (List.mem_of_mem_drop (List.mem_of_mem_take hy))
    have hacb : ∀ p, ac = some p → p.block < w.heap.size := fun p hp => by
      obtain ⟨q, hq, hpq⟩ := hab p hp
      obtain ⟨b', hb', h⟩ := Hc.out.block (show 0 < d.length by omega)
      rw [hq] at hb'; cases hb'; omega
    have Hz := Lib.hid (shardV_take (x := x) hlc)
    have hzl := Lib.hid (show ((shardV d need x).take c).length ≤ 1099511627776 by rw [List.length_take, shardV_len]; omega)
    have Hpd := Lib.hid hpd
    clear hpd hab hlc hcd
    generalize (d.drop (c * need)).take need = col at *
    refine Hround.out #[.slice ac col.length col.length] W _ rfl hL ?_
    gi_wp2
    refine ⟨hL, ?_⟩
    have hg1 := grownBy_putObj' W (w1.heap.size + 1) (rec .busy none)
    have hL3 : (W.putObj (w1.heap.size + 1) (rec .busy none)).heap[w1.heap.size + 1]? = some (rec .busy none) := World.putObj_heap_same hLlt
    have hD3 : (W.putObj (w1.heap.size + 1) (rec .busy none)).heap[w1.heap.size]? = some (.deferred (some [])) := (World.putObj_heap_other (by omega)).trans hD
    have b0 := b0.kept hg1 (by simp; omega)
    have b1 := b1.kept hg1 (by simp; omega)
    have b3 := b3.kept hg1 (by simp; omega)
    have b4 := b4.kept hg1 (by simp; omega)
    have b5 := b5.kept hg1 (by simp; omega)
    have hown := hown.kept hg1 (.inr (fun e => by rcases hvb _ e with h | h <;> omega))
    have hi3 := hiac.other hg1 (fun b' e => by have := hacb _ e; omega)
    have hB3 : Below w.heap.size w (W.putObj (w1.heap.size + 1) (rec .busy none)) := hB.grown hg1 hB.size (fun k e => by cases e; omega)
    have hsz3 : w1.heap.size + 2 ≤ (W.putObj (w1.heap.size + 1) (rec .busy none)).heap.size := by rw [World.putObj_size]; exact hsz
    clear hL hD hB hg1 hLlt hiac
    generalize W.putObj (w1.heap.size + 1) (rec .busy none) = W3 at *
    have Hcall := Lib.hid (fun W4 (h : IntsAt W4 ac col) => impl_valueAt ac col.length col x W4 (by omega) Hpd.out hx0 hx8 h)
    generalize horZ col x = z at *
    generalize (shardV d need x).take c = zs at hown Hz hzl
    have h3 := b3.cell
    have h0 := b0.cell
    gi_wp2_with fail
    refine region_round_L 6 (fun w' => w'.cell? ⟨w.heap.size + 1 + 1 + 1, 0, none⟩ = some v ∧ w'.cell? ⟨w.heap.size, 0, none⟩ = some (.int .i64 x)) (by kernel_rfl) (by kernel_rfl) ⟨h3, h0⟩ (fun hH => ?_)
    refine takeL 0 (v := ?v0) rfl (by kernel_rfl) (by kernel_rfl) (by kernel_rfl) (by kernel_rfl) (by kernel_rfl) (fun _ _ _ h => h) hH rfl ?y0 ?r0
    case y0 => intro w hSw; go_simp; try with_reducible rfl
    try simp only [Act.put, List.setIfInBounds_toArray, List.set_cons_zero, List.set_cons_succ]
    refine takeL 1 (v := ?v1) rfl (by kernel_rfl) (by kernel_rfl) (by kernel_rfl) (by kernel_rfl) (by kernel_rfl) (fun _ _ _ h => h) hH rfl ?y1 ?r1
    case y1 => intro w hSw; go_simp; try with_reducible rfl
    try simp only [Act.put, List.setIfInBounds_toArray, List.set_cons_zero, List.set_cons_succ]
    refine takeL 2 (v := ?v2) rfl (by kernel_rfl) (by kernel_rfl) (by kernel_rfl) (by kernel_rfl) (by kernel_rfl) (fun _ _ _ h => h) hH rfl ?y2 ?r2
    case y2 => intro w hSw; go_simp; try with_reducible rfl
    try simp only [Act.put, List.setIfInBounds_toArray, List.set_cons_zero, List.set_cons_succ]
    refine callL 3 rfl (by kernel_rfl) rfl (fun K hK => ?_)
    go_simp
    refine (Hcall.out W3.drew hi3).mono ?_
    rintro e W6 ⟨rfl, hb6⟩
    have hdr : W3.drew.heap.size = W3.heap.size := rfl
    have hs6 := hb6.size
    have hs3 : W3.heap.size ≤ W6.heap.size := hs6
    refine hK.out _ _ ⟨(hb6.cell (p := ⟨w.heap.size + 1 + 1 + 1, 0, none⟩) (by simp; omega)).trans h3, (hb6.cell (p := ⟨w.heap.size, 0, none⟩) (by simp; omega)).trans h0⟩ (fun hH => ?_)
    clear hK K
    try simp only [Act.put, List.setIfInBounds_toArray, List.set_cons_zero, List.set_cons_succ]
    refine callL 4 rfl (by kernel_rfl) rfl (fun K hK => ?_)
    go_simp
    refine hK.out _ _ ⟨(World.grownBy_alloc W6 _ none).cell hH.1 (by simp), (World.grownBy_alloc W6 _ none).cell hH.2 (by simp)⟩ (fun hH => ?_)
    clear hK K
    try simp only [Act.put, List.setIfInBounds_toArray, List.set_cons_zero, List.set_cons_succ]
    have hown6 := Own.below (w := W3.drew) hown hb6
    have hB6 := below_step hB3.drew hB3.size hb6
    have hb36 := hb6
    have b0 := (hb36.block _ b0.lt).trans b0
    have b1 := (hb36.block _ b1.lt).trans b1
    have b3 := (hb36.block _ b3.lt).trans b3
    have b4 := (hb36.block _ b4.lt).trans b4
    have b5 := (hb36.block _ b5.lt).trans b5
    have hL6 := (hb36.block _ (by omega)).trans hL3
    have hD6 := (hb36.block _ (by omega)).trans hD3
    refine callL 5 rfl (by kernel_rfl) rfl (fun K hK => ?_)
    refine op_push_at TI3 W6 (.tmp 14) (.tmp 18) rfl (w.heap.size + 1 + 1) v zs z rfl hown6 hzl.out rfl (by omega) ?_
    intro v8 W8 hown8 hg8 hat8
    have hn : ∀ B, B ≠ w.heap.size + 1 + 1 → B < w1.heap.size + 2 → some B ≠ v.ownBlock := fun B hB1 hB2 e => by rcases hvb _ e.symm with h | h <;> omega
    have b0 : Boxed W8 w.heap.size 3 (.int .i64 x) := (hg8.block _ (by omega) (hn _ (by omega) (by omega))).trans b0
    have b1 : Str W8 (w.heap.size + 1) 32 #[.int .i64 0, .slice none 0 0] := (hg8.block _ (by omega) (hn _ (by omega) (by omega))).trans b1
    have b3 : Boxed W8 (w.heap.size + 1 + 1 + 1) 26 v := (hg8.block _ (by omega) (hn _ (by omega) (by omega))).trans b3
    have b4 : Boxed W8 (w.heap.size + 1 + 1 + 1 + 1) 26 (.slice a d.length cap) := (hg8.block _ (by omega) (hn _ (by omega) (by omega))).trans b4
    have b5 : Boxed W8 (w.heap.size + 1 + 1 + 1 + 1 + 1) 3 (.int .i64 (need : Int)) := (hg8.block _ (by omega) (hn _ (by omega) (by omega))).trans b5
    have hL8 := (hg8.block _ (by omega) (hn _ (by omega) (by omega))).trans hL6
    have hD8 := (hg8.block _ (by omega) (hn _ (by omega) (by omega))).trans hD6
    have hB8 := hB6.grown hg8 (by omega) (fun g e => by rcases hvb g e with h | h <;> omega)
    have hs8 : w1.heap.size + 2 ≤ W8.heap.size := by have := hg8.size; omega
    have hvb8 : ∀ g, v8.ownBlock = some g → g = w.heap.size + 1 + 1 ∨ w1.heap.size + 2 ≤ g := fun g e => by
      rcases hat8 with h | ⟨g', h, h'⟩
      · exact hvb g (by rw [← h]; exact e)
      · rw [h] at e; cases e; exact .inr (by omega)
    have h3' := b3.cell
    have h0' := b0.cell
    have f3' := b3.frozen
    refine hK.out _ _ ⟨h3', h0'⟩ (fun hH => ?_)
    clear hK K
    try simp only [Act.put, List.setIfInBounds_toArray, List.set_cons_zero, List.set_cons_succ]
    obtain ⟨g8, c8, rfl⟩ := own_succ hown8
    refine lastL rfl (by kernel_rfl) (by kernel_rfl) (by kernel_rfl) rfl (fun K hK => ?_)
    go_simp
    refine hK.out _ _ ?_
    clear hK K
    try simp only [Act.put, List.setIfInBounds_toArray, List.set_cons_zero, List.set_cons_succ]
    refine JustNormal.intro ?_
    have hL9 : (W8.setCell ⟨w.heap.size + 1 + 1 + 1, 0, none⟩ (.slice (some ⟨g8, 0, none⟩) (zs.length + 1) c8)).heap[w1.heap.size + 1]? = some (rec .busy none) := (Below.heap_setCell _ _ _ _ (by simp; omega)).trans hL8
    have hL9lt := (Array.getElem?_eq_some_iff.1 hL9).1
    have hg9 := grownBy_putObj' (W8.setCell ⟨w.heap.size + 1 + 1 + 1, 0, none⟩ (.slice (some ⟨g8, 0, none⟩) (zs.length + 1) c8)) (w1.heap.size + 1) (rec .ready none)
    have hB9 := hB8.setCell (p := ⟨w.heap.size + 1 + 1 + 1, 0, none⟩) (by simp; omega) (.slice (some ⟨g8, 0, none⟩) (zs.length + 1) c8)
    refine ⟨hL9, .inl ⟨rfl, rfl, ⟨_, (b3.set _).kept hg9 (by simp; omega), ?_, hvb8⟩, ?_, ?_, ?_, ?_, ?_, ?_, World.putObj_heap_same hL9lt, ?_⟩⟩
    · rw [Hz.out]
      exact (hown8.set_other (fun e => by rcases hvb8 _ e with h | h <;> omega) 0 (.slice (some ⟨g8, 0, none⟩) (zs.length + 1) c8)).kept hg9 (.inr (fun e => by rcases hvb8 _ e with h | h <;> omega))
    · rw [World.putObj_size]; exact Nat.le_trans hs8 (grownBy_set W8 _ 0 (.slice (some ⟨g8, 0, none⟩) (zs.length + 1) c8)).size
    · exact (b0.other (B' := w.heap.size + 1 + 1 + 1) (by omega) _).kept hg9 (by simp; omega)
    · exact (b1.other (B' := w.heap.size + 1 + 1 + 1) (by omega) 0 _).kept hg9 (by simp; omega)
    · exact (b4.other (B' := w.heap.size + 1 + 1 + 1) (by omega) _).kept hg9 (by simp; omega)
    · exact (b5.other (B' := w.heap.size + 1 + 1 + 1) (by omega) _).kept hg9 (by simp; omega)
    · exact (World.putObj_heap_other (by omega)).trans ((Below.heap_setCell _ _ _ _ (by simp; omega)).trans hD8)
    · exact hB9.grown hg9 hB9.size (fun k e => by cases e; omega)
  · rintro e W ⟨hv, ⟨v, b3, hown, hvb⟩, hsz, b0, b1, b4, b5, hD, hL, hB⟩
    refine ⟨hv, .inl ⟨hL, ?_⟩⟩
    have hg1 := grownBy_putObj' W (w1.heap.size + 1) (rec .exhausted none)
    have hD1 : (W.putObj (w1.heap.size + 1) (rec .exhausted none)).heap[w1.heap.size]? = some (.deferred (some [])) := (World.putObj_heap_other (by omega)).trans hD
    have b0 := b0.kept hg1 (by simp; omega)
    have b1 := b1.kept hg1 (by simp; omega)
    have b3 := b3.kept hg1 (by simp; omega)
    have hown := hown.kept hg1 (.inr (fun e => by rcases hvb _ e with h | h <;> omega))
    have hB1 : Below w.heap.size w (W.putObj (w1.heap.size + 1) (rec .exhausted none)) := hB.grown hg1 hB.size (fun k e => by cases e; omega)
    clear b4 b5 hL hD hB hg1
    generalize W.putObj (w1.heap.size + 1) (rec .exhausted none) = W3 at *
    rw [List.take_of_length_le (by rw [shardV_len]; omega)] at hown
    obtain ⟨av, cv, rfl, _, _⟩ := hown.ints
    have h3 := b3.cell
    have h0 := b0.cell
    have k0 := b1.cell 0 (v := .int .i64 0) rfl
    have k1 := b1.cell 1 (v := .slice none 0 0) rfl
    have f0 := b1.frozen 0
    have f1 := b1.frozen 1
    have Hown := Lib.hid hown; clear hown
    gi_wp2
    have sF := (b1.set 0 (.int .i64 x)).set 1 (.slice av (shardV d need x).length cv)
    have hF := (hB1.setCell (p := ⟨w.heap.size + 1, 0, none⟩) (by simp) (.int .i64 x)).setCell (p := ⟨w.heap.size + 1, 1, none⟩) (by simp) (.slice av (shardV d need x).length cv)
    have hDF : ((W3.setCell ⟨w.heap.size + 1, 0, none⟩ (.int .i64 x)).setCell ⟨w.heap.size + 1, 1, none⟩ (.slice av (shardV d need x).length cv)).heap[w1.heap.size]? = some (.deferred (some [])) := (Below.heap_setCell _ _ _ _ (by simp; omega)).trans ((Below.heap_setCell _ _ _ _ (by simp; omega)).trans hD1)
    have hne : (Value.slice av (shardV d need x).length cv).ownBlock ≠ some (w.heap.size + 1) := fun e => by rcases hvb _ e with h | h <;> omega
    have oF := (Hown.out.set_other hne 0 (.int .i64 x)).set_other hne 1 (.slice av (shardV d need x).length cv)
    generalize ((W3.setCell ⟨w.heap.size + 1, 0, none⟩ (.int .i64 x)).setCell ⟨w.heap.size + 1, 1, none⟩ (.slice av (shardV d need x).length cv)) = W4 at *
    have hg4 := grownBy_putObj' W4 w1.heap.size (.deferred none)
    have sG := sF.kept hg4 (by simp; omega)
    have e0 := sG.cell 0 (v := .int .i64 x) rfl
    have e1 := sG.cell 1 (v := .slice av (shardV d need x).length cv) rfl
    refine ⟨by simp, .inl ⟨_, _, rfl, run_takeDeferred hDF, ?_⟩⟩
    refine ⟨.agg #[.int .i64 x, .slice av (shardV d need x).length cv], by simp [results, Try.f50, go_sem, e0, e1], ⟨_, rfl, (oF.kept hg4 (.inr (fun e => by rcases hvb _ e with h | h <;> omega))).mono (by omega), hF.grown hg4 hF.size (fun k e => by cases e; omega)⟩⟩

end Go.Proofs.Yteglefchkecfjaa

/- What impl's list of shards is, and whether a shard belongs to data, each by a walk of its text; conditions: a list that is read has fewer than 2^40 elements and fits its capacity. -/
namespace Go.Proofs.Yteglefchkecfjaa
open Go.RowKit Go.Shelf

end Go.Proofs.Yteglefchkecfjaa

/- Arrays of numbers as values and in memory; general steps, and what impl's inverse and its equations' two operations answer, each by a walk of its text; the numbers are symbols. -/
namespace Go.Proofs.Yteglefchkecfjaa
open Go.RowKit

def arrC (n : Nat) (f : Nat → Value) : Array Value := ((List.range n).map f).toArray
theorem arrC_size (n : Nat) (f : Nat → Value) : (arrC n f).size = n := by simp [arrC]
theorem arrC_get {n : Nat} {f : Nat → Value} {j : Nat} (h : j < n) : (arrC n f)[j]? = some (f j) := by simp [arrC, h]
theorem arrC_set {n : Nat} {f : Nat → Value} {k : Nat} {v : Value} : (arrC n f).setIfInBounds k v = arrC n fun i => if i = k then v else f i := by
  apply Array.ext
  · simp [arrC]
  · intro j h1 h2
    have hj : j < n := by simpa [arrC] using h2
    rw [Array.getElem_setIfInBounds (by simpa [arrC] using hj)]
    by_cases e : k = j
    · subst e; simp [arrC]
    · have e' : ¬ j = k := fun h => e h.symm
      simp [arrC, e, e']
def eqC (e : Nat → Int) : Array Value := arrC 20 fun i => .int .i64 (e i)
theorem eqC_size (e : Nat → Int) : (eqC e).size = 20 := arrC_size _ _
theorem eqC_get {e : Nat → Int} {j : Nat} (h : j < 20) : (eqC e)[j]? = some (.int .i64 (e j)) := arrC_get h
theorem eqC_set {e : Nat → Int} {k : Nat} {z : Int} : (eqC e).setIfInBounds k (.int .i64 z) = eqC fun i => if i = k then z else e i := by
  unfold eqC; rw [arrC_set]; congr 1; funext i
  by_cases h : i = k <;> simp [h]
theorem eqC_congr {e f : Nat → Int} (h : ∀ i, i < 20 → e i = f i) : eqC e = eqC f := by
  unfold eqC arrC
  congr 1
  exact List.map_congr_left fun i hi => by rw [h i (List.mem_range.1 hi)]
theorem eqC_one (e : Nat → Int) : (eqC e).all (·.oneCell') = true := by
  rw [Array.all_eq_true_iff_forall_mem]
  intro v hv
  simp only [eqC, arrC, List.mem_toArray, List.mem_map] at hv
  obtain ⟨i, _, rfl⟩ := hv
  rfl

/-! reading an array -/
theorem run_index_arr {P : Program} {T E : TypeId} {n k : Nat} {d : TypeDesc} {cs : Array Value} {v : Value} (hu : P.underlying T = some (.array n E)) (hE : P.underlying E = some d) (hd : (match d with | .struct _ | .array _ _ => true | _ => false) = false)
    (hs : (P.info? E).map (·.size) = some 1) (hk : k < n) (hc : cs[k]? = some v) (w : World) : (Instr.index T (.agg cs) (.int .i64 k)).run P w = .ok v w := by
  have h1 := run_underlying hu w
  have h2 : (isAgg E).run P w = .ok false w := by
    unfold isAgg; rw [Sem.run_bind, run_underlying hE w]; cases d <;> simp_all
  cases hq : P.info? E with
  | none => simp [hq] at hs
  | some i =>
    have hz : i.size = 1 := by simpa [hq] using hs
    simp [Instr.index, asIntOf, Sem.run_bind, h1, part, h2, sizeOf, typeInfo, hq, hz, hk, hc]
theorem run_indexAt_arr {P : Program} {T E : TypeId} {n s k B o : Nat} (hu : P.underlying T = some (.array n E)) (hs : (P.info? E).map (·.size) = some s) (hk : k < n) (w : World) :
    (Instr.indexAt T (.pointer (some ⟨B, o, none⟩)) (.int .i64 k)).run P w = .ok (.pointer (some ⟨B, o + k * s, none⟩)) w := by
  have h1 := run_underlying hu w
  cases hq : P.info? E with
  | none => simp [hq] at hs
  | some i =>
    have hz : i.size = s := by simpa [hq] using hs
    simp [Instr.indexAt, asIntOf, Instr.sureAddr, Sem.run_bind, h1, sizeOf, typeInfo, hq, hz, hk, addr_add']
theorem zero20 : eqC (fun _ => 0) = #[.int .i64 0, .int .i64 0, .int .i64 0, .int .i64 0, .int .i64 0, .int .i64 0, .int .i64 0, .int .i64 0, .int .i64 0, .int .i64 0, .int .i64 0, .int .i64 0, .int .i64 0, .int .i64 0, .int .i64 0, .int .i64 0, .int .i64 0, .int .i64 0, .int .i64 0, .int .i64 0] := rfl
theorem setRow_str {W : World} {B : Nat} {t : TypeId} {vs : Array Value} (h : Str W B t vs) (cs : Array Value) : Str (W.setRow B cs) B t cs := setRow_heap W B vs cs t (0, 0) h
theorem grownBy_setRow (W : World) (B : Nat) (cs : Array Value) : W.grownBy (W.setRow B cs) (some B) := ⟨rfl, rfl, rfl, by simp [World.setRow], fun k _ hk => setRow_other W B k cs (fun e => hk (by rw [e]))⟩

theorem impl_inverse (n : Int) (w : World) (h0 : 0 ≤ n) (h1 : n ≤ 250) : Calls Try.prog 90 #[.int .i64 n] w fun e w' => e = .returned (.int .i64 (invZ n)) ∧ w = w' := by
  obtain ⟨m, hm⟩ : ∃ m : Nat, m = 249 := ⟨_, rfl⟩
  have Hm := Lib.hid hm; clear hm
  go_enter Try.func90, Try.ntmps90
  go_wp2
  go_loop [3, 4] (fun p i => ∃ k : Nat, k ≤ m ∧ i = .int .i64 k ∧ p = .int .i64 (powF n k)) (fun _ i => m - (intOf i).toNat)
  case atStart => exact ⟨0, Nat.zero_le _, rfl, rfl⟩
  case round =>
    obtain ⟨k, hk, rfl, rfl⟩ := hrel
    have hbd := powF_bd n k
    have hm := mul_bd hbd.1 hbd.2 h0 h1
    have hs := Lib.hid (show powF n (k + 1) = powF n k * n % 251 from rfl)
    by_cases hlt : k < m
    · have hlt' : (k : Int) < 249 := by have := Hm.out; omega
      generalize powF n k = p at *
      obtain ⟨q, hq⟩ : ∃ q, p * n = q := ⟨_, rfl⟩
      rw [hq] at hm
      have hs' := Lib.hid (hs.out.trans (by rw [hq]))
      clear hs
      go_wp2
      go_round
      case rel => exact ⟨k + 1, by omega, by go_num, int_eq (by rw [hs'.out])⟩
      case measure => simp [intOf]; omega
    · have hk2 : ¬ (k : Int) < 249 := by have := Hm.out; omega
      have hf := Lib.hid (show powF n k = invZ n by unfold invZ; congr 1; have := Hm.out; omega)
      go_wp2
      go_ret
      exact ⟨ret_int hf.out, rfl⟩

theorem impl_times (e : Nat → Int) (c : Int) (w : World) (he : ∀ i, 0 ≤ e i ∧ e i ≤ 250) (h0 : 0 ≤ c) (h1 : c ≤ 250) :
    Calls Try.prog 89 #[.agg (eqC e), .int .i64 c] w fun r w' => r = .returned (.agg (eqC (tmsE e c))) ∧ Below w.heap.size w w' := by
  have He := Lib.hid he; clear he
  go_enter Try.func89, Try.ntmps89
  go_wp2_with (refine wpList_load_row rfl 69 _ rfl w.heap.size rfl 69 (eqC e) (0, 0) _ ((Str.new w 69 (eqC e)).alloc _) Try.underlying69 rfl (by rw [eqC_size]; kernel_rfl) ?_)
  rw [← zero20]
  go_loopw [8] (fun i wr => ∃ k : Nat, k ≤ 20 ∧ i = .int .i64 k ∧ Str wr w.heap.size 69 (eqC fun j => if j < k then tmsE e c j else e j) ∧ Str wr (w.heap.size + 1) 69 (eqC fun _ => 0) ∧ Below w.heap.size w wr) (fun i _ => 20 - (intOf i).toNat)
  case atStart =>
    have h2 := Str.new (w.alloc (.cells (eqC e) 69)) 69 (eqC fun _ => 0)
    simp only [World.size_alloc] at h2
    exact ⟨0, by omega, rfl, by simpa using (Str.new w 69 (eqC e)).alloc _, h2, ((Below.refl _ w).alloc (Nat.le_refl _) _).alloc (by simp) _⟩
  case round =>
    obtain ⟨k, hk, rfl, s0, s1, hbel⟩ := hrel
    by_cases hlt : k < 20
    · have hlt' : (k : Int) < 20 := by omega
      have hx := fun w => run_index_arr (P := Try.prog) (cs := eqC e) Try.underlying69 Try.underlying3 rfl (by kernel_rfl) hlt (eqC_get hlt) w
      have hxa := fun w => run_indexAt_arr (P := Try.prog) (B := w.heap.size) (o := 0) Try.underlying69 (s := 1) (by kernel_rfl) hlt w
      simp only [Nat.zero_add, Nat.mul_one] at hxa
      have hcell := s0.cell k (v := .int .i64 (e k)) (by rw [eqC_get hlt]; simp)
      have hfr := s0.frozen k
      have hy := He.out k
      have ht := Lib.hid (show e k * c % 251 = tmsE e c k from rfl)
      generalize e k = y at *
      have hm := mul_bd hy.1 hy.2 h0 h1
      obtain ⟨q, hq⟩ : ∃ q, y * c = q := ⟨_, rfl⟩
      rw [hq] at hm
      have ht' := Lib.hid (show q % 251 = tmsE e c k by rw [← ht.out, hq])
      clear ht
      have Hs0 := Lib.hid s0; clear s0
      have Hs1 := Lib.hid s1; clear s1
      go_wp2
      go_roundw
      case rel =>
        refine ⟨k + 1, by omega, by go_num, ?_, Hs1.out.other (by omega) k _, hbel.setCell (p := ⟨w.heap.size, k, none⟩) (Nat.le_refl _) _⟩
        have := Hs0.out.set k (.int .i64 (q % 251))
        rw [eqC_set] at this
        rw [ht'.out] at this
        rw [show (eqC fun j => if j < k + 1 then tmsE e c j else e j) = eqC fun i => if i = k then tmsE e c k else if i < k then tmsE e c i else e i from eqC_congr fun i _ => by
          by_cases h1 : i = k
          · subst h1; simp
          · by_cases h2 : i < k
            · simp [h1, h2, show i < k + 1 by omega]
            · simp [h1, h2, show ¬ i < k + 1 by omega]]
        rw [ht'.out]
        exact this
      case measure => simp [intOf]; omega
    · have hk20 : k = 20 := by omega
      subst hk20
      rw [show (eqC fun j => if j < 20 then tmsE e c j else e j) = eqC (tmsE e c) from eqC_congr fun i hi => by simp [hi]] at s0
      go_wp2_with (first
        | refine wpList_load_row rfl 69 _ rfl w.heap.size rfl 69 (eqC (tmsE e c)) (0, 0) _ s0 Try.underlying69 rfl (by rw [eqC_size]; kernel_rfl) ?_
        | refine wpList_store_row rfl 69 _ _ rfl (w.heap.size + 1) (eqC (tmsE e c)) rfl rfl 69 (eqC fun _ => 0) s1 (by rw [eqC_size]; kernel_rfl) (by rw [eqC_size, eqC_size]) (eqC_one _) ?_)
      have sF := setRow_str s1 (eqC (tmsE e c))
      refine bodyPost_ret (results_cell_row rfl _ _ (w.heap.size + 1) 69 (eqC (tmsE e c)) (0, 0) _ rfl sF Try.underlying69 rfl (by rw [eqC_size]; kernel_rfl)) rfl ⟨rfl, ?_⟩
      exact hbel.grown (grownBy_setRow wr _ _) hbel.size (fun g e => by cases e; omega)

theorem impl_without (e f : Nat → Int) (w : World) (he : ∀ i, 0 ≤ e i ∧ e i ≤ 250) (hf : ∀ i, 0 ≤ f i ∧ f i ≤ 250) :
    Calls Try.prog 91 #[.agg (eqC e), .agg (eqC f)] w fun r w' => r = .returned (.agg (eqC (wthE e f))) ∧ Below w.heap.size w w' := by
  have He := Lib.hid he; clear he
  have Hf := Lib.hid hf; clear hf
  have hs1 := Str.new (w.alloc (.cells (eqC e) 69)) 69 (eqC f)
  simp only [World.size_alloc] at hs1
  have Hs1 := Lib.hid hs1; clear hs1
  go_enter Try.func91, Try.ntmps91
  go_wp2_with (refine wpList_load_row rfl 69 _ rfl (w.heap.size + 1) rfl 69 (eqC f) (0, 0) _ (Hs1.out.alloc _) Try.underlying69 rfl (by rw [eqC_size]; kernel_rfl) ?_)
  rw [← zero20]
  go_loopw [8] (fun i wr => ∃ k : Nat, k ≤ 20 ∧ i = .int .i64 k ∧ Str wr w.heap.size 69 (eqC fun j => if j < k then wthE e f j else e j) ∧ Str wr (w.heap.size + 1 + 1) 69 (eqC fun _ => 0) ∧ Below w.heap.size w wr) (fun i _ => 20 - (intOf i).toNat)
  case atStart =>
    have h2 := Str.new ((w.alloc (.cells (eqC e) 69)).alloc (.cells (eqC f) 69)) 69 (eqC fun _ => 0)
    simp only [World.size_alloc] at h2
    exact ⟨0, by omega, rfl, by simpa using ((Str.new w 69 (eqC e)).alloc _).alloc _, h2, (((Below.refl _ w).alloc (Nat.le_refl _) _).alloc (by simp) _).alloc (by simp; omega) _⟩
  case round =>
    obtain ⟨k, hk, rfl, s0, s1, hbel⟩ := hrel
    by_cases hlt : k < 20
    · have hlt' : (k : Int) < 20 := by omega
      have hx := fun w => run_index_arr (P := Try.prog) (cs := eqC f) Try.underlying69 Try.underlying3 rfl (by kernel_rfl) hlt (eqC_get hlt) w
      have hxa := fun w' => run_indexAt_arr (P := Try.prog) (B := w.heap.size) (o := 0) Try.underlying69 (s := 1) (by kernel_rfl) hlt w'
      simp only [Nat.zero_add, Nat.mul_one] at hxa
      have hcell := s0.cell k (v := .int .i64 (e k)) (by rw [eqC_get hlt]; simp)
      have hfr := s0.frozen k
      have hy := He.out k
      have hz := Hf.out k
      have ht := Lib.hid (show (e k + 251 - f k) % 251 = wthE e f k from rfl)
      generalize e k = y at *
      generalize f k = z at *
      have Hs0 := Lib.hid s0; clear s0
      have Hs1 := Lib.hid s1; clear s1
      go_wp2
      go_roundw
      case rel =>
        refine ⟨k + 1, by omega, by go_num, ?_, Hs1.out.other (by omega) k _, hbel.setCell (p := ⟨w.heap.size, k, none⟩) (Nat.le_refl _) _⟩
        have := Hs0.out.set k (.int .i64 ((y + 251 - z) % 251))
        rw [eqC_set] at this
        rw [ht.out] at this
        rw [show (eqC fun j => if j < k + 1 then wthE e f j else e j) = eqC fun i => if i = k then wthE e f k else if i < k then wthE e f i else e i from eqC_congr fun i _ => by
          by_cases h1 : i = k
          · subst h1; simp
          · by_cases h2 : i < k
            · simp [h1, h2, show i < k + 1 by omega]
            · simp [h1, h2, show ¬ i < k + 1 by omega]]
        rw [ht.out]
        exact this
      case measure => simp [intOf]; omega
    · have hk20 : k = 20 := by omega
      subst hk20
      rw [show (eqC fun j => if j < 20 then wthE e f j else e j) = eqC (wthE e f) from eqC_congr fun i hi => by simp [hi]] at s0
      go_wp2_with (first
        | refine wpList_load_row rfl 69 _ rfl w.heap.size rfl 69 (eqC (wthE e f)) (0, 0) _ s0 Try.underlying69 rfl (by rw [eqC_size]; kernel_rfl) ?_
        | refine wpList_store_row rfl 69 _ _ rfl (w.heap.size + 1 + 1) (eqC (wthE e f)) rfl rfl 69 (eqC fun _ => 0) s1 (by rw [eqC_size]; kernel_rfl) (by rw [eqC_size, eqC_size]) (eqC_one _) ?_)
      have sF := setRow_str s1 (eqC (wthE e f))
      refine bodyPost_ret (results_cell_row rfl _ _ (w.heap.size + 1 + 1) 69 (eqC (wthE e f)) (0, 0) _ rfl sF Try.underlying69 rfl (by rw [eqC_size]; kernel_rfl)) rfl ⟨rfl, ?_⟩
      exact hbel.grown (grownBy_setRow wr _ _) hbel.size (fun g e => by cases e; omega)

end Go.Proofs.Yteglefchkecfjaa

/- What impl's equation of a shard is, by a walk of its text; conditions: the shard has a number up to eight and one to twelve values. -/
namespace Go.Proofs.Yteglefchkecfjaa
open Go.RowKit

/-- copy of some numbers into a block known whole, as an operation of a region. -/
theorem op_copy {P : Program} {w : World} {o : Oper} {a : Act} {K : Act → World → Prop} {Q : Exit → Act → World → Prop} (d s : Operand) (dT sT : TypeId)
    (ho : o.op = .call { callee := .builtin .copy, args := #[d, s], argTypes := #[dT, sT] }) (elem : TypeId) (hu : P.underlying dT = some (.slice elem)) (hsz : (P.info? elem).map (·.size) = some 1)
    (g off dLen dCap : Nat) (ad : Addr) (sLen sCap : Nat) (hd : a.eval d = .slice (some ⟨g, off, none⟩) dLen dCap) (hs : a.eval s = .slice (some ad) sLen sCap)
    (cur : Array Value) (t : TypeId) (hg : w.heap[g]? = some (.cells cur t (0, 0))) (cs : List Value) (hn : cs.length = Nat.min sLen dLen)
    (hsrc : ∀ j v, cs[j]? = some v → w.cell? (ad.add j) = some v) (hfit : off + cs.length ≤ cur.size) (h1 : ∀ v ∈ cs, v.oneCell' = true)
    (h : K (a.put o.dst (goInt cs.length)) (w.setRow g (cur.toList.take off ++ (cs ++ cur.toList.drop (off + cs.length))).toArray)) : Oper.wp P o a w K Q := by
  have hrun := run_copy_row (P := P) w dT sT o.type elem g off dLen dCap ad sLen sCap cur t cs hu hsz hg hn hsrc hfit h1
  unfold Oper.wp
  simp [execOp, ho, resolve, invoke, builtin, hd, hs, hrun, Result.andThen]
  exact h
theorem eqn_splice {need : Nat} (hn : need ≤ 8) (x : Int) (vs : List Int) (hv : vs.length ≤ 12) :
    ((eqC fun j => if j < need then powF x j else 0).toList.take 8 ++ (vs.map (Value.int .i64) ++ (eqC fun j => if j < need then powF x j else 0).toList.drop (8 + (vs.map (Value.int .i64)).length))).toArray = eqC (eqOf need x vs) := by
  unfold eqC arrC
  congr 1
  apply List.ext_getElem
  · simp; omega
  · intro i h1 h2
    have hi : i < 20 := by simpa using h2
    rw [List.getElem_map, List.getElem_range]
    by_cases h8 : i < 8
    · rw [List.getElem_append_left (by simp; omega)]
      simp only [List.getElem_take, List.getElem_map, List.getElem_range]
      congr 1
      unfold eqOf
      by_cases hh : i < need
      · simp [hh]
      · simp [hh, h8]
    · by_cases hl : i < 8 + vs.length
      · rw [List.getElem_append_right (by simp; omega), List.getElem_append_left (by simp; omega)]
        simp only [List.getElem_map]
        congr 1
        unfold eqOf
        rw [if_neg (by omega), if_neg h8, getD_get (by omega)]
        congr 1
        all_goals simp
      · rw [List.getElem_append_right (by simp; omega), List.getElem_append_right (by simp; omega)]
        simp only [List.getElem_drop, List.getElem_map, List.getElem_range]
        congr 1
        unfold eqOf
        rw [if_neg (by omega), if_neg (by simp; omega), if_neg h8, List.getD_eq_getElem?_getD, List.getElem?_eq_none (by omega)]
        rfl

theorem impl_equationOf (need : Nat) (x : Int) (av : Option Addr) (cv : Nat) (vs : List Int) (w : World) (hn : need ≤ 8) (hx0 : 0 ≤ x) (hx8 : x ≤ 8) (hv1 : 1 ≤ vs.length) (hv12 : vs.length ≤ 12) (hc : IntsAt w av vs) :
    Calls Try.prog 88 #[.int .i64 (need : Int), .agg #[.int .i64 x, .slice av vs.length cv]] w fun r w' => r = .returned (.agg (eqC (eqOf need x vs))) ∧ Below w.heap.size w w' := by
  obtain ⟨b, off, rfl, hb, hcs⟩ := hc.cell (by omega)
  have Hcs := Lib.hid hcs; clear hcs hc
  go_enter Try.func88, Try.ntmps88
  go_wp2_with fail
  rw [← zero20]
  go_loopw [6, 9] (fun f i wr => ∃ k : Nat, k ≤ need ∧ i = .int .i64 k ∧ f = .int .i64 (powF x k) ∧ Str wr w.heap.size 32 #[.int .i64 x, .slice (some ⟨b, off, none⟩) vs.length cv] ∧ Str wr (w.heap.size + 1) 69 (eqC fun _ => 0) ∧ Str wr (w.heap.size + 1 + 1) 69 (eqC fun j => if j < k then powF x j else 0) ∧ Below w.heap.size w wr) (fun _ i _ => need - (intOf i).toNat)
  case atStart =>
    have h0 := ((Str.new w 32 #[.int .i64 x, .slice (some ⟨b, off, none⟩) vs.length cv]).alloc (.cells (eqC fun _ => 0) 69)).alloc (.cells (eqC fun _ => 0) 69)
    have h1 := (Str.new (w.alloc (.cells #[.int .i64 x, .slice (some ⟨b, off, none⟩) vs.length cv] 32)) 69 (eqC fun _ => 0)).alloc (.cells (eqC fun _ => 0) 69)
    have h2 := Str.new ((w.alloc (.cells #[.int .i64 x, .slice (some ⟨b, off, none⟩) vs.length cv] 32)).alloc (.cells (eqC fun _ => 0) 69)) 69 (eqC fun _ => 0)
    simp only [World.size_alloc] at h1 h2
    exact ⟨0, by omega, rfl, rfl, h0, h1, by simpa using h2, (((Below.refl _ w).alloc (Nat.le_refl _) _).alloc (by simp) _).alloc (by simp; omega) _⟩
  case round =>
    obtain ⟨k, hk, rfl, rfl, s0, s1, s2, hbel⟩ := hrel
    by_cases hlt : k < need
    · have hxa := fun w' => run_indexAt_arr (P := Try.prog) (B := w.heap.size + 1 + 1) (o := 0) Try.underlying69 (s := 1) (by kernel_rfl) (show k < 20 by omega) w'
      simp only [Nat.zero_add, Nat.mul_one] at hxa
      have hcell := s2.cell k (v := .int .i64 0) (by rw [eqC_get (by omega)]; simp)
      have hfr := s2.frozen k
      have hc0 := s0.cell 0 (v := .int .i64 x) rfl
      have hbd := powF_bd x k
      have hm := mul_bd hbd.1 hbd.2 hx0 hx8
      have ht := Lib.hid (show powF x (k + 1) = powF x k * x % 251 from rfl)
      have hpk := Lib.hid (show powF x k = powF x k from rfl)
      obtain ⟨p, hp⟩ : ∃ p, p = powF x k := ⟨_, rfl⟩
      rw [← hp] at hbd hm ht
      have Hp := Lib.hid hp
      rw [← hp]
      clear hp
      obtain ⟨q, hq⟩ : ∃ q, p * x = q := ⟨_, rfl⟩
      rw [hq] at hm
      have ht' := Lib.hid (ht.out.trans (by rw [hq]))
      clear ht hpk
      have Hs0 := Lib.hid s0; clear s0
      have Hs1 := Lib.hid s1; clear s1
      have Hs2 := Lib.hid s2; clear s2
      go_wp2
      go_roundw
      case rel =>
        refine ⟨k + 1, by omega, by go_num, int_eq ht'.out.symm, Hs0.out.other (by omega) k _, Hs1.out.other (by omega) k _, ?_, hbel.setCell (p := ⟨w.heap.size + 1 + 1, k, none⟩) (by simp; omega) _⟩
        have := Hs2.out.set k (.int .i64 p)
        rw [eqC_set] at this
        rw [show (eqC fun j => if j < k + 1 then powF x j else 0) = eqC fun i => if i = k then p else if i < k then powF x i else 0 from eqC_congr fun i _ => by
          by_cases h1 : i = k
          · subst h1; simp [Hp.out]
          · by_cases h2 : i < k
            · simp [h1, h2, show i < k + 1 by omega]
            · simp [h1, h2, show ¬ i < k + 1 by omega]]
        exact this
      case measure => simp [intOf]; omega
    · have hke : k = need := by omega
      subst hke
      have h0 := s0.cell 1 (v := .slice (some ⟨b, off, none⟩) vs.length cv) rfl
      go_wp2_with fail
      refine wp_region_L 3 (fun w' => w'.cell? ⟨w.heap.size, 1, none⟩ = some (.slice (some ⟨b, off, none⟩) vs.length cv)) (by kernel_rfl) h0 (fun hH => ?_)
      refine takeL 0 (v := ?v0) rfl (by kernel_rfl) (by kernel_rfl) (by kernel_rfl) (by kernel_rfl) (by kernel_rfl) (fun _ _ _ h => h) hH rfl ?y0 ?r0
      case y0 => intro w hSw; go_simp; try with_reducible rfl
      try simp only [Act.put, List.setIfInBounds_toArray, List.set_cons_zero, List.set_cons_succ]
      refine callL 1 rfl (by kernel_rfl) rfl (fun K hK => ?_)
      go_simp
      refine hK.out _ _ hH (fun hH => ?_)
      clear hK K
      try simp only [Act.put, List.setIfInBounds_toArray, List.set_cons_zero, List.set_cons_succ]
      refine takeL 2 (v := ?v2) rfl (by kernel_rfl) (by kernel_rfl) (by kernel_rfl) (by kernel_rfl) (by kernel_rfl) (fun _ _ _ h => h) hH rfl ?y2 ?r2
      case y2 => intro w hSw; go_simp; try with_reducible rfl
      try simp only [Act.put, List.setIfInBounds_toArray, List.set_cons_zero, List.set_cons_succ]
      refine lastL rfl (by kernel_rfl) (by kernel_rfl) (by kernel_rfl) rfl (fun K hK => ?_)
      refine op_copy (.tmp 21) (.tmp 23) 26 26 rfl 3 Try.underlying26 (by kernel_rfl) (w.heap.size + 1 + 1) 8 12 12 ⟨b, off, none⟩ vs.length cv rfl rfl _ 69 s2 (vs.map (Value.int .i64)) (by rw [List.length_map]; exact (Nat.min_eq_left hv12).symm) ?_ (by rw [eqC_size]; simp; omega) (by intro v hv; obtain ⟨z, _, rfl⟩ := List.mem_map.1 hv; rfl) ?_
      · intro j v hj
        rw [List.getElem?_map] at hj
        obtain ⟨z, hz, rfl⟩ := Option.map_eq_some_iff.1 hj
        obtain ⟨hjl, rfl⟩ := List.getElem?_eq_some_iff.1 hz
        rw [addr_add']
        exact (hbel.drew.cell (p := ⟨b, off + j, none⟩) hb).trans (Hcs.out j hjl)
      rw [eqn_splice hn x vs hv12]
      have sE := setRow_str (W := wr.drew) s2 (eqC (eqOf k x vs))
      have sR : Str (wr.drew.setRow (w.heap.size + 1 + 1) (eqC (eqOf k x vs))) (w.heap.size + 1) 69 (eqC fun _ => 0) := Str.kept (W := wr.drew) s1 (grownBy_setRow _ _ _) (by simp)
      have hbE := hbel.drew.grown (grownBy_setRow wr.drew (w.heap.size + 1 + 1) (eqC (eqOf k x vs))) hbel.size (fun g e => by cases e; omega)
      generalize wr.drew.setRow (w.heap.size + 1 + 1) (eqC (eqOf k x vs)) = W4 at *
      refine hK.out _ _ ?_
      clear hK K
      try simp only [Act.put, List.setIfInBounds_toArray, List.set_cons_zero, List.set_cons_succ]
      go_wp2_with (first
        | refine wpList_load_row rfl 69 _ rfl (w.heap.size + 1 + 1) rfl 69 (eqC (eqOf k x vs)) (0, 0) _ sE Try.underlying69 rfl (by rw [eqC_size]; kernel_rfl) ?_
        | refine wpList_store_row rfl 69 _ _ rfl (w.heap.size + 1) (eqC (eqOf k x vs)) rfl rfl 69 (eqC fun _ => 0) sR (by rw [eqC_size]; kernel_rfl) (by rw [eqC_size, eqC_size]) (eqC_one _) ?_)
      have sF := setRow_str sR (eqC (eqOf k x vs))
      refine bodyPost_ret (results_cell_row rfl _ _ (w.heap.size + 1) 69 (eqC (eqOf k x vs)) (0, 0) _ rfl sF Try.underlying69 rfl (by rw [eqC_size]; kernel_rfl)) rfl ⟨rfl, ?_⟩
      exact hbE.grown (grownBy_setRow W4 _ _) hbE.size (fun g e => by cases e; omega)

end Go.Proofs.Yteglefchkecfjaa

/- What the helpers of the laws on shards answer where the two lists are equal, each by a walk of its text; conditions: the lists have fewer than 2^40 elements. -/
namespace Go.Proofs.Yteglefchkecfjaa
open Go.RowKit

/-- A list of shards in memory. -/
theorem shards_at {w : World} {L : List (Int × List Int)} {a : Option Addr} {n cap : Nat} {fp : List Nat} (h : Rd w (.l (L.map shardD)) (.slice a n cap) fp) (hne : 0 < L.length) :
    ∃ g off, a = some ⟨g, off, none⟩ ∧ g < w.heap.size ∧ ∀ k (hk : k < L.length), ∃ av cv, w.cell? ⟨g, off + k * 2, none⟩ = some (.int .i64 L[k].1) ∧ w.cell? ⟨g, off + k * 2 + 1, none⟩ = some (.slice av L[k].2.length cv) ∧ IntsAt w av L[k].2 := by
  obtain ⟨g, off, rfl, hg, _, _, _, hc⟩ := Rd.at h (by simpa using hne) (sz := 2) (by intro e he; simp at he; obtain ⟨x, y, _, rfl⟩ := he; rfl)
  refine ⟨g, off, rfl, hg, fun k hk => ?_⟩
  have hk' : k < (L.map shardD).length := by simpa using hk
  have he : (L.map shardD)[k] = shardD L[k] := by simp
  obtain ⟨v0, f0, h0, r0, _⟩ := hc k 0 hk' (by rw [he]; simp [shardD])
  obtain ⟨v1, f1, h1, r1, _⟩ := hc k 1 hk' (by rw [he]; simp [shardD])
  have r0' : Rd w (.i L[k].1) v0 f0 := by simpa [shardD] using r0
  have r1' : Rd w (intsD L[k].2) v1 f1 := by simpa [shardD] using r1
  obtain ⟨rfl, _⟩ := r0'.int
  obtain ⟨av, cv, rfl, _, hi⟩ := r1'.ints
  exact ⟨av, cv, h0, by rw [Nat.add_assoc]; exact h1, hi⟩

end Go.Proofs.Yteglefchkecfjaa

/- Whether shards have different numbers and the right lengths, as impl reckons it, by a walk of its text; conditions: the lists are short. -/
namespace Go.Proofs.Yteglefchkecfjaa
open Go.RowKit

def seenB (L : List Sh) (k : Nat) (n : Nat) : Bool := (List.range k).any fun j => decide (xsOf L j = (n : Int))
def seenC (L : List Sh) (k : Nat) : Array Value := arrC 9 fun n => .bool (seenB L k n)
theorem seen0 (L : List Sh) : seenC L 0 = #[.bool false, .bool false, .bool false, .bool false, .bool false, .bool false, .bool false, .bool false, .bool false] := rfl
theorem seenB_succ (L : List Sh) (k n : Nat) : seenB L (k + 1) n = (seenB L k n || decide (xsOf L k = (n : Int))) := by
  unfold seenB; rw [List.range_succ, List.any_append]; simp
theorem seenC_set {L : List Sh} {k n : Nat} (h : xsOf L k = (n : Int)) : (seenC L k).setIfInBounds n (.bool true) = seenC L (k + 1) := by
  unfold seenC
  rw [arrC_set]
  congr 1
  funext i
  rw [seenB_succ, h]
  by_cases e : i = n
  · subst e; simp
  · have e' : ¬ (n : Int) = (i : Int) := by omega
    simp [e, e']
theorem newAt_seen {L : List Sh} {k n : Nat} (h : xsOf L k = (n : Int)) : newAt L k = !seenB L k n := by
  unfold newAt seenB allB
  rw [h, List.not_any_eq_all_not]
  congr 1
  funext j
  by_cases e : xsOf L j = (n : Int) <;> simp [e]
theorem shAt_num {cols : Nat} {L : List Sh} {k : Nat} (hk : k < L.length) (h : ¬ (1 ≤ L[k].1 ∧ L[k].1 ≤ 8)) : shAt cols L k = false := by
  unfold shAt okS; rw [getS hk, decide_eq_false h]; simp
theorem shAt_seen {cols : Nat} {L : List Sh} {k n : Nat} (hk : k < L.length) (hn : L[k].1 = (n : Int)) (h : seenB L k n = true) : shAt cols L k = false := by
  unfold shAt; rw [newAt_seen (n := n) (by unfold xsOf; rw [getS hk]; exact hn), h]; simp
theorem shAt_len {cols : Nat} {L : List Sh} {k : Nat} (hk : k < L.length) (h : ¬ L[k].2.length = cols) : shAt cols L k = false := by
  unfold shAt okS; rw [getS hk, decide_eq_false h]; simp
theorem shAt_sym {cols : Nat} {L : List Sh} {k : Nat} (hk : k < L.length) (h : L[k].2.all symB = false) : shAt cols L k = false := by
  unfold shAt okS; rw [getS hk, h]; simp
theorem shAt_yes {cols : Nat} {L : List Sh} {k n : Nat} (hk : k < L.length) (hn : L[k].1 = (n : Int)) (h1 : 1 ≤ L[k].1 ∧ L[k].1 ≤ 8) (h : seenB L k n = false) (hl : L[k].2.length = cols) (hs : L[k].2.all symB = true) : shAt cols L k = true := by
  unfold shAt okS; rw [newAt_seen (n := n) (by unfold xsOf; rw [getS hk]; exact hn), h, getS hk, decide_eq_true h1, decide_eq_true hl, hs]; rfl

set_option maxHeartbeats 1000000 in
theorem impl_areShards (size need : Nat) (L : List Sh) (v : Value) (fp : List Nat) (w : World) (hs1 : 1 ≤ size) (hs2 : size ≤ 12) (hn1 : 1 ≤ need) (hn2 : need ≤ 8) (hbig : L.length ≤ 1048576) (hin : ∀ s ∈ L, s.2.length ≤ 1048576) (hr : Rd w (.l (L.map shardD)) v fp) :
    Calls Try.prog 44 #[.int .i64 (size : Int), .int .i64 (need : Int), v] w fun e w' => e = .returned (.bool (lenB need L && shsB ((size + need - 1) / need) L)) ∧ Below w.heap.size w w' := by
  obtain ⟨a, cap, rfl⟩ := hr.slice
  rw [List.length_map] at *
  have Hr := Lib.hid hr; clear hr
  have Hin := Lib.hid hin; clear hin
  have Hcols := Lib.hid (fun w => impl_columnsOf size need w hs1 hs2 hn1 hn2)
  obtain ⟨cols, hcols⟩ : ∃ cols, (size + need - 1) / need = cols := ⟨_, rfl⟩
  rw [hcols] at Hcols ⊢
  clear hcols
  by_cases hl1 : L.length < need
  · have Hf := Lib.hid (show (lenB need L && shsB cols L) = false by unfold lenB; rw [decide_eq_false (by omega)]; rfl)
    go_enter Try.func44, Try.ntmps44
    go_wp2
    go_ret
    exact ⟨ret_bool Hf.out.symm, Below.refl _ _⟩
  by_cases hl2 : 8 < (L.length : Int)
  · have Hf := Lib.hid (show (lenB need L && shsB cols L) = false by unfold lenB; rw [decide_eq_false (by omega)]; rfl)
    have hl1' : need ≤ L.length := by omega
    go_enter Try.func44, Try.ntmps44
    go_wp2
    go_ret
    exact ⟨ret_bool Hf.out.symm, Below.refl _ _⟩
  have Hf := Lib.hid (show (lenB need L && shsB cols L) = shsB cols L by unfold lenB; rw [decide_eq_true (by omega)]; rfl)
  have hl1' : need ≤ L.length := by omega
  have hl1d : decide (L.length < need) = false := decide_eq_false hl1
  have hl2d : decide (8 < (L.length : Int)) = false := decide_eq_false hl2
  go_enter Try.func44, Try.ntmps44
  go_wp2
  rw [← seen0 L]
  go_loopw [21] (fun i wr => ∃ k : Nat, k ≤ L.length ∧ i = .int .i64 k ∧ Str wr w.heap.size 99 (seenC L k) ∧ Upto (shAt cols L) k ∧ Below w.heap.size w wr) (fun i _ => L.length - (intOf i).toNat)
  case atStart => exact ⟨0, by omega, rfl, Str.new w 99 (seenC L 0), upto_zero _, (Below.refl _ w).alloc (Nat.le_refl _) _⟩
  case round =>
    obtain ⟨k, hk, rfl, s0, hup, hbel⟩ := hrel
    by_cases hlt : k < L.length
    · obtain ⟨g, off, rfl, hg, hat⟩ := shards_at (Hr.out.underB hbel (fun r hr => Hr.out.lt r hr)) (by omega)
      obtain ⟨av, cv, C0, C1, I1⟩ := hat k hlt
      have hxs := Hin.out _ (List.getElem_mem hlt)
      clear hat
      have hsz := s0.lt
      have Hbel := Lib.hid hbel; clear hbel
      have Hup := Lib.hid hup; clear hup
      have Hs0 := Lib.hid s0; clear s0
      have hnm := fun w => impl_isShardNumber L[k].1 w
      by_cases hv : 1 ≤ L[k].1 ∧ L[k].1 ≤ 8
      · rw [decide_eq_true hv] at hnm
        have Hnm := Lib.hid hnm; clear hnm
        obtain ⟨n, hn⟩ : ∃ n : Nat, L[k].1 = (n : Int) := ⟨L[k].1.toNat, by omega⟩
        have hn9 : n < 9 := by omega
        have Hv := Lib.hid hv; clear hv
        have Hn := Lib.hid hn
        rw [hn] at C0 Hnm
        clear hn
        have hxa := fun w' => run_indexAt_arr (P := Try.prog) (B := w.heap.size) (o := 0) Try.underlying99 (s := 1) (by kernel_rfl) hn9 w'
        simp only [Nat.zero_add, Nat.mul_one] at hxa
        have hne1 : w.heap.size ≠ wr.heap.size := by omega
        have hne2 : wr.heap.size ≠ w.heap.size := by omega
        have hcell := Hs0.out.cell n (v := .bool (seenB L k n)) (arrC_get hn9)
        have hfr := Hs0.out.frozen n
        by_cases hse : seenB L k n = true
        · rw [hse] at hcell
          have Hbad := Lib.hid (shAt_seen (cols := cols) hlt Hn.out hse)
          clear hse
          go_wp2_with fail
          refine (Hnm.out _).mono ?_
          rintro e w' ⟨rfl, rfl⟩
          go_wp2
          go_ret
          exact ⟨ret_bool (by rw [Hf.out]; exact (allB_no hlt Hbad.out).symm), Hbel.out.alloc Hbel.out.size _⟩
        · rw [Bool.not_eq_true] at hse
          rw [hse] at hcell
          have Hse := Lib.hid hse; clear hse
          go_wp2_with fail
          refine (Hnm.out _).mono ?_
          rintro e w' ⟨rfl, rfl⟩
          go_wp2_with fail
          have Hvs : ∃ vs, L[k].2 = vs := ⟨_, rfl⟩
          obtain ⟨vs, hvs⟩ := Hvs
          rw [hvs] at C1 I1 hxs
          have Has := Lib.hid (fun W h => impl_areSymbols av cv vs W (by omega) h)
          have hia : IntsAt (wr.alloc (.cells #[.int .i64 (n : Int), .slice av vs.length cv] 32)) av vs := I1.below ((Below.refl _ wr).alloc (Nat.le_refl _) _)
          have Hia := Lib.hid hia; clear hia I1
          have Hbel2 := Lib.hid (Hbel.out.alloc Hbel.out.size (.cells #[.int .i64 (n : Int), .slice av vs.length cv] 32))
          have Hs2 := Lib.hid (Hs0.out.alloc (.cells #[.int .i64 (n : Int), .slice av vs.length cv] 32))
          have hc0 := (Str.new wr 32 #[.int .i64 (n : Int), .slice av vs.length cv]).cell 0 (v := .int .i64 (n : Int)) rfl
          have hc1 := (Str.new wr 32 #[.int .i64 (n : Int), .slice av vs.length cv]).cell 1 (v := .slice av vs.length cv) rfl
          have Hvs := Lib.hid hvs
          rw [hvs]
          clear hvs
          by_cases hcl : vs.length = cols
          · have hq : ((vs.length : Int) != (cols : Int)) = false := by rw [hcl]; simp
            have Hcl := Lib.hid hcl
            by_cases hsy : vs.all symB = true
            · have hay := fun W h => Has.out W h
              rw [hsy] at hay
              have Hay := Lib.hid hay; clear hay
              have Hok := Lib.hid (shAt_yes (cols := cols) hlt Hn.out Hv.out Hse.out (by rw [Hvs.out]; exact hcl) (by rw [Hvs.out]; exact hsy))
              clear hcl hsy hcell hfr
              go_quiet ((first | (go_at_call 86; exact Calls.quiet_of_same (turned (Hcols.out _))) | (go_at_call 87; exact Calls.quiet_of_same (turned (Hay.out _ Hia.out)))))
              have Hb5 := Lib.hid (below_drewN Hbel2.out nq)
              have hs5 : Str ((wr.alloc (.cells #[.int .i64 (n : Int), .slice av vs.length cv] 32)).drewN nq) w.heap.size 99 (seenC L k) := Hs2.out
              have hc5 : ((wr.alloc (.cells #[.int .i64 (n : Int), .slice av vs.length cv] 32)).drewN nq).cell? ⟨wr.heap.size, 0, none⟩ = some (.int .i64 (n : Int)) := hc0
              clear hc0 hc1 C0 C1
              generalize (wr.alloc (.cells #[.int .i64 (n : Int), .slice av vs.length cv] 32)).drewN nq = W5 at *
              have hcell := hs5.cell n (v := .bool (seenB L k n)) (arrC_get hn9)
              have hfr := hs5.frozen n
              have Hs5 := Lib.hid hs5; clear hs5
              go_wp2
              go_roundw
              case rel =>
                refine ⟨k + 1, by omega, by go_num, ?_, upto_step Hup.out Hok.out, Hb5.out.setCell (p := ⟨w.heap.size, n, none⟩) (Nat.le_refl _) _⟩
                have := Hs5.out.set n (.bool true)
                rwa [seenC_set (show xsOf L k = (n : Int) by unfold xsOf; rw [getS hlt]; exact Hn.out)] at this
              case measure => simp [intOf]; omega
            · rw [Bool.not_eq_true] at hsy
              have hay := fun W h => Has.out W h
              rw [hsy] at hay
              have Hay := Lib.hid hay; clear hay
              have Hbad := Lib.hid (shAt_sym (cols := cols) hlt (by rw [Hvs.out]; exact hsy))
              clear hcl hsy hcell hfr
              go_quiet ((first | (go_at_call 86; exact Calls.quiet_of_same (turned (Hcols.out _))) | (go_at_call 87; exact Calls.quiet_of_same (turned (Hay.out _ Hia.out)))))
              go_wp2
              go_ret
              exact ⟨ret_bool (by rw [Hf.out]; exact (allB_no hlt Hbad.out).symm), below_drewN Hbel2.out _⟩
          · have hq : ((vs.length : Int) != (cols : Int)) = true := by simp; omega
            have Hbad := Lib.hid (shAt_len (cols := cols) hlt (by rw [Hvs.out]; exact hcl))
            clear hcl hcell hfr
            go_quiet ((go_at_call 86; exact Calls.quiet_of_same (turned (Hcols.out _))))
            go_wp2
            go_ret
            exact ⟨ret_bool (by rw [Hf.out]; exact (allB_no hlt Hbad.out).symm), below_drewN Hbel2.out _⟩
      · rw [decide_eq_false hv] at hnm
        have Hnm := Lib.hid hnm; clear hnm
        have Hbad := Lib.hid (shAt_num (cols := cols) hlt hv)
        clear hv
        go_wp2_with fail
        refine (Hnm.out _).mono ?_
        rintro e w' ⟨rfl, rfl⟩
        go_wp2
        go_ret
        exact ⟨ret_bool (by rw [Hf.out]; exact (allB_no hlt Hbad.out).symm), Hbel.out.alloc Hbel.out.size _⟩
    · have Hs := Lib.hid (show shsB cols L = true from allB_yes hup (by omega))
      go_wp2
      go_ret
      exact ⟨ret_bool (by rw [Hf.out]; exact Hs.out.symm), hbel⟩

end Go.Proofs.Yteglefchkecfjaa

/- Whether shards have different numbers and the right lengths, as spec reckons it, by a walk of its text; conditions: the lists are short. -/
namespace Go.Proofs.Yteglefchkecfjaa
open Go.RowKit

theorem ok_no1 {size need : Int} {L : List Sh} (h : ¬ (1 ≤ size ∧ size ≤ 12)) : joinOk size need L = false := by unfold joinOk; rw [decide_eq_false h]; rfl
theorem ok_no2 {size need : Int} {L : List Sh} (h : ¬ (1 ≤ need ∧ need ≤ 8)) : joinOk size need L = false := by unfold joinOk; rw [decide_eq_false h, Bool.and_false]; rfl
theorem ok_no3 {size need : Int} {L : List Sh} (h : ¬ (need ≤ L.length ∧ L.length ≤ 8)) : joinOk size need L = false := by unfold joinOk lenB; rw [decide_eq_false h, Bool.false_and, Bool.and_false]
theorem ok_eq {size need : Nat} {L : List Sh} (h1 : 1 ≤ (size : Int) ∧ (size : Int) ≤ 12) (h2 : 1 ≤ (need : Int) ∧ (need : Int) ≤ 8) (h3 : (need : Int) ≤ L.length ∧ L.length ≤ 8) : joinOk size need L = shsB ((size + need - 1) / need) L := by
  unfold joinOk lenB; rw [decide_eq_true h1, decide_eq_true h2, decide_eq_true h3]; simp
def neAt (L : List Sh) (k : Nat) : Nat → Bool := fun j => decide (xsOf L j ≠ xsOf L k)
def syAt (vs : List Int) : Nat → Bool := fun j => symB (vs.getD j 0)
theorem shAt_new {cols : Nat} {L : List Sh} {k j : Nat} (hj : j < k) (h : xsOf L j = xsOf L k) : shAt cols L k = false := by
  unfold shAt newAt; rw [allB_no hj (by simp [h]), Bool.and_false]
theorem shAt_yes2 {cols : Nat} {L : List Sh} {k : Nat} (hk : k < L.length) (h1 : 1 ≤ L[k].1 ∧ L[k].1 ≤ 8) (h : Upto (neAt L k) k) (hl : L[k].2.length = cols) (hs : L[k].2.all symB = true) : shAt cols L k = true := by
  unfold shAt okS newAt; rw [getS hk, decide_eq_true h1, decide_eq_true hl, hs, allB_yes (p := fun j => decide (xsOf L j ≠ xsOf L k)) h (Nat.le_refl _)]; rfl
theorem sy_all {vs : List Int} (h : Upto (syAt vs) vs.length) : vs.all symB = true := by
  rw [List.all_eq_true]
  intro y hy
  obtain ⟨j, hj, rfl⟩ := List.mem_iff_getElem.1 hy
  have := h j hj
  unfold syAt at this
  rwa [getD_get hj] at this
theorem sy_no {vs : List Int} {j : Nat} (hj : j < vs.length) (h : ¬ (0 ≤ vs[j] ∧ vs[j] ≤ 250)) : vs.all symB = false := by
  rw [List.all_eq_false]; exact ⟨vs[j], List.getElem_mem hj, by simp [symB_no h]⟩

set_option maxRecDepth 8000 in
set_option maxHeartbeats 1000000 in
theorem spec_l3List (size need : Int) (L : List Sh) (v : Value) (fp : List Nat) (w : World) (hbig : L.length ≤ 1048576) (hin : ∀ s ∈ L, s.2.length ≤ 1048576) (hr : Rd w (.l (L.map shardD)) v fp) :
    Calls Try.prog 46 #[.int .i64 size, .int .i64 need, v] w fun e w' => e = .returned (.bool (joinOk size need L)) ∧ Drawn w w' := by
  obtain ⟨a, cap, rfl⟩ := hr.slice
  rw [List.length_map] at *
  by_cases hS : 1 ≤ size ∧ size ≤ 12
  case neg =>
    have Hf := Lib.hid (ok_no1 (need := need) (L := L) hS)
    go_enter Try.func46, Try.ntmps46
    go_wp2_with fail
    refine (spec_l6In_no hS _).mono ?_
    rintro e w' ⟨rfl, rfl⟩
    go_wp2
    go_ret
    exact ⟨ret_bool Hf.out.symm, Drawn.refl _⟩
  by_cases hN : 1 ≤ need ∧ need ≤ 8
  case neg =>
    have Hf := Lib.hid (ok_no2 (size := size) (L := L) hN)
    go_enter Try.func46, Try.ntmps46
    go_wp2_with fail
    refine (spec_l6In_yes hS _).mono ?_
    rintro e w' ⟨rfl, rfl⟩
    go_wp2_with fail
    refine (spec_l6In_no hN _).mono ?_
    rintro e w' ⟨rfl, rfl⟩
    go_wp2
    go_ret
    exact ⟨ret_bool Hf.out.symm, Drawn.refl _⟩
  obtain ⟨size, rfl⟩ := Int.eq_ofNat_of_zero_le (show 0 ≤ size by omega)
  obtain ⟨need, rfl⟩ := Int.eq_ofNat_of_zero_le (show 0 ≤ need by omega)
  by_cases hl1 : L.length < need
  · have Hf := Lib.hid (ok_no3 (size := size) (need := need) (L := L) (by omega))
    have Hc := Lib.hid hN
    go_enter Try.func46, Try.ntmps46
    go_wp2_with fail
    refine (spec_l6In_yes hS _).mono ?_
    rintro e w' ⟨rfl, rfl⟩
    go_wp2_with fail
    refine (spec_l6In_yes hN _).mono ?_
    rintro e w' ⟨rfl, rfl⟩
    go_wp2
    go_ret
    exact ⟨ret_bool Hf.out.symm, Drawn.refl _⟩
  by_cases hl2 : 8 < (L.length : Int)
  · have Hf := Lib.hid (ok_no3 (size := size) (need := need) (L := L) (by omega))
    have hl1d : decide (L.length < need) = false := decide_eq_false hl1
    have hl1' : need ≤ L.length := by omega
    go_enter Try.func46, Try.ntmps46
    go_wp2_with fail
    refine (spec_l6In_yes hS _).mono ?_
    rintro e w' ⟨rfl, rfl⟩
    go_wp2_with fail
    refine (spec_l6In_yes hN _).mono ?_
    rintro e w' ⟨rfl, rfl⟩
    go_wp2
    go_ret
    exact ⟨ret_bool Hf.out.symm, Drawn.refl _⟩
  have Hf := Lib.hid (ok_eq hS hN (show (need : Int) ≤ L.length ∧ L.length ≤ 8 by omega))
  have hl1d : decide (L.length < need) = false := decide_eq_false hl1
  have hl2d : decide (8 < (L.length : Int)) = false := decide_eq_false hl2
  have hl1' : need ≤ L.length := by omega
  obtain ⟨g, off, rfl, hg, hat⟩ := shards_at hr (by omega)
  have Hat := Lib.hid hat; clear hat hr
  have Hcast := Lib.hid (show (((size + need - 1) / need : Nat) : Int) = ((size : Int) + (need : Int) - 1) / (need : Int) by rw [Int.natCast_ediv]; congr 1; omega)
  have Hin := Lib.hid hin; clear hin
  have hadd : IntKind.i64.wrap ((size : Int) + need) = size + need := IntWalk.i64_in _ (by omega)
  have hsub : IntKind.i64.wrap ((size : Int) + need - 1) = size + need - 1 := IntWalk.i64_in _ (by omega)
  go_enter Try.func46, Try.ntmps46
  go_wp2_with fail
  refine (spec_l6In_yes hS _).mono ?_
  rintro e w' ⟨rfl, rfl⟩
  go_wp2_with fail
  refine (spec_l6In_yes hN _).mono ?_
  rintro e w' ⟨rfl, rfl⟩
  go_wp2
  go_loopw [7] (fun i wr => ∃ k : Nat, k ≤ L.length ∧ i = .int .i64 k ∧ Upto (shAt ((size + need - 1) / need) L) k ∧ Drawn w wr) (fun i _ => L.length - (intOf i).toNat)
  case atStart => exact ⟨0, by omega, rfl, upto_zero _, Drawn.refl _⟩
  case round =>
    obtain ⟨k, hk, rfl, hup, hdr⟩ := hrel
    by_cases hlt : k < L.length
    · obtain ⟨av, cv, C0, C1, I1⟩ := Hat.out k hlt
      have hxs := Hin.out _ (List.getElem_mem hlt)
      have Hup := Lib.hid hup; clear hup
      have Hxk := Lib.hid (show xsOf L k = L[k].1 by unfold xsOf; rw [getS hlt])
      have c0 := (hdr.cell _).trans C0
      have c1 := (hdr.cell _).trans C1
      have HC0 := Lib.hid C0; clear C0
      have HC1 := Lib.hid C1; clear C1
      have HI1 := Lib.hid I1; clear I1
      by_cases hv : 1 ≤ L[k].1 ∧ L[k].1 ≤ 8
      · have Hv := Lib.hid hv
        by_cases hcl : L[k].2.length = (size + need - 1) / need
        · have hq : ((L[k].2.length : Int) != ((size : Int) + need - 1) / need) = false := by rw [← Hcast.out, hcl]; simp
          have Hok := Lib.hid (fun h h' => shAt_yes2 (cols := (size + need - 1) / need) hlt hv h hcl h')
          have Hbs := Lib.hid (fun h => shAt_sym (cols := (size + need - 1) / need) hlt h)
          clear hcl
          generalize L[k].1 = x at *
          generalize L[k].2 = vs at *
          go_wp2_with fail
          go_quiet ((go_at_call 72; exact Calls.quiet_of_same (turned (spec_l6In_yes hv _))))
          have hdr2 := hdr.drewN nq
          generalize wr.drewN nq = W1 at *
          go_wp2
          clear c0 c1 hdr hq hv
          go_loopw [8] (fun i wi => ∃ m : Nat, m ≤ k ∧ i = .int .i64 m ∧ Upto (neAt L k) m ∧ Drawn w wi) (fun i _ => k - (intOf i).toNat)
          case atStart => exact ⟨0, by omega, rfl, upto_zero _, hdr2⟩
          case round =>
            clear hdr2
            obtain ⟨m, hm, rfl, hnu, hdr⟩ := hrel
            have Hnu := Lib.hid hnu; clear hnu
            have c0 := (hdr.cell _).trans HC0.out
            have c1 := (hdr.cell _).trans HC1.out
            by_cases hmk : m < k
            · obtain ⟨am, cm, D0, _, _⟩ := Hat.out m (by omega)
              have d0 := (hdr.cell _).trans D0
              have Hxm := Lib.hid (show xsOf L m = L[m].1 by unfold xsOf; rw [getS (by omega)])
              clear D0
              generalize L[m].1 = y at *
              by_cases hyx : y = x
              · have Hbad := Lib.hid (shAt_new (cols := (size + need - 1) / need) hmk (by rw [Hxm.out, Hxk.out, hyx]))
                have hdd : (y == x) = true := by simpa using hyx
                clear hyx
                go_wp2_with fail
                go_quiet (fail)
                go_wp2
                go_ret
                exact ⟨ret_bool (by rw [Hf.out]; exact (allB_no hlt Hbad.out).symm), hdr.drewN _⟩
              · have Hstep := Lib.hid (upto_step Hnu.out (show neAt L k m = true by unfold neAt; rw [Hxm.out, Hxk.out]; exact decide_eq_true hyx))
                have hdd : (y == x) = false := by simpa using hyx
                go_wp2_with fail
                go_quiet (fail)
                go_wp2
                go_roundw
                case rel => exact ⟨m + 1, by omega, by go_num, Hstep.out, hdr.drewN _⟩
                case measure => simp [intOf]; omega
            · have Hnk := Lib.hid (show Upto (neAt L k) k from fun j hj => Hnu.out j (by omega))
              clear c0 c1
              go_wp2
              go_loopw [9] (fun i wi => ∃ j : Nat, j ≤ vs.length ∧ i = .int .i64 j ∧ Upto (syAt vs) j ∧ Drawn w wi) (fun i _ => vs.length - (intOf i).toNat)
              case atStart => exact ⟨0, by omega, rfl, upto_zero _, hdr⟩
              case round =>
                clear hdr
                obtain ⟨j, hj, rfl, hsu, hdr⟩ := hrel
                have Hsu := Lib.hid hsu; clear hsu
                have c1 := (hdr.cell _).trans HC1.out
                by_cases hjv : j < vs.length
                · obtain ⟨g2, off2, rfl, hg2, hcs⟩ := HI1.out.cell (by omega)
                  have e1 := (hdr.cell _).trans (hcs j hjv)
                  by_cases hz : 0 ≤ vs[j] ∧ vs[j] ≤ 250
                  · have Hs := Lib.hid (upto_step Hsu.out (show syAt vs j = true by unfold syAt; rw [getD_get hjv]; exact symB_yes hz))
                    generalize vs[j] = z at *
                    clear hcs
                    go_wp2_with fail
                    refine (spec_l6In_yes hz _).mono ?_
                    rintro e w' ⟨rfl, rfl⟩
                    go_wp2
                    go_roundw
                    case rel => exact ⟨j + 1, by omega, by go_num, Hs.out, hdr⟩
                    case measure => simp [intOf]; omega
                  · have Hbad := Lib.hid (Hbs.out (sy_no hjv hz))
                    generalize vs[j] = z at *
                    clear hcs
                    go_wp2_with fail
                    refine (spec_l6In_no hz _).mono ?_
                    rintro e w' ⟨rfl, rfl⟩
                    go_wp2
                    go_ret
                    exact ⟨ret_bool (by rw [Hf.out]; exact (allB_no hlt Hbad.out).symm), hdr⟩
                · have Hs := Lib.hid (upto_step Hup.out (Hok.out Hnk.out (sy_all (fun i hi => Hsu.out i (by omega)))))
                  have hjd : decide ((j : Int) < (vs.length : Int)) = false := decide_eq_false (by omega)
                  have hjd' : decide (j < vs.length) = false := decide_eq_false hjv
                  have hk1 : IntKind.i64.wrap ((k : Int) + 1) = (k : Int) + 1 := IntWalk.i64_in _ (by omega)
                  clear hmk hm hxs hjv hj hS hN hl1 hl1d hl2d hl1' hl2 hadd hsub hbig
                  go_wp2
                  go_roundw
                  case rel => exact ⟨k + 1, by omega, by go_num, Hs.out, hdr⟩
                  case measure => simp [intOf]; omega
        · have Hbad := Lib.hid (shAt_len (cols := (size + need - 1) / need) hlt hcl)
          have hq : ((L[k].2.length : Int) != ((size : Int) + need - 1) / need) = true := by rw [← Hcast.out]; simp; omega
          clear hcl
          generalize L[k].1 = x at *
          generalize L[k].2 = vs at *
          go_wp2_with fail
          go_quiet ((go_at_call 72; exact Calls.quiet_of_same (turned (spec_l6In_yes hv _))))
          go_wp2
          go_ret
          exact ⟨ret_bool (by rw [Hf.out]; exact (allB_no hlt Hbad.out).symm), hdr.drewN _⟩
      · have Hbad := Lib.hid (shAt_num (cols := (size + need - 1) / need) hlt hv)
        generalize L[k].1 = x at *
        generalize L[k].2 = vs at *
        go_wp2_with fail
        go_quiet ((go_at_call 72; exact Calls.quiet_of_same (turned (spec_l6In_no hv _))))
        go_wp2
        go_ret
        exact ⟨ret_bool (by rw [Hf.out]; exact (allB_no hlt Hbad.out).symm), hdr.drewN _⟩
    · have Hs := Lib.hid (show shsB ((size + need - 1) / need) L = true from allB_yes hup (by omega))
      go_wp2
      go_ret
      exact ⟨ret_bool (by rw [Hf.out]; exact Hs.out.symm), hdr⟩

end Go.Proofs.Yteglefchkecfjaa

/- Rows of numbers in a list of lists, and the columns that spec solves; general steps and plain arithmetic, no walk and no condition of our own. -/
namespace Go.Proofs.Yteglefchkecfjaa
open Go.RowKit

/-- A list of rows of numbers: the rows are never written, only replaced. -/
def Rws (E : TypeId) (w : World) (B g n : Nat) (F : Nat → List Int) : Prop :=
  B ≤ g ∧ ∃ cur, Str w g E cur ∧ ∀ k, k < n → ∃ b off c, cur[k]? = some (.slice (some ⟨b, off, none⟩) (F k).length c) ∧ B ≤ b ∧ b ≠ g ∧ b < w.heap.size ∧ ∀ j (h : j < (F k).length), w.cell? ⟨b, off + j, none⟩ = some (.int .i64 (F k)[j])
section
variable {E : TypeId} {w w' : World} {B g n : Nat} {F : Nat → List Int}
theorem Rws.at (h : Rws E w B g n F) {k : Nat} (hk : k < n) : ∃ b off c, w.cell? ⟨g, k, none⟩ = some (.slice (some ⟨b, off, none⟩) (F k).length c) ∧ B ≤ b ∧ b ≠ g ∧ b < w.heap.size ∧ ∀ j (h : j < (F k).length), w.cell? ⟨b, off + j, none⟩ = some (.int .i64 (F k)[j]) := by
  obtain ⟨_, cur, hs, hc⟩ := h
  obtain ⟨b, off, c, h1, h2⟩ := hc k hk
  exact ⟨b, off, c, hs.cell k h1, h2⟩
theorem Rws.frozen (h : Rws E w B g n F) (k : Nat) : w.frozen? ⟨g, k, none⟩ = false := by obtain ⟨_, cur, hs, _⟩ := h; exact hs.frozen k
theorem Rws.lt (h : Rws E w B g n F) : g < w.heap.size := by obtain ⟨_, cur, hs, _⟩ := h; exact hs.lt
theorem Rws.lo (h : Rws E w B g n F) : B ≤ g := h.1
theorem Rws.below (h : Rws E w B g n F) (hb : Below w.heap.size w w') : Rws E w' B g n F := by
  obtain ⟨h0, cur, hs, hc⟩ := h
  refine ⟨h0, cur, (hb.block _ hs.lt).trans hs, fun k hk => ?_⟩
  obtain ⟨b, off, c, h1, h2, h3, h4, h5⟩ := hc k hk
  exact ⟨b, off, c, h1, h2, h3, Nat.lt_of_lt_of_le h4 hb.size, fun j hj => (hb.cell (p := ⟨b, off + j, none⟩) h4).trans (h5 j hj)⟩
theorem Rws.congr {F' : Nat → List Int} (h : Rws E w B g n F) (he : ∀ k, k < n → F k = F' k) : Rws E w B g n F' := by
  obtain ⟨h0, cur, hs, hc⟩ := h
  refine ⟨h0, cur, hs, fun k hk => ?_⟩
  rw [← he k hk]; exact hc k hk
theorem Rws.set (h : Rws E w B g n F) {k : Nat} (hk : k < n) {b off c : Nat} {r : List Int} (h2 : B ≤ b) (h3 : b ≠ g) (h4 : b < w.heap.size) (h5 : ∀ j (h : j < r.length), w.cell? ⟨b, off + j, none⟩ = some (.int .i64 r[j])) :
    Rws E (w.setCell ⟨g, k, none⟩ (.slice (some ⟨b, off, none⟩) r.length c)) B g n (fun i => if i = k then r else F i) := by
  obtain ⟨h0, cur, hs, hc⟩ := h
  have hg := grownBy_set w g k (.slice (some ⟨b, off, none⟩) r.length c)
  refine ⟨h0, _, hs.set k _, fun i hi => ?_⟩
  have hsz : (w.setCell ⟨g, k, none⟩ (.slice (some ⟨b, off, none⟩) r.length c)).heap.size = w.heap.size := by simp [World.setCell]
  by_cases e : i = k
  · subst e
    have hlt : i < cur.size := by
      obtain ⟨b', off', c', e1, _⟩ := hc i hi
      exact (Array.getElem?_eq_some_iff.1 e1).1
    refine ⟨b, off, c, by simp [hlt], h2, h3, by omega, fun j hj => ?_⟩
    have hj' : j < r.length := by simpa using hj
    have := hg.cell (h5 j hj') (by simpa using h3)
    simpa using this
  · obtain ⟨b', off', c', e1, e2, e3, e4, e5⟩ := hc i hi
    refine ⟨b', off', c', by rw [Array.getElem?_setIfInBounds_ne (by omega)]; simpa [e] using e1, e2, e3, by omega, fun j hj => ?_⟩
    have hj' : j < (F i).length := by simpa [e] using hj
    have := hg.cell (e5 j hj') (by simpa using e3)
    simpa [e] using this
end
theorem rws_of_bld {E : TypeId} {w : World} {B n cap : Nat} {a : Option Addr} {rows : List (List Int)} (h : Bld E 1 w B (.slice a n cap) (rows.map fun r => [intsD r])) (hn : 0 < rows.length) (hr : ∀ r ∈ rows, 0 < r.length) :
    n = rows.length ∧ rows.length ≤ cap ∧ ∃ g, a = some ⟨g, 0, none⟩ ∧ Rws E w B g rows.length (fun k => rows.getD k []) := by
  obtain ⟨cs, ho, hc⟩ := h.row
  rw [List.length_map] at ho
  rcases ho.2 with ⟨_, h0⟩ | ⟨g, cap', cur, hv, hb, hg, hnc, hm, hs, ht⟩
  · omega
  simp only [Value.slice.injEq] at hv
  obtain ⟨rfl, rfl, rfl⟩ := hv
  refine ⟨rfl, hnc, g, rfl, hb, cur, hg, fun k hk => ?_⟩
  have hk' : k < (rows.map fun r => [intsD r]).length := by simpa using hk
  have hkr : rows.getD k [] = rows[k] := by simp [List.getD, List.getElem?_eq_getElem hk]
  obtain ⟨c, fp, h1, h2, h3⟩ := hc k hk' 0 (by simp)
  simp only [List.getElem_map, List.getElem_cons_zero] at h2
  obtain ⟨ar, cr, rfl, _, hi⟩ := Rd.ints h2
  have h1' : cs[k]? = some (.slice ar rows[k].length cr) := by simpa using h1
  have hcur : cur[k]? = some (.slice ar rows[k].length cr) := by
    have hkc : k < cs.length := (List.getElem?_eq_some_iff.1 h1').1
    have : (cur.toList.take (rows.length * 1))[k]? = some (.slice ar rows[k].length cr) := by rw [ht]; exact h1'
    rw [List.getElem?_take] at this
    split at this
    · simpa using this
    · cases this
  show ∃ b off c, cur[k]? = some (Value.slice (some ⟨b, off, none⟩) (rows.getD k []).length c) ∧ B ≤ b ∧ b ≠ g ∧ b < w.heap.size ∧ ∀ j (h : j < (rows.getD k []).length), w.cell? ⟨b, off + j, none⟩ = some (.int .i64 (rows.getD k [])[j])
  rw [hkr]
  obtain ⟨b, off, rfl, hbl, hcell⟩ := hi.cell (hr _ (List.getElem_mem hk))
  obtain ⟨b', off', e, _, hfp, _⟩ := Rd.at h2 (by simpa using hr _ (List.getElem_mem hk)) (sz := 1) (by intro e he; simp at he; obtain ⟨x, _, rfl⟩ := he; rfl)
  simp only [Option.some.injEq, Addr.mk.injEq] at e
  obtain ⟨rfl, _, _⟩ := e
  obtain ⟨h4, h5⟩ := h3 b hfp
  exact ⟨b, off, cr, hcur, h4, fun e => h5 (by rw [e]; rfl), hbl, hcell⟩

/-! the rows of a column -/
def colE (need col : Nat) (e : Eqn) : Nat → Int := fun k => if k < need then e k else e (8 + col)
def rowE (need col : Nat) (e : Eqn) : List Int := (List.range (need + 1)).map (colE need col e)
theorem rowE_len (need col : Nat) (e : Eqn) : (rowE need col e).length = need + 1 := by simp [rowE]
theorem rowE_get {need col : Nat} {e : Eqn} {k : Nat} (h : k < (rowE need col e).length) : (rowE need col e)[k] = colE need col e k := by simp [rowE]
theorem colE_bd {need col : Nat} {e : Eqn} (h : ∀ i, 0 ≤ e i ∧ e i ≤ 250) (k : Nat) : 0 ≤ colE need col e k ∧ colE need col e k ≤ 250 := by
  unfold colE; split <;> exact h _
theorem rowE_eq {need col : Nat} {x : Int} {vs : List Int} (hn : need ≤ 8) : rowE need col (eqOf need x vs) = ((List.range need).map fun k => powF x k) ++ [vs.getD col 0] := by
  unfold rowE
  rw [List.range_succ, List.map_append]
  congr 1
  · refine List.map_congr_left fun k hk => ?_
    have hk := List.mem_range.1 hk
    unfold colE eqOf; rw [if_pos hk, if_pos hk]
  · simp only [List.map_cons, List.map_nil]
    unfold colE eqOf
    rw [if_neg (by omega), if_neg (by omega), if_neg (by omega), show 8 + col - 8 = col by omega]
theorem colE_tms (need col : Nat) (e : Eqn) (c : Int) (k : Nat) : colE need col (tmsE e c) k = colE need col e k * c % 251 := by
  unfold colE tmsE; split <;> rfl
theorem wth_mod (x f r : Int) : (x + 251 - r * f % 251) % 251 = (x + (251 - f) * r) % 251 := by
  have h : Cg (x + 251 - r * f % 251) (x + (251 - f) * r) := by
    have e : x + (251 - f) * r = (x + 251 - r * f) + 251 * (r - 1) := by grind
    rw [e]
    exact ((Cg.refl (x + 251)).sub (Cg.mod (r * f))).trans ⟨-(r - 1), by omega⟩
  obtain ⟨k, hk⟩ := h
  rw [hk]; omega
theorem colE_wth (need col : Nat) (e r : Eqn) (f : Int) (k : Nat) : colE need col (wthE e (tmsE r f)) k = (colE need col e k + (251 - f) * colE need col r k) % 251 := by
  unfold colE wthE tmsE
  split <;> exact wth_mod _ _ _
theorem elimC_self (S : Nat → Eqn) (p m : Nat) : elimTo S p m p = tmsE (S p) (invZ (S p p)) := by unfold elimTo; rw [if_pos rfl]
theorem elimC_later {S : Nat → Eqn} {p m k : Nat} (h : k ≠ p) (hk : m ≤ k) : elimTo S p m k = S k := by unfold elimTo; rw [if_neg h, if_neg (by omega)]
theorem elimC_step {S : Nat → Eqn} {p m : Nat} (h : m ≠ p) : elimTo S p (m + 1) = fun k => if k = m then wthE (S m) (tmsE (tmsE (S p) (invZ (S p p))) (S m p)) else elimTo S p m k := by
  funext k
  unfold elimTo
  by_cases e : k = m
  · subst e; rw [if_neg h, if_pos (by omega), if_pos rfl]
  · rw [if_neg e]
    by_cases e2 : k = p
    · rw [if_pos e2, if_pos e2]
    · rw [if_neg e2, if_neg e2]
      by_cases e3 : k < m
      · rw [if_pos (by omega), if_pos e3]
      · rw [if_neg (by omega), if_neg e3]
theorem elimC_skip (S : Nat → Eqn) (p : Nat) : elimTo S p (p + 1) = elimTo S p p := by
  funext k
  unfold elimTo
  by_cases e2 : k = p
  · rw [if_pos e2, if_pos e2]
  · rw [if_neg e2, if_neg e2]
    by_cases e3 : k < p
    · rw [if_pos (by omega), if_pos e3]
    · rw [if_neg (by omega), if_neg e3]
theorem elimC_zero (S : Nat → Eqn) (p : Nat) : elimTo S p 0 = fun k => if k = p then tmsE (S p) (invZ (S p p)) else S k := by
  funext k
  unfold elimTo
  by_cases e2 : k = p
  · subst e2; rw [if_pos rfl, if_pos rfl]
  · rw [if_neg e2, if_neg e2, if_neg (by omega)]

end Go.Proofs.Yteglefchkecfjaa

/- What spec's elimination finds for a column, by a walk of its text; conditions: as many shards as suffice, with different numbers and one to twelve values each. -/
namespace Go.Proofs.Yteglefchkecfjaa
open Go.RowKit

theorem ints_info : (Try.prog.info? 26).map (fun i => (i.zero, i.size, i.bytes)) = some (some (.slice none 0 0), 1, 24) := by kernel_rfl

theorem own_cell {E : TypeId} {W : World} {B B0 : Nat} {v u : Value} {xs : List Int} (hlt : ∀ g, v.ownBlock = some g → B ≤ g ∧ g < B0) (hB : B ≤ B0) (h : Own E W B0 u xs) : CellsRd W B v.ownBlock [u] [intsD xs] := by
  obtain ⟨fp, hr, hf⟩ := Rd.of_own h
  intro j hj
  match j, hj with
  | 0, _ => exact ⟨u, fp, rfl, hr, fun r hm => ⟨by have := (hf r hm).1; omega, fun e => by have := (hf r hm).1; have := (hlt r e).2; omega⟩⟩

set_option maxRecDepth 8000 in
set_option maxHeartbeats 2000000 in
theorem spec_l3Solve (need cols col : Nat) (L : List Sh) (v : Value) (fp : List Nat) (w : World) (hn1 : 1 ≤ need) (hn8 : need ≤ 8) (hlen : need ≤ L.length) (hL : L.length ≤ 8) (hcol : col < cols) (hc12 : cols ≤ 12) (hok : shsB cols L = true) (hr : Rd w (.l (L.map shardD)) v fp) :
    Calls Try.prog 92 #[.int .i64 (need : Int), v, .int .i64 (col : Int)] w fun e w' => ∃ u, e = .returned u ∧ Own 3 w' w.heap.size u ((List.range need).map fun i => stAt need (eqs0 need (xsOf L) (vsOf L) need) need i (8 + col)) ∧ Below w.heap.size w w' := by
  obtain ⟨a, cap, rfl⟩ := hr.slice
  rw [List.length_map] at *
  obtain ⟨g, off, rfl, hg, hat⟩ := shards_at hr (by omega)
  have Hat := Lib.hid hat; clear hat hr
  have Hok := Lib.hid hok; clear hok
  have hb0 : Below w.heap.size w (w.alloc (.cells #[] 26)) := (Below.refl _ _).alloc (Nat.le_refl _) _
  have hv0 : Bld 26 1 (w.alloc (.cells #[] 26)) w.heap.size (.slice (some ⟨w.heap.size, 0, none⟩) 0 0) (((List.range 0).map fun i => rowE need col (eqOf need (xsOf L i) (vsOf L i))).map fun r => [intsD r]) := .nil (World.ownsRow_made w #[] 0 (Nat.le_refl _) (by simp) (by simp))
  have Hv0 := Lib.hid hv0; clear hv0
  go_enter Try.func92, Try.ntmps92
  go_wp2_with fail
  go_loopw [7, 8] (fun v i wr => ∃ k : Nat, k ≤ need ∧ i = .int .i64 k ∧ Bld 26 1 wr w.heap.size v (((List.range k).map fun i => rowE need col (eqOf need (xsOf L i) (vsOf L i))).map fun r => [intsD r]) ∧ Below w.heap.size w wr) (fun _ i _ => need - (intOf i).toNat)
  case atStart => exact ⟨0, by omega, rfl, Hv0.out, hb0⟩
  case round =>
    obtain ⟨k, hk, rfl, hbld, hbel⟩ := hrel
    obtain ⟨W0, hW0⟩ : ∃ W0, W0 = wr := ⟨_, rfl⟩
    subst hW0
    have Hbld := Lib.hid hbld; clear hbld
    have Hbel := Lib.hid hbel; clear hbel
    by_cases hlt : k < need
    · have hkL : k < L.length := by omega
      obtain ⟨av, cv, C0, C1, I1⟩ := Hat.out k hkL
      have hsh := (shsB_at Hok.out hkL).1
      have hxk : xsOf L k = L[k].1 := by unfold xsOf; rw [getS hkL]
      have hvk : vsOf L k = L[k].2 := by unfold vsOf; rw [getS hkL]
      have Hex := Lib.hid (show ((List.range (k + 1)).map fun i => rowE need col (eqOf need (xsOf L i) (vsOf L i))).map (fun r => [intsD r]) = (((List.range k).map fun i => rowE need col (eqOf need (xsOf L i) (vsOf L i))).map fun r => [intsD r]) ++ [[intsD (((List.range need).map fun j => powF L[k].1 j) ++ [L[k].2.getD col 0])]] by
        rw [List.range_succ, List.map_append, List.map_append]
        simp only [List.map_cons, List.map_nil]
        rw [rowE_eq hn8, hxk, hvk])
      clear hxk hvk
      have hel : (((List.range k).map fun i => rowE need col (eqOf need (xsOf L i) (vsOf L i))).map fun r => [intsD r]).length ≤ 1048576 := by simp; omega
      generalize ((List.range k).map fun i => rowE need col (eqOf need (xsOf L i) (vsOf L i))).map (fun r => [intsD r]) = es at *
      generalize L[k].1 = x at *
      generalize L[k].2 = vs at *
      have Hsh := Lib.hid hsh; clear hsh
      have C0r := Lib.hid ((Hbel.out.cell hg).trans C0); clear C0
      have C1r := Lib.hid ((Hbel.out.cell hg).trans C1); clear C1
      have I1r := Lib.hid (I1.below Hbel.out); clear I1
      have hgr : g < W0.heap.size := Nat.lt_of_lt_of_le hg Hbel.out.size
      have hB := Hbel.out.size
      have Hbw := Lib.hid ((Below.refl W0.heap.size W0).alloc (Nat.le_refl _) (.cells #[] 3))
      have Hv9 := Lib.hid (own_empty 3 W0 (Nat.le_refl _))
      go_wp2_with fail
      go_loopw [9, 10] (fun v i wi => ∃ j : Nat, j ≤ need ∧ i = .int .i64 j ∧ Own 3 wi W0.heap.size v ((List.range j).map fun j => powF x j) ∧ Below W0.heap.size W0 wi) (fun _ i _ => need - (intOf i).toNat)
      case atStart => exact ⟨0, by omega, rfl, Hv9.out, Hbw.out⟩
      case round =>
        obtain ⟨j, hj, rfl, hown, hbi⟩ := hrel
        have hol : ((List.range j).map fun j => powF x j).length ≤ 1099511627776 := by simp; omega
        have Hbi := Lib.hid hbi; clear hbi
        have hB2 := Hbi.out.size
        by_cases hjn : j < need
        · have c0 := (Hbi.out.cell (p := ⟨g, off + k * 2, none⟩) hgr).trans C0r.out
          have Hp := Lib.hid (spec_l3Power x j wr (by have := Hsh.out.1; omega) (by have := Hsh.out.1; omega) (by omega))
          have Hex2 := Lib.hid (show ((List.range (j + 1)).map fun j => powF x j) = ((List.range j).map fun j => powF x j) ++ [powF x j] by rw [List.range_succ, List.map_append]; rfl)
          generalize (List.range j).map (fun j => powF x j) = ps at *
          generalize powF x j = pw at *
          go_wp2_with fail
          refine Hp.out.mono ?_
          rintro e w' ⟨rfl, rfl⟩
          go_wp2_with (at_builtin; refine wpList_push TI3 rfl (.tmp 35) (.tmp 43) rfl W0.heap.size _ ps _ rfl hown hol rfl hB2 ?_; intro v2 w2 hown2 hg2)
          go_roundw
          case rel => exact ⟨j + 1, by omega, by go_num, by rw [Hex2.out]; exact hown2, Hbi.out.grown hg2 hB2 (fun g e => (hown.lt g e).1)⟩
          case measure => simp [intOf]; omega
        · have hje : j = need := by omega
          subst hje
          obtain ⟨W2, hW2⟩ : ∃ W2, W2 = wr := ⟨_, rfl⟩
          subst hW2
          have hvl : vs.length = cols := Hsh.out.2.1
          obtain ⟨b', off', rfl, hb', hcs⟩ := I1r.out.cell (by omega)
          have c1 := (Hbi.out.cell (p := ⟨g, off + k * 2 + 1, none⟩) hgr).trans C1r.out
          have d1 := (Hbi.out.cell (p := ⟨b', off' + col, none⟩) hb').trans (hcs col (by omega))
          rw [getD_get (show col < vs.length by omega)] at Hex
          clear hcs
          have hcv : col < vs.length := by omega
          generalize vs[col] = y at *
          generalize hps : (List.range j).map (fun j => powF x j) = ps at *
          clear hps
          obtain ⟨qs, hqs⟩ : ∃ qs, ps ++ [y] = qs := ⟨_, rfl⟩
          rw [hqs] at Hex
          have Hqs := Lib.hid hqs; clear hqs
          have HC := Lib.hid (fun (W : World) (u : Value) (h : Own 3 W W0.heap.size u qs) => show CellsRd W w.heap.size _ [u] [intsD qs] from own_cell (Hbld.out.lt) hB h)
          have Hb2 := Lib.hid (fun (w2 : World) (h : W2.grownBy w2 _) => Hbi.out.grown h hB2 (fun g e => (hown.lt g e).1))
          have hB3 : w.heap.size ≤ W2.heap.size := Nat.le_trans hB hB2
          go_wp2_with (at_builtin; first
            | (refine wpList_push TI3 rfl (.tmp 46) (.tmp 55) rfl W0.heap.size _ ps _ rfl hown hol rfl hB2 ?_; intro v2 w2 hown2 hg2; rw [Hqs.out] at hown2; obtain ⟨a2, c2, rfl, _, _⟩ := hown2.ints)
            | (refine wpList_push_row (E := 26) Try.underlying122 ints_info rfl (by decide) (by decide) rfl (.tmp 45) (.tmp 57) rfl w.heap.size _ es _ _ _ rfl rfl (by intro u hu; simp at hu; subst hu; rfl) rfl (Hbld.out.under (Hb2.out _ hg2)) rfl (HC.out _ _ hown2) hel rfl (Nat.le_trans hB (Hb2.out _ hg2).size) ?_; intro v8 w8 hbld8 hg8 hat8))
          go_roundw
          case rel => exact ⟨k + 1, by omega, by go_num, by rw [Hex.out]; exact hbld8, (below_step Hbel.out hB (Hb2.out _ hg2)).grown hg8 (Nat.le_trans hB (Hb2.out _ hg2).size) (fun g e => (Hbld.out.lt g e).1)⟩
          case measure => simp [intOf]; omega
    · have hke : k = need := by omega
      subst hke
      obtain ⟨a7, c7, rfl, _⟩ := Hbld.out.slice
      obtain ⟨hn7, hc7, g7, rfl, hrws⟩ := rws_of_bld Hbld.out (by simp; omega) (by intro r hr; simp only [List.mem_map] at hr; obtain ⟨i, _, rfl⟩ := hr; rw [rowE_len]; omega)
      have hrl : ((List.range k).map fun i => rowE k col (eqOf k (xsOf L i) (vsOf L i))).length = k := by simp
      rw [List.length_map, hrl]
      rw [hrl] at hrws hc7
      have hxs := xs_nz Hok.out
      have hsb : ∀ i, i < k → ∀ y ∈ vsOf L i, 0 ≤ y ∧ y ≤ 250 := fun i hi => by
        have := (shsB_at Hok.out (show i < L.length by omega)).1.2.2
        unfold vsOf; rw [getS (by omega)]; exact this
      have HBd := Lib.hid (stAt_bd (eqs0_bd (need := k) (xs := xsOf L) hsb) k)
      have Hpiv := Lib.hid (fun p (hp : p < k) => pivot_nz (need := k) hn8 (vs := vsOf L) (fun i j hi hj => hxs i j (by omega) hj) p hp (inv_b (eqs0_bd hsb) (pivot_nz hn8 (fun i j hi hj => hxs i j (by omega) hj)) p (by omega)))
      have hrws := hrws.congr (F' := fun i => rowE k col (eqs0 k (xsOf L) (vsOf L) k i)) (fun i hi => by rw [eqs0_at hi]; simp [List.getD, hi])
      clear hsb hxs hn7 hrl
      generalize hS0 : eqs0 k (xsOf L) (vsOf L) k = S0 at *
      have HS0 := Lib.hid hS0; clear hS0
      have Hrws := Lib.hid hrws; clear hrws Hbld
      go_wp2
      go_loopw [11] (fun i wr => ∃ p : Nat, p ≤ k ∧ i = .int .i64 p ∧ Rws 26 wr w.heap.size g7 k (fun i => rowE k col (stAt k S0 p i)) ∧ Below w.heap.size w wr) (fun i _ => k - (intOf i).toNat)
      case atStart => exact ⟨0, by omega, rfl, Hrws.out, Hbel.out⟩
      case round =>
        clear Hrws Hbel
        obtain ⟨p, hp, rfl, hrws, hbel⟩ := hrel
        obtain ⟨W1, hW1⟩ : ∃ W1, W1 = wr := ⟨_, rfl⟩
        subst hW1
        have Hrws := Lib.hid hrws; clear hrws
        have Hbel := Lib.hid hbel; clear hbel
        by_cases hpk : p < k
        · have hT : ∀ i c, 0 ≤ stAt k S0 p i c ∧ stAt k S0 p i c ≤ 250 := HBd.out p
          have hpv := Hpiv.out p hpk
          have Hst := Lib.hid (show stAt k S0 (p + 1) = elimTo (stAt k S0 p) p k from rfl)
          generalize stAt k S0 p = T at *
          obtain ⟨b, off1, c1, D, hb1, hb2, hb3, hcs⟩ := Hrws.out.at hpk
          have hpp := hcs p (by rw [rowE_len]; omega)
          rw [rowE_get, show colE k col (T p) p = T p p by unfold colE; rw [if_pos hpk]] at hpp
          rw [rowE_len] at D
          have Hcs := Lib.hid hcs; clear hcs
          have hfr := Hrws.out.frozen p
          have hne : (T p p == 0) = false := by simpa using hpv
          have hp1 : (p : Int) < (k : Int) + 1 := by omega
          go_wp2_with fail
          refine wp_loop_rounds 1 ?_
          rw [rounds_succ]
          go_wp2_with fail
          have hrw2 := Hrws.out.set hpk (c := c1) hb1 hb2 hb3 Hcs.out
          rw [rowE_len] at hrw2
          have hrw2 := hrw2.congr (F' := fun i => rowE k col (T i)) (fun i _ => by by_cases e : i = p <;> simp [e])
          have hbel2 := Hbel.out.setCell (p := ⟨g7, p, none⟩) Hrws.out.lo (.slice (some ⟨b, off1, none⟩) (k + 1) c1)
          have hcs2 : ∀ j (h : j < k + 1), (W1.setCell ⟨g7, p, none⟩ (.slice (some ⟨b, off1, none⟩) (k + 1) c1)).cell? ⟨b, off1 + j, none⟩ = some (.int .i64 (colE k col (T p) j)) := fun j hj => by
            have hj' : j < (rowE k col (T p)).length := by rw [rowE_len]; exact hj
            have := (grownBy_set W1 g7 p (.slice (some ⟨b, off1, none⟩) (k + 1) c1)).cell (Hcs.out j hj') (by simpa using hb2)
            rwa [rowE_get] at this
          have hbW : b < (W1.setCell ⟨g7, p, none⟩ (.slice (some ⟨b, off1, none⟩) (k + 1) c1)).heap.size := by simpa [World.setCell] using hb3
          clear Hcs Hrws Hbel D hpp hfr hb3
          generalize W1.setCell ⟨g7, p, none⟩ (.slice (some ⟨b, off1, none⟩) (k + 1) c1) = W2 at *
          have Hrw2 := Lib.hid hrw2; clear hrw2
          have Hbel2 := Lib.hid hbel2; clear hbel2
          have hpp2 := hcs2 p (by omega)
          rw [show colE k col (T p) p = T p p by unfold colE; rw [if_pos hpk]] at hpp2
          obtain ⟨n249, hn249⟩ : ∃ m : Nat, m = 249 := ⟨_, rfl⟩
          have hpw := spec_l3Power (T p p) n249 W2 (hT p p).1 (hT p p).2 (by omega)
          rw [show powF (T p p) n249 = invZ (T p p) by rw [hn249]; rfl, show (n249 : Int) = 249 by omega] at hpw
          clear hn249
          have hib : 0 ≤ invZ (T p p) ∧ invZ (T p p) ≤ 250 := powF_bd _ _
          have Hpw := Lib.hid hpw; clear hpw
          have Hcs2 := Lib.hid hcs2; clear hcs2
          have HT := Lib.hid hT; clear hT
          have Hel0 := Lib.hid (elimC_zero T p)
          have HES := Lib.hid (fun m (h : m ≠ p) => elimC_step (S := T) (p := p) (m := m) h)
          have HR := Lib.hid (fun j => colE_tms k col (T p) (invZ (T p p)) j)
          generalize invZ (T p p) = iv at *
          refine Hpw.out.mono ?_
          rintro e W2 ⟨rfl, rfl⟩
          go_wp2_with fail
          have hB2 := Hbel2.out.size
          have Hv15 := Lib.hid (own_empty 3 W2 (Nat.le_refl _))
          have Hb15 := Lib.hid ((Below.refl W2.heap.size W2).alloc (Nat.le_refl _) (.cells #[] 3))
          go_loopw [15, 16] (fun v i wi => ∃ j : Nat, j ≤ k + 1 ∧ i = .int .i64 j ∧ Own 3 wi W2.heap.size v ((List.range j).map fun c => colE k col (tmsE (T p) iv) c) ∧ Below W2.heap.size W2 wi) (fun _ i _ => k + 1 - (intOf i).toNat)
          case atStart => exact ⟨0, by omega, rfl, Hv15.out, Hb15.out⟩
          case round =>
            clear Hv15 Hb15
            obtain ⟨j, hj, rfl, hown, hbi⟩ := hrel
            have hol : ((List.range j).map fun c => colE k col (tmsE (T p) iv) c).length ≤ 1099511627776 := by simp; omega
            have Hbi := Lib.hid hbi; clear hbi
            have hB3 := Hbi.out.size
            by_cases hjk : j < k + 1
            · have d1 := (Hbi.out.cell (p := ⟨b, off1 + j, none⟩) hbW).trans (Hcs2.out j hjk)
              have hzb := colE_bd (need := k) (col := col) (HT.out p) j
              have hr := HR.out j
              have Hex2 := Lib.hid (show ((List.range (j + 1)).map fun c => colE k col (tmsE (T p) iv) c) = ((List.range j).map fun c => colE k col (tmsE (T p) iv) c) ++ [colE k col (tmsE (T p) iv) j] by rw [List.range_succ, List.map_append]; rfl)
              generalize hps : (List.range j).map (fun c => colE k col (tmsE (T p) iv) c) = ps at *
              clear hps
              generalize colE k col (tmsE (T p) iv) j = z2 at *
              generalize colE k col (T p) j = z at *
              have hm2 := mul_bd hzb.1 hzb.2 hib.1 hib.2
              obtain ⟨q, hq⟩ : ∃ q, z * iv = q := ⟨_, rfl⟩
              rw [hq] at hm2 hr
              have Hr := Lib.hid hr; clear hr
              have hj1 : (j : Int) < (k : Int) + 1 := by omega
              have hj2 : (j : Int) ≤ (k : Int) := by omega
              have hj3 : j ≤ k := by omega
              go_wp2_with (at_builtin; refine wpList_push TI3 rfl (.tmp 97) (.tmp 105) rfl W2.heap.size _ ps _ rfl hown hol rfl hB3 ?_; intro v2 w2 hown2 hg2)
              go_roundw
              case rel => exact ⟨j + 1, by omega, by go_num, by rw [Hex2.out, Hr.out]; exact hown2, Hbi.out.grown hg2 hB3 (fun g e => (hown.lt g e).1)⟩
              case measure => simp [intOf]; omega
            · have hje : j = k + 1 := by omega
              subst hje
              obtain ⟨W3, hW3⟩ : ∃ W3, W3 = wr := ⟨_, rfl⟩
              subst hW3
              have hxl : ((List.range (k + 1)).map fun c => colE k col (tmsE (T p) iv) c).length = k + 1 := by simp
              obtain ⟨g15, c15, rfl, hg15, hg15', _, hc15, _⟩ := hown.row (by omega)
              have hrow : ∀ j, j < k + 1 → W3.cell? ⟨g15, j, none⟩ = some (.int .i64 (colE k col (tmsE (T p) iv) j)) := fun j hj => by
                have := hc15 j (by omega)
                simpa using this
              rw [hxl]
              clear hc15 hown hol hxl
              have hrw3 := Hrw2.out.below Hbi.out
              have hbel3 := below_step Hbel2.out hB2 Hbi.out
              obtain ⟨_, _, _, D, _⟩ := hrw3.at hpk
              rw [rowE_len] at D
              have hfr := hrw3.frozen p
              have hne7 : g15 ≠ g7 := by have := Hrw2.out.lt; omega
              have hrw4 := hrw3.set hpk (b := g15) (off := 0) (c := c15) (r := rowE k col (tmsE (T p) iv)) (by omega) hne7 hg15' (fun j hj => by rw [rowE_len] at hj; rw [rowE_get, Nat.zero_add]; exact hrow j hj)
              rw [rowE_len] at hrw4
              have hrw4 := hrw4.congr (F' := fun i => rowE k col (elimTo T p 0 i)) (fun i _ => by rw [Hel0.out]; by_cases e : i = p <;> simp [e])
              have hrow4 : ∀ j, j < k + 1 → (W3.setCell ⟨g7, p, none⟩ (.slice (some ⟨g15, 0, none⟩) (k + 1) c15)).cell? ⟨g15, j, none⟩ = some (.int .i64 (colE k col (tmsE (T p) iv) j)) := fun j hj => (grownBy_set W3 g7 p _).cell (hrow j hj) (by simpa using hne7)
              have hsz4 : g15 < (W3.setCell ⟨g7, p, none⟩ (.slice (some ⟨g15, 0, none⟩) (k + 1) c15)).heap.size := by simpa [World.setCell] using hg15'
              have hbel4 := hbel3.setCell (p := ⟨g7, p, none⟩) hrw3.lo (.slice (some ⟨g15, 0, none⟩) (k + 1) c15)
              have Hrw4 := Lib.hid hrw4; clear hrw4 hrw3
              have Hrow4 := Lib.hid hrow4; clear hrow4 hrow
              have Hbel4 := Lib.hid hbel4; clear hbel4 hbel3
              have Hsz4 := Lib.hid hsz4; clear hsz4 hg15'
              have hdk : decide ((k : Int) + 1 ≤ (k : Int)) = false := decide_eq_false (by omega)
              have hdk2 : decide (k + 1 ≤ k) = false := decide_eq_false (by omega)
              have hdk3 : ¬ ((k : Int) + 1 ≤ (k : Int)) := by omega
              go_wp2_with fail
              clear D hfr
              generalize W3.setCell ⟨g7, p, none⟩ (.slice (some ⟨g15, 0, none⟩) (k + 1) c15) = W4 at *
              go_loopw [17] (fun i wr => ∃ m : Nat, m ≤ k ∧ i = .int .i64 m ∧ Rws 26 wr w.heap.size g7 k (fun i => rowE k col (elimTo T p m i)) ∧ (∀ j, j < k + 1 → wr.cell? ⟨g15, j, none⟩ = some (.int .i64 (colE k col (tmsE (T p) iv) j))) ∧ g15 < wr.heap.size ∧ Below w.heap.size w wr) (fun i _ => k - (intOf i).toNat)
              case atStart => exact ⟨0, by omega, rfl, Hrw4.out, Hrow4.out, Hsz4.out, Hbel4.out⟩
              case round =>
                clear Hrw4 Hrow4 Hsz4 Hbel4
                obtain ⟨m, hm, rfl, hrw, hrow, hsz, hbel⟩ := hrel
                obtain ⟨W5, hW5⟩ : ∃ W5, W5 = wr := ⟨_, rfl⟩
                subst hW5
                have Hrw := Lib.hid hrw; clear hrw
                have Hrow := Lib.hid hrow; clear hrow
                have Hbel := Lib.hid hbel; clear hbel
                have Hsz := Lib.hid hsz; clear hsz
                by_cases hmk : m < k
                · by_cases hmp : m = p
                  · have hq : ((m : Int) == (p : Int)) = true := by simp [hmp]
                    have Hsk := Lib.hid (show elimTo T p (m + 1) = elimTo T p m by rw [hmp]; exact elimC_skip T p)
                    go_wp2
                    go_roundw
                    case rel => exact ⟨m + 1, by omega, by go_num, by rw [Hsk.out]; exact Hrw.out, Hrow.out, Hsz.out, Hbel.out⟩
                    case measure => simp [intOf]; omega
                  · have hq : ((m : Int) == (p : Int)) = false := by simp; omega
                    have HE := Lib.hid (HES.out m hmp)
                    have hlt := elimC_later (S := T) (p := p) (m := m) (k := m) hmp (Nat.le_refl _)
                    obtain ⟨b, off1, c1, D, hb1, hb2, hb3, hcs⟩ := Hrw.out.at hmk
                    have hcs : ∀ j, j < k + 1 → W5.cell? ⟨b, off1 + j, none⟩ = some (.int .i64 (colE k col (T m) j)) := fun j hj => by
                      have := hcs j (by rw [rowE_len]; exact hj)
                      rwa [rowE_get, hlt] at this
                    rw [rowE_len] at D
                    have hfT := HT.out m p
                    have hmp0 := hcs p (by omega)
                    rw [show colE k col (T m) p = T m p by unfold colE; rw [if_pos hpk]] at hmp0
                    have Hcs := Lib.hid hcs; clear hcs
                    have HW := Lib.hid (fun j => colE_wth k col (T m) (tmsE (T p) iv) (T m p) j)
                    clear hlt
                    have hrb : ∀ i, 0 ≤ tmsE (T p) iv i ∧ tmsE (T p) iv i ≤ 250 := tms_bd _ _
                    have Hrb := Lib.hid hrb; clear hrb
                    generalize tmsE (T p) iv = R at *
                    generalize T m p = f at *
                    have hfr7 := Hrw.out.frozen m
                    have hg7 := Hrw.out.lt
                    have hp1 : (p : Int) < (k : Int) + 1 := by omega
                    have Hv19 := Lib.hid (own_empty 3 W5 (Nat.le_refl _))
                    have Hb19 := Lib.hid ((Below.refl W5.heap.size W5).alloc (Nat.le_refl _) (.cells #[] 3))
                    go_wp2_with fail
                    go_loopw [19, 20] (fun v i wi => ∃ j : Nat, j ≤ k + 1 ∧ i = .int .i64 j ∧ Own 3 wi W5.heap.size v ((List.range j).map fun c => colE k col (wthE (T m) (tmsE R f)) c) ∧ Below W5.heap.size W5 wi) (fun _ i _ => k + 1 - (intOf i).toNat)
                    case atStart => exact ⟨0, by omega, rfl, Hv19.out, Hb19.out⟩
                    case round =>
                      clear Hv19 Hb19
                      obtain ⟨j, hj, rfl, hown, hbi⟩ := hrel
                      have hol : ((List.range j).map fun c => colE k col (wthE (T m) (tmsE R f)) c).length ≤ 1099511627776 := by simp; omega
                      have Hbi := Lib.hid hbi; clear hbi
                      have hB5 := Hbi.out.size
                      by_cases hjk : j < k + 1
                      · have d0 := (Hbi.out.cell (p := ⟨g7, m, none⟩) hg7).trans D
                        have d1 := (Hbi.out.cell (p := ⟨b, off1 + j, none⟩) hb3).trans (Hcs.out j hjk)
                        have d2 := (Hbi.out.cell (p := ⟨g15, j, none⟩) Hsz.out).trans (Hrow.out j hjk)
                        have hxb := colE_bd (need := k) (col := col) (HT.out m) j
                        have hrb := colE_bd (need := k) (col := col) Hrb.out j
                        have hw := HW.out j
                        have Hex2 := Lib.hid (show ((List.range (j + 1)).map fun c => colE k col (wthE (T m) (tmsE R f)) c) = ((List.range j).map fun c => colE k col (wthE (T m) (tmsE R f)) c) ++ [colE k col (wthE (T m) (tmsE R f)) j] by rw [List.range_succ, List.map_append]; rfl)
                        generalize hps : (List.range j).map (fun c => colE k col (wthE (T m) (tmsE R f)) c) = ps at *
                        clear hps
                        generalize colE k col (wthE (T m) (tmsE R f)) j = z2 at *
                        generalize colE k col (T m) j = x at *
                        generalize colE k col R j = r at *
                        obtain ⟨s, hs⟩ : ∃ s, 251 - f = s := ⟨_, rfl⟩
                        obtain ⟨q, hq⟩ : ∃ q, s * r = q := ⟨_, rfl⟩
                        have hqb : 0 ≤ q ∧ q ≤ 251 * 250 := ⟨by rw [← hq]; exact Int.mul_nonneg (by omega) (by omega), by rw [← hq]; exact Int.mul_le_mul (by omega) (by omega) (by omega) (by omega)⟩
                        rw [hs, hq] at hw
                        have e1 : IntKind.i64.wrap (251 - f) = s := by rw [hs]; exact IntWalk.i64_in _ (by omega)
                        have e2 : IntKind.i64.wrap (s * r) = q := by rw [hq]; exact IntWalk.i64_in _ (by omega)
                        have e3 : IntKind.i64.wrap (x + q) = x + q := IntWalk.i64_in _ (by omega)
                        have e4 : (x + q).tmod 251 = z2 := by rw [hw]; exact Int.tmod_eq_emod_of_nonneg (by omega)
                        have e5 : IntKind.i64.wrap z2 = z2 := IntWalk.i64_in _ (by omega)
                        have hj1 : (j : Int) < (k : Int) + 1 := by omega
                        have hj2 : (j : Int) ≤ (k : Int) := by omega
                        have hj3 : j ≤ k := by omega
                        clear hs hq hw
                        go_wp2_with fail
                        refine wp_region_held_drew (S := fun w' => w'.cell? ⟨g7, m, none⟩ = some (.slice (some ⟨b, off1, none⟩) (k + 1) c1) ∧ w'.cell? ⟨b, off1 + j, none⟩ = some (.int .i64 x) ∧ w'.cell? ⟨g15, j, none⟩ = some (.int .i64 r)) (by kernel_rfl) ⟨d0, d1, d2⟩ (fun hH => ?_)
                        refine takeH 0 (v := ?vz0) rfl (by kernel_rfl) (by kernel_rfl) (by kernel_rfl) (fun _ _ _ h => h) hH rfl ?yz0 ?rz0
                        case yz0 => intro W hSw; obtain ⟨h1, h2, h3⟩ := hSw; go_simp; try with_reducible rfl
                        try simp only [Act.put, List.setIfInBounds_toArray, List.set_cons_zero, List.set_cons_succ]
                        refine takeH 1 (v := ?vz1) rfl (by kernel_rfl) (by kernel_rfl) (by kernel_rfl) (fun _ _ _ h => h) hH rfl ?yz1 ?rz1
                        case yz1 => intro W hSw; obtain ⟨h1, h2, h3⟩ := hSw; go_simp; try with_reducible rfl
                        try simp only [Act.put, List.setIfInBounds_toArray, List.set_cons_zero, List.set_cons_succ]
                        refine takeH 2 (v := ?vz2) rfl (by kernel_rfl) (by kernel_rfl) (by kernel_rfl) (fun _ _ _ h => h) hH rfl ?yz2 ?rz2
                        case yz2 => intro W hSw; obtain ⟨h1, h2, h3⟩ := hSw; go_simp; try with_reducible rfl
                        try simp only [Act.put, List.setIfInBounds_toArray, List.set_cons_zero, List.set_cons_succ]
                        refine takeH 3 (v := ?vz3) rfl (by kernel_rfl) (by kernel_rfl) (by kernel_rfl) (fun _ _ _ h => h) hH rfl ?yz3 ?rz3
                        case yz3 => intro W hSw; obtain ⟨h1, h2, h3⟩ := hSw; go_simp; try with_reducible rfl
                        try simp only [Act.put, List.setIfInBounds_toArray, List.set_cons_zero, List.set_cons_succ]
                        refine takeH 4 (v := ?vz4) rfl (by kernel_rfl) (by kernel_rfl) (by kernel_rfl) (fun _ _ _ h => h) hH rfl ?yz4 ?rz4
                        case yz4 => intro W hSw; obtain ⟨h1, h2, h3⟩ := hSw; go_simp; try with_reducible rfl
                        try simp only [Act.put, List.setIfInBounds_toArray, List.set_cons_zero, List.set_cons_succ]
                        refine takeH 5 (v := ?vz5) rfl (by kernel_rfl) (by kernel_rfl) (by kernel_rfl) (fun _ _ _ h => h) hH rfl ?yz5 ?rz5
                        case yz5 => intro W hSw; obtain ⟨h1, h2, h3⟩ := hSw; go_simp; try with_reducible rfl
                        try simp only [Act.put, List.setIfInBounds_toArray, List.set_cons_zero, List.set_cons_succ]
                        refine takeH 6 (v := ?vz6) rfl (by kernel_rfl) (by kernel_rfl) (by kernel_rfl) (fun _ _ _ h => h) hH rfl ?yz6 ?rz6
                        case yz6 => intro W hSw; obtain ⟨h1, h2, h3⟩ := hSw; go_simp; try with_reducible rfl
                        try simp only [Act.put, List.setIfInBounds_toArray, List.set_cons_zero, List.set_cons_succ]
                        refine takeH 7 (v := ?vz7) rfl (by kernel_rfl) (by kernel_rfl) (by kernel_rfl) (fun _ _ _ h => h) hH rfl ?yz7 ?rz7
                        case yz7 => intro W hSw; obtain ⟨h1, h2, h3⟩ := hSw; go_simp; try with_reducible rfl
                        try simp only [Act.put, List.setIfInBounds_toArray, List.set_cons_zero, List.set_cons_succ]
                        refine takeH 8 (v := ?vz8) rfl (by kernel_rfl) (by kernel_rfl) (by kernel_rfl) (fun _ _ _ h => h) hH rfl ?yz8 ?rz8
                        case yz8 => intro W hSw; obtain ⟨h1, h2, h3⟩ := hSw; go_simp; try with_reducible rfl
                        try simp only [Act.put, List.setIfInBounds_toArray, List.set_cons_zero, List.set_cons_succ]
                        refine takeH 9 (v := ?vz9) rfl (by kernel_rfl) (by kernel_rfl) (by kernel_rfl) (fun _ _ _ h => h) hH rfl ?yz9 ?rz9
                        case yz9 => intro W hSw; obtain ⟨h1, h2, h3⟩ := hSw; go_simp; try with_reducible rfl
                        try simp only [Act.put, List.setIfInBounds_toArray, List.set_cons_zero, List.set_cons_succ]
                        refine takeH 10 (v := ?vz10) rfl (by kernel_rfl) (by kernel_rfl) (by kernel_rfl) (fun _ _ _ h => h) hH rfl ?yz10 ?rz10
                        case yz10 => intro W hSw; obtain ⟨h1, h2, h3⟩ := hSw; go_simp; try with_reducible rfl
                        try simp only [Act.put, List.setIfInBounds_toArray, List.set_cons_zero, List.set_cons_succ]
                        refine takeH 11 (v := ?vz11) rfl (by kernel_rfl) (by kernel_rfl) (by kernel_rfl) (fun _ _ _ h => h) hH rfl ?yz11 ?rz11
                        case yz11 => intro W hSw; obtain ⟨h1, h2, h3⟩ := hSw; go_simp; try with_reducible rfl
                        try simp only [Act.put, List.setIfInBounds_toArray, List.set_cons_zero, List.set_cons_succ]
                        refine takeH 12 (v := ?vz12) rfl (by kernel_rfl) (by kernel_rfl) (by kernel_rfl) (fun _ _ _ h => h) hH rfl ?yz12 ?rz12
                        case yz12 => intro W hSw; obtain ⟨h1, h2, h3⟩ := hSw; go_simp; try with_reducible rfl
                        try simp only [Act.put, List.setIfInBounds_toArray, List.set_cons_zero, List.set_cons_succ]
                        refine takeH 13 (v := ?vz13) rfl (by kernel_rfl) (by kernel_rfl) (by kernel_rfl) (fun _ _ _ h => h) hH rfl ?yz13 ?rz13
                        case yz13 => intro W hSw; obtain ⟨h1, h2, h3⟩ := hSw; go_simp; try with_reducible rfl
                        try simp only [Act.put, List.setIfInBounds_toArray, List.set_cons_zero, List.set_cons_succ]
                        refine takeH 14 (v := ?vz14) rfl (by kernel_rfl) (by kernel_rfl) (by kernel_rfl) (fun _ _ _ h => h) hH rfl ?yz14 ?rz14
                        case yz14 => intro W hSw; obtain ⟨h1, h2, h3⟩ := hSw; go_simp; try with_reducible rfl
                        try simp only [Act.put, List.setIfInBounds_toArray, List.set_cons_zero, List.set_cons_succ]
                        refine takeH 15 (v := ?vz15) rfl (by kernel_rfl) (by kernel_rfl) (by kernel_rfl) (fun _ _ _ h => h) hH rfl ?yz15 ?rz15
                        case yz15 => intro W hSw; obtain ⟨h1, h2, h3⟩ := hSw; go_simp; try with_reducible rfl
                        try simp only [Act.put, List.setIfInBounds_toArray, List.set_cons_zero, List.set_cons_succ]
                        refine takeH 16 (v := ?vz16) rfl (by kernel_rfl) (by kernel_rfl) (by kernel_rfl) (fun _ _ _ h => h) hH rfl ?yz16 ?rz16
                        case yz16 => intro W hSw; go_simp; first | done | (rw [if_neg (by decide)]; with_reducible rfl) | with_reducible rfl
                        try simp only [Act.put, List.setIfInBounds_toArray, List.set_cons_zero, List.set_cons_succ]
                        refine callH 17 rfl (by kernel_rfl) rfl (fun K hK => ?_)
                        go_simp
                        refine hK.out _ _ ⟨(World.grownBy_alloc _ _ none).cell hH.1 (by simp), (World.grownBy_alloc _ _ none).cell hH.2.1 (by simp), (World.grownBy_alloc _ _ none).cell hH.2.2 (by simp)⟩ (fun hH => ?_)
                        clear hK K
                        try simp only [Act.put, List.setIfInBounds_toArray, List.set_cons_zero, List.set_cons_succ]
                        refine callH 18 rfl (by kernel_rfl) rfl (fun K hK => ?_)
                        refine op_push_at TI3 wr.drew (.tmp 132) (.tmp 149) rfl W5.heap.size _ ps _ rfl hown hol rfl hB5 ?_
                        intro v8 w8 hown8 hg8 _
                        have hgr8 : ∀ g, u19.ownBlock = some g → W5.heap.size ≤ g := fun g e => (hown.lt g e).1
                        refine hK.out _ _ ⟨hg8.cell d0 (fun e => by have := hgr8 _ e.symm; simp only at this; omega), hg8.cell d1 (fun e => by have := hgr8 _ e.symm; simp only at this; omega), hg8.cell d2 (fun e => by have h15 := Hsz.out; have := hgr8 _ e.symm; simp only at this; omega)⟩ (fun hH => ?_)
                        clear hK K
                        try simp only [Act.put, List.setIfInBounds_toArray, List.set_cons_zero, List.set_cons_succ]
                        refine takeH 19 (v := ?vz19) rfl (by kernel_rfl) (by kernel_rfl) (by kernel_rfl) (fun _ _ _ h => h) hH rfl ?yz19 ?rz19
                        case yz19 => intro W hSw; obtain ⟨h1, h2, h3⟩ := hSw; go_simp; try with_reducible rfl
                        try simp only [Act.put, List.setIfInBounds_toArray, List.set_cons_zero, List.set_cons_succ]
                        refine wpAnyH_done (by kernel_rfl) ?_ _
                        try simp only [Act.put]
                        have hb8 := Hbi.out.drew.grown hg8 hB5 hgr8
                        clear hg8 hH e1 e2 e3 e4 e5 d0 d1 d2
                        go_wp2
                        go_roundw
                        case rel => exact ⟨j + 1, by omega, by go_num, by rw [Hex2.out]; exact hown8, hb8⟩
                        case measure => simp [intOf]; omega
                      · have hje : j = k + 1 := by omega
                        subst hje
                        obtain ⟨W6, hW6⟩ : ∃ W6, W6 = wr := ⟨_, rfl⟩
                        subst hW6
                        have hxl : ((List.range (k + 1)).map fun c => colE k col (wthE (T m) (tmsE R f)) c).length = k + 1 := by simp
                        obtain ⟨g19, c19, rfl, hg19, hg19', _, hc19, _⟩ := hown.row (by omega)
                        have hrow : ∀ j, j < k + 1 → W6.cell? ⟨g19, j, none⟩ = some (.int .i64 (colE k col (wthE (T m) (tmsE R f)) j)) := fun j hj => by
                          have := hc19 j (by omega)
                          simpa using this
                        rw [hxl]
                        clear hc19 hown hol hxl
                        have hrw6 := Hrw.out.below Hbi.out
                        have hbel6 := below_step Hbel.out Hbel.out.size Hbi.out
                        obtain ⟨_, _, _, D6, _⟩ := hrw6.at hmk
                        rw [rowE_len] at D6
                        have hfr6 := hrw6.frozen m
                        have hne19 : g19 ≠ g7 := by omega
                        have hrw8 := hrw6.set hmk (b := g19) (off := 0) (c := c19) (r := rowE k col (wthE (T m) (tmsE R f))) (by have := Hbel.out.size; omega) hne19 hg19' (fun j hj => by rw [rowE_len] at hj; rw [rowE_get, Nat.zero_add]; exact hrow j hj)
                        rw [rowE_len] at hrw8
                        have hrw8 := hrw8.congr (F' := fun i => rowE k col (elimTo T p (m + 1) i)) (fun i _ => by rw [HE.out]; by_cases e : i = m <;> simp [e])
                        have hrow8 : ∀ j, j < k + 1 → (W6.setCell ⟨g7, m, none⟩ (.slice (some ⟨g19, 0, none⟩) (k + 1) c19)).cell? ⟨g15, j, none⟩ = some (.int .i64 (colE k col R j)) := fun j hj => (grownBy_set W6 g7 m _).cell ((Hbi.out.cell (p := ⟨g15, j, none⟩) Hsz.out).trans (Hrow.out j hj)) (by simpa using hne7)
                        have hsz8 : g15 < (W6.setCell ⟨g7, m, none⟩ (.slice (some ⟨g19, 0, none⟩) (k + 1) c19)).heap.size := by have := Hsz.out; simp [World.setCell]; omega
                        have hbel8 := hbel6.setCell (p := ⟨g7, m, none⟩) hrw6.lo (.slice (some ⟨g19, 0, none⟩) (k + 1) c19)
                        have Hrw8 := Lib.hid hrw8; clear hrw8 hrw6
                        have Hrow8 := Lib.hid hrow8; clear hrow8 hrow
                        have Hbel8 := Lib.hid hbel8; clear hbel8 hbel6
                        have Hsz8 := Lib.hid hsz8; clear hsz8 hg19'
                        go_wp2_with fail
                        clear D6 hfr6
                        generalize W6.setCell ⟨g7, m, none⟩ (.slice (some ⟨g19, 0, none⟩) (k + 1) c19) = W8 at *
                        go_roundw
                        case rel => exact ⟨m + 1, by omega, by go_num, Hrw8.out, Hrow8.out, Hsz8.out, Hbel8.out⟩
                        case measure => simp [intOf]; omega
                · have hmk' : m = k := by omega
                  subst hmk'
                  have Hend := Lib.hid Hrw.out
                  go_wp2
                  go_roundw
                  case rel => exact ⟨p + 1, by omega, by go_num, by rw [Hst.out]; exact Hend.out, Hbel.out⟩
                  case measure => simp [intOf]; omega
        · have hpk' : p = k := by omega
          subst hpk'
          have hrw := Hrws.out
          have Hv21 := Lib.hid (own_empty 3 W1 (Nat.le_refl _))
          have Hb21 := Lib.hid ((Below.refl W1.heap.size W1).alloc (Nat.le_refl _) (.cells #[] 3))
          have hat : ∀ i, i < p → ∃ b off c, W1.cell? ⟨g7, i, none⟩ = some (.slice (some ⟨b, off, none⟩) (p + 1) c) ∧ b < W1.heap.size ∧ W1.cell? ⟨b, off + p, none⟩ = some (.int .i64 (stAt p S0 p i (8 + col))) := fun i hi => by
            obtain ⟨b, off, c, h1, _, _, h4, h5⟩ := hrw.at hi
            have := h5 p (by rw [rowE_len]; omega)
            rw [rowE_get, show colE p col (stAt p S0 p i) p = stAt p S0 p i (8 + col) by unfold colE; rw [if_neg (by omega)]] at this
            rw [rowE_len] at h1
            exact ⟨b, off, c, h1, h4, this⟩
          have Hat2 := Lib.hid hat; clear hat
          have hg7 := hrw.lt
          clear hrw Hrws
          go_wp2_with fail
          go_loopw [21, 22] (fun v i wi => ∃ j : Nat, j ≤ p ∧ i = .int .i64 j ∧ Own 3 wi W1.heap.size v ((List.range j).map fun i => stAt p S0 p i (8 + col)) ∧ Below W1.heap.size W1 wi) (fun _ i _ => p - (intOf i).toNat)
          case atStart => exact ⟨0, by omega, rfl, Hv21.out, Hb21.out⟩
          case round =>
            clear Hv21 Hb21
            obtain ⟨j, hj, rfl, hown, hbi⟩ := hrel
            have hol : ((List.range j).map fun i => stAt p S0 p i (8 + col)).length ≤ 1099511627776 := by simp; omega
            have Hbi := Lib.hid hbi; clear hbi
            have hB3 := Hbi.out.size
            by_cases hjp : j < p
            · obtain ⟨b, off1, c1, D, hb, E⟩ := Hat2.out j hjp
              have d0 := (Hbi.out.cell (p := ⟨g7, j, none⟩) hg7).trans D
              have d1 := (Hbi.out.cell (p := ⟨b, off1 + p, none⟩) hb).trans E
              have Hex2 := Lib.hid (show ((List.range (j + 1)).map fun i => stAt p S0 p i (8 + col)) = ((List.range j).map fun i => stAt p S0 p i (8 + col)) ++ [stAt p S0 p j (8 + col)] by rw [List.range_succ, List.map_append]; rfl)
              generalize hps : (List.range j).map (fun i => stAt p S0 p i (8 + col)) = ps at *
              clear hps D E
              generalize stAt p S0 p j (8 + col) = z at *
              have hp1 : (p : Int) < (p : Int) + 1 := by omega
              go_wp2_with (at_builtin; refine wpList_push TI3 rfl (.tmp 161) (.tmp 169) rfl W1.heap.size _ ps _ rfl hown hol rfl hB3 ?_; intro v2 w2 hown2 hg2)
              go_roundw
              case rel => exact ⟨j + 1, by omega, by go_num, by rw [Hex2.out]; exact hown2, Hbi.out.grown hg2 hB3 (fun g e => (hown.lt g e).1)⟩
              case measure => simp [intOf]; omega
            · have hje : j = p := by omega
              subst hje
              have hB1 := Hbel.out.size
              have Hown := Lib.hid hown; clear hown
              go_wp2
              go_ret
              exact ⟨_, rfl, by have := Hown.out.mono hB1; rw [← HS0.out] at this; exact this, below_step Hbel.out hB1 Hbi.out⟩

end Go.Proofs.Yteglefchkecfjaa

/- Arrays of arrays of numbers in memory: a row read, a row stored; general steps, nothing here speaks of the program. -/
namespace Go.Proofs.Yteglefchkecfjaa
open Go.RowKit

theorem run_loadVar_part {P : Program} (w : World) (g off n : Nat) (ty : TypeId) (f : Nat → Value) (d : TypeDesc) (hu : P.underlying ty = some d) (hd : (match d with | .struct _ | .array _ _ => true | _ => false) = true) (hi : (P.info? ty).map (·.size) = some n)
    (hc : ∀ j, j < n → w.cell? ⟨g, off + j, none⟩ = some (f j)) : (loadVar ty ⟨g, off, none⟩).run P w = .ok (.agg (arrC n f)) w := by
  have hl : (loadCells ⟨g, off, none⟩ (arrC n f).toList.length).run P w = .ok (arrC n f).toList.toArray w :=
    run_loadCells_list (P := P) w ⟨g, off, none⟩ (arrC n f).toList (fun j v hv => by
      rw [addr_add']
      have hj : j < n := by
        obtain ⟨h, _⟩ := List.getElem?_eq_some_iff.1 hv
        simpa [arrC] using h
      rw [hc j hj]
      simp [arrC, hj] at hv
      rw [hv])
  cases hq : P.info? ty with
  | none => simp [hq] at hi
  | some i =>
    have hs : i.size = n := by simpa [hq] using hi
    have hagg : (isAgg ty).run P w = .ok true w := by
      unfold isAgg
      rw [Sem.run_bind, run_underlying hu w]
      cases d <;> simp_all
    simp only [Array.length_toList, Array.toArray_toList, arrC_size] at hl
    simp [loadVar, Sem.run_bind, hagg, sizeOf, typeInfo, hq, hs, hl]
theorem exec_load_part {P : Program} {o : Oper} {a : Act} {w : World} (ty : TypeId) (x : Operand) (ho : o.op = .load ty x) (g off n : Nat) (hx : a.eval x = .pointer (some ⟨g, off, none⟩)) (f : Nat → Value) (d : TypeDesc) (hu : P.underlying ty = some d)
    (hd : (match d with | .struct _ | .array _ _ => true | _ => false) = true) (hi : (P.info? ty).map (·.size) = some n) (hc : ∀ j, j < n → w.cell? ⟨g, off + j, none⟩ = some (f j)) : (execOp a.eval o).run P w = .ok (.value (.agg (arrC n f))) w := by
  unfold execOp
  simp [ho, hx, Instr.loadAt, Instr.sureAddr, run_loadVar_part w g off n ty f d hu hd hi hc]
theorem run_storeVar_part {P : Program} (w : World) (g off : Nat) (t ty : TypeId) (old cells : Array Value) (hg : w.heap[g]? = some (.cells old t (0, 0))) (hi : (P.info? ty).map (·.size) = some cells.size) (ho : off + cells.size ≤ old.size) (h1 : cells.all (·.oneCell') = true) :
    (storeVar ty ⟨g, off, none⟩ (.agg cells)).run P w = .ok () (w.setRow g (old.toList.take off ++ cells.toList ++ old.toList.drop (off + cells.size)).toArray) := by
  have := run_storeCells_at P g off t cells.toList 0 old w hg (by simpa using ho) (fun v hv => (Array.all_eq_true_iff_forall_mem.1 h1) v (by simpa using hv))
  cases hq : P.info? ty with
  | none => simp [hq] at hi
  | some i =>
    have hs : cells.size = i.size := by simp [hq] at hi; omega
    simp only [Nat.add_zero, Array.length_toList] at this
    simp [storeVar, sizeOf, typeInfo, hq, Value.cells, ← hs, this]
theorem wp_store_part {P : Program} {o : Oper} {a : Act} {w : World} {K : Act → World → Prop} {Q : Exit → Act → World → Prop} (ty : TypeId) (x y : Operand) (ho : o.op = .store ty x y)
    (g off : Nat) (cells : Array Value) (hx : a.eval x = .pointer (some ⟨g, off, none⟩)) (hy : a.eval y = .agg cells)
    (t : TypeId) (old : Array Value) (hg : w.heap[g]? = some (.cells old t (0, 0))) (hi : (P.info? ty).map (·.size) = some cells.size)
    (hold : off + cells.size ≤ old.size) (h1 : cells.all (·.oneCell') = true)
    (h : K (a.put o.dst undef) (w.setRow g (old.toList.take off ++ cells.toList ++ old.toList.drop (off + cells.size)).toArray)) : o.wp P a w K Q := by
  unfold Oper.wp execOp
  simp only [ho, hx, hy, Instr.storeAt, Instr.sureAddr, Sem.run_bind, Sem.run_pure, Result.andThen_ok, run_storeVar_part w g off t ty old cells hg hi hold h1]
  exact h

/-! a grid of eight rows of twenty -/
def grC (S : Nat → Nat → Int) : Array Value := arrC 160 fun i => .int .i64 (S (i / 20) (i % 20))
theorem grC_size (S : Nat → Nat → Int) : (grC S).size = 160 := arrC_size _ _
theorem grC_get {S : Nat → Nat → Int} {k c : Nat} (hk : k < 8) (hc : c < 20) : (grC S)[k * 20 + c]? = some (.int .i64 (S k c)) := by
  unfold grC
  rw [arrC_get (by omega), show (k * 20 + c) / 20 = k by omega, show (k * 20 + c) % 20 = c by omega]
theorem grC_one (S : Nat → Nat → Int) : (grC S).all (·.oneCell') = true := by
  rw [Array.all_eq_true_iff_forall_mem]
  intro v hv
  simp only [grC, arrC, List.mem_toArray, List.mem_map] at hv
  obtain ⟨i, _, rfl⟩ := hv
  rfl
theorem grC_congr {S T : Nat → Nat → Int} (h : ∀ k c, k < 8 → c < 20 → S k c = T k c) : grC S = grC T := by
  unfold grC arrC
  congr 1
  exact List.map_congr_left fun i hi => by
    have := List.mem_range.1 hi
    rw [h _ _ (by omega) (Nat.mod_lt _ (by omega))]
def updR (S : Nat → Eqn) (k : Nat) (e : Eqn) : Nat → Eqn := fun j => if j = k then e else S j
theorem grid_splice {S : Nat → Nat → Int} {k : Nat} (hk : k < 8) (e : Nat → Int) : ((grC S).toList.take (k * 20) ++ (eqC e).toList ++ (grC S).toList.drop (k * 20 + (eqC e).size)).toArray = grC (updR S k e) := by
  rw [eqC_size]
  unfold grC eqC arrC
  congr 1
  apply List.ext_getElem
  · simp; omega
  · intro i h1 h2
    have hi : i < 160 := by simpa using h2
    rw [List.getElem_map, List.getElem_range]
    unfold updR
    by_cases ha : i < k * 20
    · rw [List.getElem_append_left (by simp; omega), List.getElem_append_left (by simp; omega)]
      simp only [List.getElem_take, List.getElem_map, List.getElem_range]
      rw [if_neg (by omega)]
    · by_cases hb : i < k * 20 + 20
      · rw [List.getElem_append_left (by simp; omega), List.getElem_append_right (by simp; omega)]
        simp only [List.getElem_map, List.getElem_range, List.length_take, List.length_map, List.length_range]
        rw [if_pos (by omega)]
        congr 2
        omega
      · rw [List.getElem_append_right (by simp; omega)]
        simp only [List.getElem_drop, List.getElem_map, List.getElem_range, List.length_append, List.length_take, List.length_map, List.length_range]
        rw [if_neg (by omega)]
        congr 2
        · omega
        · omega
theorem eqs0_step (need : Nat) (xs : Nat → Int) (vs : Nat → List Int) (k : Nat) : updR (eqs0 need xs vs k) k (eqOf need (xs k) (vs k)) = eqs0 need xs vs (k + 1) := by
  funext j
  unfold updR eqs0
  by_cases h : j = k
  · subst h; simp
  · by_cases h2 : j < k
    · simp [h, h2, show j < k + 1 by omega]
    · simp [h, h2, show ¬ j < k + 1 by omega]
theorem elim_zero (T : Nat → Eqn) (i : Nat) : updR T i (tmsE (T i) (invZ (T i i))) = elimTo T i 0 := by
  funext j
  unfold updR elimTo
  by_cases h : j = i
  · subst h; simp
  · simp [h]
theorem elim_same (T : Nat → Eqn) (i : Nat) : elimTo T i (i + 1) = elimTo T i i := by
  funext j
  unfold elimTo
  by_cases h : j = i
  · simp [h]
  · by_cases h2 : j < i
    · simp [h, h2, show j < i + 1 by omega]
    · simp [h, h2, show ¬ j < i + 1 by omega]
theorem elim_step {T : Nat → Eqn} {i j : Nat} (h : j ≠ i) : updR (elimTo T i j) j (wthE (elimTo T i j j) (tmsE (elimTo T i j i) (elimTo T i j j i))) = elimTo T i (j + 1) := by
  have e1 : elimTo T i j j = T j := by unfold elimTo; rw [if_neg h, if_neg (by omega)]
  have e2 : elimTo T i j i = tmsE (T i) (invZ (T i i)) := by unfold elimTo; rw [if_pos rfl]
  rw [e1, e2]
  funext k
  unfold updR elimTo
  by_cases hk : k = j
  · subst hk; simp [h]
  · by_cases hi : k = i
    · simp [hi]
      intro e; exact absurd e.symm h
    · by_cases h2 : k < j
      · simp [hk, hi, h2, show k < j + 1 by omega]
      · simp [hk, hi, h2, show ¬ k < j + 1 by omega]

theorem run_zeroValue {P : Program} {ty : TypeId} {v : Value} (h : (P.info? ty).map (·.zero) = some (some v)) (w : World) : (zeroValue ty).run P w = .ok v w := by
  cases hq : P.info? ty with
  | none => simp [hq] at h
  | some i =>
    have hz : i.zero = some v := by simpa [hq] using h
    simp [zeroValue, typeInfo, hq, hz]

theorem wp_store_grid {P : Program} {o : Oper} {a : Act} {w : World} {K : Act → World → Prop} {Q : Exit → Act → World → Prop} (ty : TypeId) (x y : Operand) (ho : o.op = .store ty x y) (g k : Nat) (S : Nat → Eqn) (e : Eqn) (hk : k < 8)
    (hx : a.eval x = .pointer (some ⟨g, k * 20, none⟩)) (hy : a.eval y = .agg (eqC e)) (t : TypeId) (hg : Str w g t (grC S)) (hi : (P.info? ty).map (·.size) = some 20)
    (h : ∀ w', Str w' g t (grC (updR S k e)) → w.grownBy w' (some g) → K (a.put o.dst undef) w') : o.wp P a w K Q := by
  refine wp_store_part ty x y ho g (k * 20) (eqC e) hx hy t (grC S) hg (by rw [eqC_size]; exact hi) (by rw [eqC_size, grC_size]; omega) (eqC_one e) ?_
  rw [grid_splice hk e]
  exact h _ (setRow_str hg _) (grownBy_setRow w g _)
theorem wpList_store_grid {P : Program} {ops : Array Oper} {rest : List Oper} {o : Oper} {a : Act} {w : World} {Q : Exit → Act → World → Prop} (hgd : o.guard = none) (ty : TypeId) (x y : Operand) (ho : o.op = .store ty x y) (g k : Nat) (S : Nat → Eqn) (e : Eqn) (hk : k < 8)
    (hx : a.eval x = .pointer (some ⟨g, k * 20, none⟩)) (hy : a.eval y = .agg (eqC e)) (t : TypeId) (hg : Str w g t (grC S)) (hi : (P.info? ty).map (·.size) = some 20)
    (h : ∀ w', Str w' g t (grC (updR S k e)) → w.grownBy w' (some g) → wpList P ops Q rest (a.put o.dst undef) w') : wpList P ops Q (o :: rest) a w :=
  wpList_plain hgd fun _ hK => wp_store_grid ty x y ho g k S e hk hx hy t hg hi fun w' h1 h2 => hK _ _ (h w' h1 h2)
theorem exec_load_row {P : Program} {o : Oper} {a : Act} {w : World} (ty : TypeId) (x : Operand) (ho : o.op = .load ty x) (g k : Nat) (S : Nat → Eqn) (hk : k < 8) (hx : a.eval x = .pointer (some ⟨g, k * 20, none⟩)) (d : TypeDesc) (hu : P.underlying ty = some d)
    (hd : (match d with | .struct _ | .array _ _ => true | _ => false) = true) (hi : (P.info? ty).map (·.size) = some 20) (t : TypeId) (hg : Str w g t (grC S)) : (execOp a.eval o).run P w = .ok (.value (.agg (eqC (S k)))) w :=
  exec_load_part ty x ho g (k * 20) 20 hx _ d hu hd hi fun _ hj => hg.cell _ (grC_get hk hj)

end Go.Proofs.Yteglefchkecfjaa

/- What impl's elimination finds, by a walk of its text; conditions: as many shards as suffice, with different numbers and one to twelve values each. -/
namespace Go.Proofs.Yteglefchkecfjaa
open Go.RowKit

set_option maxRecDepth 8000 in
set_option maxHeartbeats 2000000 in
theorem impl_solve (need cols : Nat) (L : List Sh) (v : Value) (fp : List Nat) (w : World) (hn1 : 1 ≤ need) (hn8 : need ≤ 8) (hlen : need ≤ L.length) (hc1 : 1 ≤ cols) (hc12 : cols ≤ 12) (hok : shsB cols L = true) (hr : Rd w (.l (L.map shardD)) v fp) :
    Calls Try.prog 45 #[.int .i64 (need : Int), v] w fun e w' => e = .returned (.agg (grC (stAt need (eqs0 need (xsOf L) (vsOf L) need) need))) ∧ Below w.heap.size w w' := by
  obtain ⟨a, cap, rfl⟩ := hr.slice
  rw [List.length_map] at *
  have Hr := Lib.hid hr; clear hr
  have Hok := Lib.hid hok; clear hok
  have hzv := fun w => run_zeroValue (P := Try.prog) (ty := 71) (v := .agg (grC fun _ _ => 0)) (by kernel_rfl) w
  go_enter Try.func45, Try.ntmps45
  go_wp2_with fail
  have hw1 : Str ((w.alloc (.cells (grC fun _ _ => 0) 71)).alloc (.cells (grC fun _ _ => 0) 71)) (w.heap.size + 1) 71 (grC (eqs0 need (xsOf L) (vsOf L) 0)) := by
    have := Str.new (w.alloc (.cells (grC fun _ _ => 0) 71)) 71 (grC fun _ _ => 0)
    simp only [World.size_alloc] at this
    rw [show grC (eqs0 need (xsOf L) (vsOf L) 0) = grC fun _ _ => 0 from grC_congr fun k c _ _ => by unfold eqs0; rw [if_neg (by omega)]]
    exact this
  have hw0 : Str ((w.alloc (.cells (grC fun _ _ => 0) 71)).alloc (.cells (grC fun _ _ => 0) 71)) w.heap.size 71 (grC fun _ _ => 0) := (Str.new w 71 (grC fun _ _ => 0)).alloc _
  have hwb : Below w.heap.size w ((w.alloc (.cells (grC fun _ _ => 0) 71)).alloc (.cells (grC fun _ _ => 0) 71)) := ((Below.refl _ w).alloc (Nat.le_refl _) _).alloc (by simp) _
  clear hzv
  generalize (w.alloc (.cells (grC fun _ _ => 0) 71)).alloc (.cells (grC fun _ _ => 0) 71) = W1 at *
  have Hw0 := Lib.hid hw0; clear hw0
  have Hw1 := Lib.hid hw1; clear hw1
  have Hwb := Lib.hid hwb; clear hwb
  go_loopw [10] (fun i wr => ∃ k : Nat, k ≤ need ∧ i = .int .i64 k ∧ Str wr w.heap.size 71 (grC fun _ _ => 0) ∧ Str wr (w.heap.size + 1) 71 (grC (eqs0 need (xsOf L) (vsOf L) k)) ∧ Below w.heap.size w wr) (fun i _ => need - (intOf i).toNat)
  case atStart => exact ⟨0, by omega, rfl, Hw0.out, Hw1.out, Hwb.out⟩
  case round =>
    obtain ⟨k, hk, rfl, s0, s1, hbel⟩ := hrel
    have hsz := s1.lt
    have Hs0 := Lib.hid s0; clear s0
    have Hs1 := Lib.hid s1; clear s1
    by_cases hlt : k < need
    · have hkL : k < L.length := by omega
      obtain ⟨g, off, rfl, hg, hat⟩ := shards_at (Hr.out.underB hbel (fun r hr => Hr.out.lt r hr)) (by omega)
      obtain ⟨av, cv, C0, C1, I1⟩ := hat k hkL
      have hsh := shsB_at Hok.out hkL
      have Hbel := Lib.hid hbel; clear hbel hat
      have Hstep := Lib.hid (eqs0_step need (xsOf L) (vsOf L) k)
      have hxk : xsOf L k = L[k].1 := by unfold xsOf; rw [getS hkL]
      have hvk : vsOf L k = L[k].2 := by unfold vsOf; rw [getS hkL]
      rw [hxk, hvk] at Hstep
      have hx := hsh.1.1
      have hvl := hsh.1.2.1
      clear hsh hxk hvk
      generalize L[k].1 = x at *
      generalize L[k].2 = vs at *
      have Hcall := Lib.hid (impl_equationOf need x av cv vs wr hn8 (by omega) (by omega) (by omega) (by omega) I1)
      have hxa := fun w' => run_indexAt_arr (P := Try.prog) (B := w.heap.size + 1) (o := 0) Try.underlying71 (s := 20) (by kernel_rfl) (show k < 8 by omega) w'
      rw [Nat.zero_add] at hxa
      clear hvl I1
      go_wp2_with fail
      refine Hcall.out.mono ?_
      rintro e w6 ⟨rfl, hb6⟩
      have Hs06 := Lib.hid ((hb6.block _ Hs0.out.lt).trans Hs0.out)
      have Hs16 := Lib.hid ((hb6.block _ Hs1.out.lt).trans Hs1.out)
      have Hb6 := Lib.hid (below_step Hbel.out Hbel.out.size hb6)
      have hsz6 := hb6.size
      clear hb6
      go_wp2_with (refine wpList_store_grid rfl 69 _ _ rfl (w.heap.size + 1) k (eqs0 need (xsOf L) (vsOf L) k) (eqOf need x vs) (by omega) rfl rfl 71 Hs16.out (by kernel_rfl) ?_; intro w8 hs8 hg8)
      rw [Hstep.out] at hs8
      have Hs8 := Lib.hid hs8; clear hs8
      go_roundw
      case rel => exact ⟨k + 1, by omega, by go_num, Str.kept Hs06.out hg8 (by simp), Hs8.out, Hb6.out.grown hg8 Hb6.out.size (fun g e => by cases e; omega)⟩
      case measure => simp [intOf]; omega
    · have hke : k = need := by omega
      subst hke
      have hS0b : Bd (eqs0 k (xsOf L) (vsOf L) k) := eqs0_bd fun j hj y hy => by
        have := (shsB_at Hok.out (show j < L.length by omega)).1.2.2 y
        unfold vsOf at hy; rw [getS (show j < L.length by omega)] at hy
        exact this hy
      have HS0b := Lib.hid hS0b; clear hS0b
      clear Hw1 Hw0
      generalize hS0 : eqs0 k (xsOf L) (vsOf L) k = S0 at *
      have HS0 := Lib.hid hS0; clear hS0
      have Hbel := Lib.hid hbel; clear hbel
      go_wp2_with fail
      go_loopw [23] (fun i wi => ∃ p : Nat, p ≤ k ∧ i = .int .i64 p ∧ Str wi w.heap.size 71 (grC fun _ _ => 0) ∧ Str wi (w.heap.size + 1) 71 (grC (stAt k S0 p)) ∧ Below w.heap.size w wi) (fun i _ => k - (intOf i).toNat)
      case atStart => exact ⟨0, by omega, rfl, Hs0.out, Hs1.out, Hbel.out⟩
      case round =>
        obtain ⟨p, hp, rfl, s0, s1, hbel⟩ := hrel
        clear Hs0 Hs1 Hbel
        have hsz := s1.lt
        have Hs0 := Lib.hid s0; clear s0
        have Hbel := Lib.hid hbel; clear hbel
        by_cases hlt : p < k
        · have hTb := stAt_bd HS0b.out k p
          have HE := Lib.hid (show elimTo (stAt k S0 p) p k = stAt k S0 (p + 1) from rfl)
          generalize stAt k S0 p = T at *
          have HTb := Lib.hid hTb; clear hTb
          have Hz := Lib.hid (elim_zero T p)
          have hxa := fun w' => run_indexAt_arr (P := Try.prog) (B := w.heap.size + 1) (o := 0) Try.underlying71 (s := 20) (by kernel_rfl) (show p < 8 by omega) w'
          have hxb := fun w' => run_indexAt_arr (P := Try.prog) (B := w.heap.size + 1) (o := p * 20) Try.underlying69 (s := 1) (by kernel_rfl) (show p < 20 by omega) w'
          rw [Nat.zero_add] at hxa
          rw [Nat.mul_one] at hxb
          go_wp2_with fail
          refine wp_region_L 12 (fun w' => Str w' (w.heap.size + 1) 71 (grC T)) (by kernel_rfl) s1 (fun hH => ?_)
          refine takeL 0 (v := ?va0) rfl (by kernel_rfl) (by kernel_rfl) (by kernel_rfl) (by kernel_rfl) (by kernel_rfl) (fun _ _ _ h => h) hH rfl ?ya0 ?ra0
          case ya0 => intro W hSw; go_simp; try with_reducible rfl
          try simp only [Act.put, List.setIfInBounds_toArray, List.set_cons_zero, List.set_cons_succ]
          refine takeL 1 (v := ?va1) rfl (by kernel_rfl) (by kernel_rfl) (by kernel_rfl) (by kernel_rfl) (by kernel_rfl) (fun _ _ _ h => h) hH rfl ?ya1 ?ra1
          case ya1 => intro W hSw; go_simp; try with_reducible rfl
          try simp only [Act.put, List.setIfInBounds_toArray, List.set_cons_zero, List.set_cons_succ]
          refine takeL 2 (v := ?va2) rfl (by kernel_rfl) (by kernel_rfl) (by kernel_rfl) (by kernel_rfl) (by kernel_rfl) (fun _ _ _ h => h) hH rfl ?ya2 ?ra2
          case ya2 => intro W hSw; go_simp; try with_reducible rfl
          try simp only [Act.put, List.setIfInBounds_toArray, List.set_cons_zero, List.set_cons_succ]
          refine takeL 3 (v := ?va3) rfl (by kernel_rfl) (by kernel_rfl) (by kernel_rfl) (by kernel_rfl) (by kernel_rfl) (fun _ _ _ h => h) hH rfl ?ya3 ?ra3
          case ya3 => intro W hSw; refine Eq.trans (exec_load_row 69 _ rfl (w.heap.size + 1) p T (by omega) rfl _ Try.underlying69 rfl (by kernel_rfl) 71 hSw) ?_; with_reducible rfl
          try simp only [Act.put, List.setIfInBounds_toArray, List.set_cons_zero, List.set_cons_succ]
          refine takeL 4 (v := ?va4) rfl (by kernel_rfl) (by kernel_rfl) (by kernel_rfl) (by kernel_rfl) (by kernel_rfl) (fun _ _ _ h => h) hH rfl ?ya4 ?ra4
          case ya4 => intro W hSw; go_simp; try with_reducible rfl
          try simp only [Act.put, List.setIfInBounds_toArray, List.set_cons_zero, List.set_cons_succ]
          refine takeL 5 (v := ?va5) rfl (by kernel_rfl) (by kernel_rfl) (by kernel_rfl) (by kernel_rfl) (by kernel_rfl) (fun _ _ _ h => h) hH rfl ?ya5 ?ra5
          case ya5 => intro W hSw; go_simp; try with_reducible rfl
          try simp only [Act.put, List.setIfInBounds_toArray, List.set_cons_zero, List.set_cons_succ]
          refine takeL 6 (v := ?va6) rfl (by kernel_rfl) (by kernel_rfl) (by kernel_rfl) (by kernel_rfl) (by kernel_rfl) (fun _ _ _ h => h) hH rfl ?ya6 ?ra6
          case ya6 => intro W hSw; go_simp; try with_reducible rfl
          try simp only [Act.put, List.setIfInBounds_toArray, List.set_cons_zero, List.set_cons_succ]
          refine takeL 7 (v := ?va7) rfl (by kernel_rfl) (by kernel_rfl) (by kernel_rfl) (by kernel_rfl) (by kernel_rfl) (fun _ _ _ h => h) hH rfl ?ya7 ?ra7
          case ya7 => intro W hSw; go_simp; try with_reducible rfl
          try simp only [Act.put, List.setIfInBounds_toArray, List.set_cons_zero, List.set_cons_succ]
          refine takeL 8 (v := ?va8) rfl (by kernel_rfl) (by kernel_rfl) (by kernel_rfl) (by kernel_rfl) (by kernel_rfl) (fun _ _ _ h => h) hH rfl ?ya8 ?ra8
          case ya8 => intro W hSw; have hcc := Str.cell hSw (p * 20 + p) (grC_get (S := T) (k := p) (c := p) (by omega) (by omega)); go_simp; try with_reducible rfl
          try simp only [Act.put, List.setIfInBounds_toArray, List.set_cons_zero, List.set_cons_succ]
          refine callL 9 rfl (by kernel_rfl) rfl (fun K hK => ?_)
          go_simp
          refine (impl_inverse (T p p) _ (HTb.out p p).1 (HTb.out p p).2).mono ?_
          rintro e w' ⟨rfl, rfl⟩
          dsimp only
          refine hK.out _ _ hH (fun hH => ?_)
          clear hK K
          try simp only [Act.put, List.setIfInBounds_toArray, List.set_cons_zero, List.set_cons_succ]
          refine callL 10 rfl (by kernel_rfl) rfl (fun K hK => ?_)
          go_simp
          refine (impl_times (T p) (invZ (T p p)) _ (HTb.out p) (powF_bd _ _).1 (powF_bd _ _).2).mono ?_
          rintro e w6 ⟨rfl, hb6⟩
          dsimp only
          have hwd : wr.drew.heap.size = wr.heap.size := rfl
          refine hK.out _ _ ((hb6.block _ (by omega)).trans hH) (fun hH => ?_)
          clear hK K
          try simp only [Act.put, List.setIfInBounds_toArray, List.set_cons_zero, List.set_cons_succ]
          have Hs06 := Lib.hid ((hb6.block _ (by omega)).trans Hs0.out)
          have Hb6 := Lib.hid (below_step Hbel.out.drew Hbel.out.size hb6)
          have hsz6 := hb6.size
          clear hb6
          refine takeL 11 (v := ?va11) rfl (by kernel_rfl) (by kernel_rfl) (by kernel_rfl) (by kernel_rfl) (by kernel_rfl) (fun _ _ _ h => h) hH rfl ?ya11 ?ra11
          case ya11 => intro W hSw; go_simp; try with_reducible rfl
          try simp only [Act.put, List.setIfInBounds_toArray, List.set_cons_zero, List.set_cons_succ]
          refine lastL rfl (by kernel_rfl) (by kernel_rfl) (by kernel_rfl) rfl (fun K hK => ?_)
          refine wp_store_grid 69 _ _ rfl (w.heap.size + 1) p T (tmsE (T p) (invZ (T p p))) (by omega) rfl rfl 71 hH (by kernel_rfl) ?_
          intro w8 hs8 hg8
          refine hK.out _ _ ?_
          clear hK K
          try simp only [Act.put]
          rw [Hz.out] at hs8
          have Hs8 := Lib.hid hs8; clear hs8
          have Hs08 := Lib.hid (Str.kept Hs06.out hg8 (by simp))
          have Hb8 := Lib.hid (Hb6.out.grown hg8 Hb6.out.size (fun g e => by cases e; omega))
          clear hg8 hH s1
          clear hxa hxb Hs06 Hb6
          go_wp2_with fail
          go_loopw [39] (fun i wj => ∃ j : Nat, j ≤ k ∧ i = .int .i64 j ∧ Str wj w.heap.size 71 (grC fun _ _ => 0) ∧ Str wj (w.heap.size + 1) 71 (grC (elimTo T p j)) ∧ Below w.heap.size w wj) (fun i _ => k - (intOf i).toNat)
          case atStart => exact ⟨0, by omega, rfl, Hs08.out, Hs8.out, Hb8.out⟩
          case round =>
            clear Hs8 Hs08 Hb8
            obtain ⟨j, hj, rfl, s0, s1, hbel⟩ := hrel
            have hszj := s1.lt
            have Hs0 := Lib.hid s0; clear s0
            have Hbel := Lib.hid hbel; clear hbel
            by_cases hjk : j < k
            · by_cases hjp : j = p
              · subst hjp
                rw [← elim_same] at s1
                have Hs1 := Lib.hid s1; clear s1
                go_wp2
                go_roundw
                case rel => exact ⟨j + 1, by omega, by go_num, Hs0.out, Hs1.out, Hbel.out⟩
                case measure => simp [intOf]; omega
              · have hq : ((j : Int) == (p : Int)) = false := by rw [beq_eq_false_iff_ne]; omega
                have hq' : ((j : Int) != (p : Int)) = true := by simp; omega
                have Hz := Lib.hid (elim_step (T := T) hjp)
                have hVb := elim_bd HTb.out p j
                generalize hV : elimTo T p j = V at *
                clear hV
                have HVb := Lib.hid hVb; clear hVb
                have hxj := fun w' => run_indexAt_arr (P := Try.prog) (B := w.heap.size + 1) (o := 0) Try.underlying71 (s := 20) (by kernel_rfl) (show j < 8 by omega) w'
                have hxp := fun w' => run_indexAt_arr (P := Try.prog) (B := w.heap.size + 1) (o := 0) Try.underlying71 (s := 20) (by kernel_rfl) (show p < 8 by omega) w'
                have hxb := fun w' => run_indexAt_arr (P := Try.prog) (B := w.heap.size + 1) (o := j * 20) Try.underlying69 (s := 1) (by kernel_rfl) (show p < 20 by omega) w'
                rw [Nat.zero_add] at hxj hxp
                rw [Nat.mul_one] at hxb
                clear hjp
                go_wp2_with fail
                refine wp_region_L 15 (fun w' => Str w' (w.heap.size + 1) 71 (grC V)) (by kernel_rfl) s1 (fun hH => ?_)
                refine takeL 0 (v := ?vb0) rfl (by kernel_rfl) (by kernel_rfl) (by kernel_rfl) (by kernel_rfl) (by kernel_rfl) (fun _ _ _ h => h) hH rfl ?yb0 ?rb0
                case yb0 => intro W hSw; go_simp; try with_reducible rfl
                try simp only [Act.put, List.setIfInBounds_toArray, List.set_cons_zero, List.set_cons_succ]
                refine takeL 1 (v := ?vb1) rfl (by kernel_rfl) (by kernel_rfl) (by kernel_rfl) (by kernel_rfl) (by kernel_rfl) (fun _ _ _ h => h) hH rfl ?yb1 ?rb1
                case yb1 => intro W hSw; go_simp; try with_reducible rfl
                try simp only [Act.put, List.setIfInBounds_toArray, List.set_cons_zero, List.set_cons_succ]
                refine takeL 2 (v := ?vb2) rfl (by kernel_rfl) (by kernel_rfl) (by kernel_rfl) (by kernel_rfl) (by kernel_rfl) (fun _ _ _ h => h) hH rfl ?yb2 ?rb2
                case yb2 => intro W hSw; go_simp; try with_reducible rfl
                try simp only [Act.put, List.setIfInBounds_toArray, List.set_cons_zero, List.set_cons_succ]
                refine takeL 3 (v := ?vb3) rfl (by kernel_rfl) (by kernel_rfl) (by kernel_rfl) (by kernel_rfl) (by kernel_rfl) (fun _ _ _ h => h) hH rfl ?yb3 ?rb3
                case yb3 => intro W hSw; refine Eq.trans (exec_load_row 69 _ rfl (w.heap.size + 1) j V (by omega) rfl _ Try.underlying69 rfl (by kernel_rfl) 71 hSw) ?_; with_reducible rfl
                try simp only [Act.put, List.setIfInBounds_toArray, List.set_cons_zero, List.set_cons_succ]
                refine takeL 4 (v := ?vb4) rfl (by kernel_rfl) (by kernel_rfl) (by kernel_rfl) (by kernel_rfl) (by kernel_rfl) (fun _ _ _ h => h) hH rfl ?yb4 ?rb4
                case yb4 => intro W hSw; go_simp; try with_reducible rfl
                try simp only [Act.put, List.setIfInBounds_toArray, List.set_cons_zero, List.set_cons_succ]
                refine takeL 5 (v := ?vb5) rfl (by kernel_rfl) (by kernel_rfl) (by kernel_rfl) (by kernel_rfl) (by kernel_rfl) (fun _ _ _ h => h) hH rfl ?yb5 ?rb5
                case yb5 => intro W hSw; go_simp; try with_reducible rfl
                try simp only [Act.put, List.setIfInBounds_toArray, List.set_cons_zero, List.set_cons_succ]
                refine takeL 6 (v := ?vb6) rfl (by kernel_rfl) (by kernel_rfl) (by kernel_rfl) (by kernel_rfl) (by kernel_rfl) (fun _ _ _ h => h) hH rfl ?yb6 ?rb6
                case yb6 => intro W hSw; refine Eq.trans (exec_load_row 69 _ rfl (w.heap.size + 1) p V (by omega) rfl _ Try.underlying69 rfl (by kernel_rfl) 71 hSw) ?_; with_reducible rfl
                try simp only [Act.put, List.setIfInBounds_toArray, List.set_cons_zero, List.set_cons_succ]
                refine takeL 7 (v := ?vb7) rfl (by kernel_rfl) (by kernel_rfl) (by kernel_rfl) (by kernel_rfl) (by kernel_rfl) (fun _ _ _ h => h) hH rfl ?yb7 ?rb7
                case yb7 => intro W hSw; go_simp; try with_reducible rfl
                try simp only [Act.put, List.setIfInBounds_toArray, List.set_cons_zero, List.set_cons_succ]
                refine takeL 8 (v := ?vb8) rfl (by kernel_rfl) (by kernel_rfl) (by kernel_rfl) (by kernel_rfl) (by kernel_rfl) (fun _ _ _ h => h) hH rfl ?yb8 ?rb8
                case yb8 => intro W hSw; go_simp; try with_reducible rfl
                try simp only [Act.put, List.setIfInBounds_toArray, List.set_cons_zero, List.set_cons_succ]
                refine takeL 9 (v := ?vb9) rfl (by kernel_rfl) (by kernel_rfl) (by kernel_rfl) (by kernel_rfl) (by kernel_rfl) (fun _ _ _ h => h) hH rfl ?yb9 ?rb9
                case yb9 => intro W hSw; go_simp; try with_reducible rfl
                try simp only [Act.put, List.setIfInBounds_toArray, List.set_cons_zero, List.set_cons_succ]
                refine takeL 10 (v := ?vb10) rfl (by kernel_rfl) (by kernel_rfl) (by kernel_rfl) (by kernel_rfl) (by kernel_rfl) (fun _ _ _ h => h) hH rfl ?yb10 ?rb10
                case yb10 => intro W hSw; go_simp; try with_reducible rfl
                try simp only [Act.put, List.setIfInBounds_toArray, List.set_cons_zero, List.set_cons_succ]
                refine takeL 11 (v := ?vb11) rfl (by kernel_rfl) (by kernel_rfl) (by kernel_rfl) (by kernel_rfl) (by kernel_rfl) (fun _ _ _ h => h) hH rfl ?yb11 ?rb11
                case yb11 => intro W hSw; have hcc := Str.cell hSw (j * 20 + p) (grC_get (S := V) (k := j) (c := p) (by omega) (by omega)); go_simp; try with_reducible rfl
                try simp only [Act.put, List.setIfInBounds_toArray, List.set_cons_zero, List.set_cons_succ]
                refine callL 12 rfl (by kernel_rfl) rfl (fun K hK => ?_)
                go_simp
                refine (impl_times (V p) (V j p) _ (HVb.out p) (HVb.out j p).1 (HVb.out j p).2).mono ?_
                rintro e w6 ⟨rfl, hb6⟩
                dsimp only
                have hwd : wr.drew.heap.size = wr.heap.size := rfl
                refine hK.out _ _ ((hb6.block _ (by omega)).trans hH) (fun hH => ?_)
                clear hK K
                try simp only [Act.put, List.setIfInBounds_toArray, List.set_cons_zero, List.set_cons_succ]
                have Hs06 := Lib.hid ((hb6.block _ (by omega)).trans Hs0.out)
                have Hb6 := Lib.hid (below_step Hbel.out.drew Hbel.out.size hb6)
                have hsz6 := hb6.size
                clear hb6
                refine callL 13 rfl (by kernel_rfl) rfl (fun K hK => ?_)
                go_simp
                refine (impl_without (V j) (tmsE (V p) (V j p)) _ (HVb.out j) (tms_bd _ _)).mono ?_
                rintro e w7 ⟨rfl, hb7⟩
                dsimp only
                refine hK.out _ _ ((hb7.block _ (by omega)).trans hH) (fun hH => ?_)
                clear hK K
                try simp only [Act.put, List.setIfInBounds_toArray, List.set_cons_zero, List.set_cons_succ]
                have Hs07 := Lib.hid ((hb7.block _ (by omega)).trans Hs06.out)
                have Hb7 := Lib.hid (below_step Hb6.out Hb6.out.size hb7)
                have hsz7 := hb7.size
                clear hb7
                refine takeL 14 (v := ?vb14) rfl (by kernel_rfl) (by kernel_rfl) (by kernel_rfl) (by kernel_rfl) (by kernel_rfl) (fun _ _ _ h => h) hH rfl ?yb14 ?rb14
                case yb14 => intro W hSw; go_simp; try with_reducible rfl
                try simp only [Act.put, List.setIfInBounds_toArray, List.set_cons_zero, List.set_cons_succ]
                refine lastL rfl (by kernel_rfl) (by kernel_rfl) (by kernel_rfl) rfl (fun K hK => ?_)
                refine wp_store_grid 69 _ _ rfl (w.heap.size + 1) j V (wthE (V j) (tmsE (V p) (V j p))) (by omega) rfl rfl 71 hH (by kernel_rfl) ?_
                intro w8 hs8 hg8
                refine hK.out _ _ ?_
                clear hK K
                try simp only [Act.put]
                rw [Hz.out] at hs8
                have Hs8 := Lib.hid hs8; clear hs8
                have Hs08 := Lib.hid (Str.kept Hs07.out hg8 (by simp))
                have Hb8 := Lib.hid (Hb7.out.grown hg8 Hb7.out.size (fun g e => by cases e; omega))
                clear hg8 hH s1 hxj hxp hxb
                go_wp2
                go_roundw
                case rel => exact ⟨j + 1, by omega, by go_num, Hs08.out, Hs8.out, Hb8.out⟩
                case measure => simp [intOf]; omega
            · have hjk' : j = k := by omega
              subst hjk'
              rw [HE.out] at s1
              have Hs1 := Lib.hid s1; clear s1
              go_wp2
              go_roundw
              case rel => exact ⟨p + 1, by omega, by go_num, Hs0.out, Hs1.out, Hbel.out⟩
              case measure => simp [intOf]; omega
        · have hpk : p = k := by omega
          subst hpk
          go_wp2_with (first
            | refine wpList_load_row rfl 71 _ rfl (w.heap.size + 1) rfl 71 (grC (stAt p S0 p)) (0, 0) _ s1 Try.underlying71 rfl (by rw [grC_size]; kernel_rfl) ?_
            | refine wpList_store_row rfl 71 _ _ rfl w.heap.size (grC (stAt p S0 p)) rfl rfl 71 (grC fun _ _ => 0) Hs0.out (by rw [grC_size]; kernel_rfl) (by rw [grC_size, grC_size]) (grC_one _) ?_)
          have sF := setRow_str Hs0.out (grC (stAt p S0 p))
          refine bodyPost_ret (results_cell_row rfl _ _ w.heap.size 71 (grC (stAt p S0 p)) (0, 0) _ rfl sF Try.underlying71 rfl (by rw [grC_size]; kernel_rfl)) rfl ⟨by rw [HS0.out], ?_⟩
          exact Hbel.out.grown (grownBy_setRow wr _ _) Hbel.out.size (fun g e => by cases e; omega)

end Go.Proofs.Yteglefchkecfjaa

/- The library's test whether two lists of ints are the same, and its copy of a list of ints, by walks of their texts; conditions: the lists have fewer than 2^40 elements. -/
namespace Go.Proofs.Yteglefchkecfjaa
open Go.RowKit

def EqTo (xs ys : List Int) (k : Nat) : Prop := ∀ j (h : j < xs.length) (h' : j < ys.length), j < k → xs[j] = ys[j]
theorem eqTo_step {xs ys : List Int} {k : Nat} (h : EqTo xs ys k) (hk : k < xs.length) (hk' : k < ys.length) (e : xs[k] = ys[k]) : EqTo xs ys (k + 1) := by
  intro j hj hj' hjk
  by_cases ej : j = k
  · subst ej; exact e
  · exact h j hj hj' (by omega)
theorem eqTo_all {xs ys : List Int} {k : Nat} (h : EqTo xs ys k) (hk : xs.length ≤ k) (hl : xs.length = ys.length) : xs = ys :=
  List.ext_getElem hl fun j h1 h2 => h j h1 h2 (by omega)

theorem lib_Equal (a a' : Option Addr) (c c' : Nat) (xs ys : List Int) (w : World) (hbig : xs.length ≤ 1099511627776) (hbig' : ys.length ≤ 1099511627776) (hc : IntsAt w a xs) (hc' : IntsAt w a' ys) :
    Calls Try.prog 49 #[.slice a xs.length c, .slice a' ys.length c'] w fun e w' => e = .returned (.bool (decide (xs = ys))) ∧ Drawn w w' := by
  by_cases hl : xs.length = ys.length
  · rcases hc.len with h0 | ⟨b, off, rfl, hb, hc⟩
    · have Hf := Lib.hid (show decide (xs = ys) = true from decide_eq_true (List.ext_getElem hl fun j h1 h2 => by omega))
      have hl0 : xs.length = 0 := by omega
      rw [← hl, hl0]
      go_enter Try.func49, Try.ntmps49
      go_wp2
      go_loopw [13] (fun i wr => i = .int .i64 0 ∧ Drawn w wr) (fun _ _ => 0)
      case atStart => exact ⟨rfl, Drawn.refl _⟩
      case round =>
        obtain ⟨rfl, hdr⟩ := hrel
        go_wp2
        go_ret
        exact ⟨ret_bool Hf.out.symm, hdr⟩
    · rcases hc'.len with h0 | ⟨b', off', rfl, hb', hc'⟩
      · have Hf := Lib.hid (show decide (xs = ys) = true from decide_eq_true (List.ext_getElem hl fun j h1 h2 => by omega))
        have hl0 : xs.length = 0 := by omega
        rw [← hl, hl0]
        go_enter Try.func49, Try.ntmps49
        go_wp2
        go_loopw [13] (fun i wr => i = .int .i64 0 ∧ Drawn w wr) (fun _ _ => 0)
        case atStart => exact ⟨rfl, Drawn.refl _⟩
        case round =>
          obtain ⟨rfl, hdr⟩ := hrel
          go_wp2
          go_ret
          exact ⟨ret_bool Hf.out.symm, hdr⟩
      have Hl := Lib.hid hl
      rw [← hl]
      clear hl
      have Hc := Lib.hid hc; clear hc
      have Hc' := Lib.hid hc'; clear hc'
      go_enter Try.func49, Try.ntmps49
      go_wp2
      go_loopw [13] (fun i wr => ∃ k : Nat, k ≤ xs.length ∧ i = .int .i64 k ∧ EqTo xs ys k ∧ Drawn w wr) (fun i _ => xs.length - (intOf i).toNat)
      case atStart => exact ⟨0, by omega, rfl, fun j _ _ h => by omega, Drawn.refl _⟩
      case round =>
        obtain ⟨k, hk, rfl, heq, hdr⟩ := hrel
        have Heq := Lib.hid heq; clear heq
        by_cases hlt : k < xs.length
        · have hlt' : k < ys.length := by have := Hl.out; omega
          have c1 := (hdr.cell _).trans (Hc.out k hlt)
          have c2 := (hdr.cell _).trans (Hc'.out k hlt')
          by_cases he : xs[k] = ys[k]
          · have Hs := Lib.hid (eqTo_step Heq.out hlt hlt' he)
            rw [← he] at c2
            clear he
            generalize xs[k] = x at *
            go_wp2_with fail
            go_quiet (fail)
            go_wp2
            go_roundw
            case rel => exact ⟨k + 1, by omega, by go_num, Hs.out, hdr.drewN _⟩
            case measure => simp [intOf]; omega
          · have Hf := Lib.hid (show decide (xs = ys) = false from decide_eq_false fun e => he (by subst e; rfl))
            have hq : (xs[k] != ys[k]) = true := by simpa using he
            clear he
            generalize xs[k] = x at *
            generalize ys[k] = y at *
            go_wp2_with fail
            go_quiet (fail)
            go_wp2
            go_ret
            exact ⟨ret_bool Hf.out.symm, hdr.drewN _⟩
        · have Hf := Lib.hid (show decide (xs = ys) = true from decide_eq_true (eqTo_all Heq.out (by omega) Hl.out))
          go_wp2
          go_ret
          exact ⟨ret_bool Hf.out.symm, hdr⟩
  · have Hf := Lib.hid (show decide (xs = ys) = false from decide_eq_false fun e => hl (by rw [e]))
    have hq : ((xs.length : Int) != (ys.length : Int)) = true := by simp; omega
    clear hc hc'
    go_enter Try.func49, Try.ntmps49
    go_wp2
    go_ret
    exact ⟨ret_bool Hf.out.symm, Drawn.refl _⟩

end Go.Proofs.Yteglefchkecfjaa

/- Whether a shard belongs to data, as impl reckons it, by a walk of its text; conditions: a list that is read has fewer than 2^40 elements and fits its capacity, the numbers are ints. -/
namespace Go.Proofs.Yteglefchkecfjaa
open Go.RowKit

theorem matB_no1 {d : List Int} {need : Int} {s : Sh} (h : isdB d = false) : matB d need s = false := by unfold matB; rw [isdB_data, h]; rfl
theorem matB_no2 {d : List Int} {need : Int} {s : Sh} (h : ¬ (1 ≤ need ∧ need ≤ 8)) : matB d need s = false := by unfold matB; rw [isdB_data, decide_eq_false h, Bool.and_false]; rfl
theorem matB_no3 {d : List Int} {need : Int} {s : Sh} (h : ¬ (1 ≤ s.1 ∧ s.1 ≤ 8)) : matB d need s = false := by unfold matB; rw [decide_eq_false h, Bool.and_false]; rfl
theorem matB_yes {d : List Int} {need : Nat} {s : Sh} (h : dataB d need = true) (h' : 1 ≤ s.1 ∧ s.1 ≤ 8) : matB d need s = decide (shardV d need s.1 = s.2) := by unfold matB; rw [h, decide_eq_true h']; rfl

theorem sh_field (x : Int) (a : Option Addr) (n c : Nat) (W : World) : (Instr.field 32 (.agg #[.int .i64 x, .slice a n c]) 1).run Try.prog W = .ok (.slice a n c) W := by kernel_rfl

theorem impl_ShardMatches (a : Option Addr) (cap : Nat) (d : List Int) (need x : Int) (av : Option Addr) (cv : Nat) (vs : List Int) (w : World) (hbig : d.length ≤ 1099511627776) (hcap : d.length ≤ cap) (hvbig : vs.length ≤ 1099511627776) (hc : IntsAt w a d) (hv : IntsAt w av vs) :
    Calls Try.prog 16 #[.slice a d.length cap, .int .i64 need, .agg #[.int .i64 x, .slice av vs.length cv]] w fun e w' => e = .returned (.bool (matB d need (x, vs))) ∧ Below w.heap.size w w' := by
  have hb0 : Below w.heap.size w (w.alloc (.cells #[.int .i64 x, .slice av vs.length cv] 32)) := (Below.refl _ _).alloc (Nat.le_refl _) _
  have hdt := impl_isData a cap d _ hbig (hc.below hb0)
  have hnm := fun w => impl_isShardNumber need w
  have hxm := fun w => impl_isShardNumber x w
  cases hd : isdB d with
  | false =>
    rw [hd] at hdt
    have Hdt := Lib.hid hdt; clear hdt
    have Hf := Lib.hid (matB_no1 (need := need) (s := (x, vs)) hd)
    clear hd hc hv hnm hxm
    go_enter Try.func16, Try.ntmps16
    go_wp2_with fail
    refine Hdt.out.mono ?_
    rintro e w' ⟨rfl, rfl⟩
    go_wp2
    go_ret
    exact ⟨ret_bool Hf.out.symm, hb0⟩
  | true =>
    rw [hd] at hdt
    have Hdt := Lib.hid hdt; clear hdt
    by_cases hN : 1 ≤ need ∧ need ≤ 8
    · rw [decide_eq_true hN] at hnm
      have Hnm := Lib.hid hnm; clear hnm
      by_cases hX : 1 ≤ x ∧ x ≤ 8
      · rw [decide_eq_true hX] at hxm
        have Hxm := Lib.hid hxm; clear hxm
        obtain ⟨need, rfl⟩ := Int.eq_ofNat_of_zero_le (show 0 ≤ need by omega)
        have hdB : dataB d need = true := by rw [isdB_data, hd, decide_eq_true hN]; rfl
        obtain ⟨hsym, ⟨hd1, hd2⟩, _, _⟩ := dataB_iff hdB
        have Hf := Lib.hid (matB_yes (s := (x, vs)) hdB hX)
        have Hsh := Lib.hid (fun W h => impl_shardOf a cap d need x W hsym hd2 (by omega) (by omega) (by omega) (by omega) hcap h)
        have hcol := cols_le (d := d) (need := need) (by omega) hd2
        have hsv : (shardV d need x).length ≤ 12 := by rw [shardV_len]; exact hcol
        clear hd hdB hsym
        have S0 := Str.new w 32 #[.int .i64 x, .slice av vs.length cv]
        have Hc := Lib.hid (hc.below hb0); clear hc
        have Hv := Lib.hid (hv.below hb0); clear hv
        have Hb0 := Lib.hid hb0; clear hb0
        have hsz1 : w.heap.size < (w.alloc (.cells #[.int .i64 x, .slice av vs.length cv] 32)).heap.size := by simp
        have e0 := S0.cell 0 (v := .int .i64 x) rfl
        have e1 := S0.cell 1 (v := .slice av vs.length cv) rfl
        go_enter Try.func16, Try.ntmps16
        go_wp2_with fail
        refine Hdt.out.mono ?_
        rintro e w' ⟨rfl, rfl⟩
        go_wp2_with fail
        refine (Hnm.out _).mono ?_
        rintro e w' ⟨rfl, rfl⟩
        go_wp2_with fail
        refine (Hxm.out _).mono ?_
        rintro e w' ⟨rfl, rfl⟩
        go_wp2_with fail
        clear Hdt Hnm Hxm S0
        generalize w.alloc (.cells #[.int .i64 x, .slice av vs.length cv] 32) = W1 at *
        refine wp_region_held_drew (S := fun w' => w'.cell? ⟨w.heap.size, 0, none⟩ = some (.int .i64 x) ∧ w'.cell? ⟨w.heap.size, 1, none⟩ = some (.slice av vs.length cv)) (by kernel_rfl) ⟨e0, e1⟩ (fun hH => ?_)
        refine takeH 0 (v := ?vm0) rfl (by kernel_rfl) (by kernel_rfl) (by kernel_rfl) (fun _ _ _ h => h) hH rfl ?ym0 ?rm0
        case ym0 => intro W hSw; go_simp; try with_reducible rfl
        try simp only [Act.put, List.setIfInBounds_toArray, List.set_cons_zero, List.set_cons_succ]
        refine takeH 1 (v := ?vm1) rfl (by kernel_rfl) (by kernel_rfl) (by kernel_rfl) (fun _ _ _ h => h) hH rfl ?ym1 ?rm1
        case ym1 => intro W hSw; go_simp; try with_reducible rfl
        try simp only [Act.put, List.setIfInBounds_toArray, List.set_cons_zero, List.set_cons_succ]
        refine takeH 2 (v := ?vm2) rfl (by kernel_rfl) (by kernel_rfl) (by kernel_rfl) (fun _ _ _ h => h) hH rfl ?ym2 ?rm2
        case ym2 => intro W hSw; go_simp; try with_reducible rfl
        try simp only [Act.put, List.setIfInBounds_toArray, List.set_cons_zero, List.set_cons_succ]
        refine takeH 3 (v := ?vm3) rfl (by kernel_rfl) (by kernel_rfl) (by kernel_rfl) (fun _ _ _ h => h) hH rfl ?ym3 ?rm3
        case ym3 => intro W hSw; go_simp; try with_reducible rfl
        try simp only [Act.put, List.setIfInBounds_toArray, List.set_cons_zero, List.set_cons_succ]
        refine takeH 6 (v := ?vm6) rfl (by kernel_rfl) (by kernel_rfl) (by kernel_rfl) (fun _ _ _ h => h) hH rfl ?ym6 ?rm6
        case ym6 => intro W hSw; go_simp; try with_reducible rfl
        try simp only [Act.put, List.setIfInBounds_toArray, List.set_cons_zero, List.set_cons_succ]
        refine takeH 7 (v := ?vm7) rfl (by kernel_rfl) (by kernel_rfl) (by kernel_rfl) (fun _ _ _ h => h) hH rfl ?ym7 ?rm7
        case ym7 => intro W hSw; go_simp; try with_reducible rfl
        try simp only [Act.put, List.setIfInBounds_toArray, List.set_cons_zero, List.set_cons_succ]
        refine callH 4 rfl (by kernel_rfl) rfl (fun K hK => ?_)
        go_simp
        refine (Hsh.out W1.drew Hc.out).mono ?_
        rintro e w6 ⟨v6, rfl, hown, hb6⟩
        obtain ⟨a6, c6, rfl, hi6, _⟩ := hown.ints
        dsimp only
        have hwd : W1.drew.heap.size = W1.heap.size := rfl
        refine hK.out _ _ ⟨(hb6.cell (p := ⟨w.heap.size, 0, none⟩) (by simp only; omega)).trans hH.1, (hb6.cell (p := ⟨w.heap.size, 1, none⟩) (by simp only; omega)).trans hH.2⟩ (fun hH => ?_)
        clear hK K
        try simp only [Act.put, List.setIfInBounds_toArray, List.set_cons_zero, List.set_cons_succ]
        have Hi6 := Lib.hid hi6; clear hi6
        have Hv6 := Lib.hid (IntsAt.below (w := W1.drew) Hv.out hb6)
        have Hb6 := Lib.hid (below_step Hb0.out.drew Hb0.out.size hb6)
        clear hb6 hown
        have hfd := fun W => sh_field x a6 (shardV d need x).length c6 W
        refine takeH 5 (v := ?vm5) rfl (by kernel_rfl) (by kernel_rfl) (by kernel_rfl) (fun _ _ _ h => h) hH rfl ?ym5 ?rm5
        case ym5 => intro W hSw; go_simp; try with_reducible rfl
        try simp only [Act.put, List.setIfInBounds_toArray, List.set_cons_zero, List.set_cons_succ]
        refine callH 8 rfl (by kernel_rfl) rfl (fun K hK => ?_)
        go_simp
        refine (lib_Equal a6 av c6 cv (shardV d need x) vs _ (by omega) (by omega) Hi6.out Hv6.out).mono ?_
        rintro e w7 ⟨rfl, hdr⟩
        dsimp only
        refine hK.out _ _ ⟨(hdr.cell _).trans hH.1, (hdr.cell _).trans hH.2⟩ (fun hH => ?_)
        clear hK K
        try simp only [Act.put, List.setIfInBounds_toArray, List.set_cons_zero, List.set_cons_succ]
        refine takeH 9 (v := ?vm9) rfl (by kernel_rfl) (by kernel_rfl) (by kernel_rfl) (fun _ _ _ h => h) hH rfl ?ym9 ?rm9
        case ym9 => intro W hSw; go_simp; try with_reducible rfl
        try simp only [Act.put, List.setIfInBounds_toArray, List.set_cons_zero, List.set_cons_succ]
        refine wpAnyH_done (by kernel_rfl) ?_ _
        try simp only [Act.put]
        go_wp2
        go_ret
        exact ⟨ret_bool Hf.out.symm, below_step Hb6.out Hb6.out.size (hdr.below _)⟩
      · rw [decide_eq_false hX] at hxm
        have Hxm := Lib.hid hxm; clear hxm
        have Hf := Lib.hid (matB_no3 (d := d) (need := need) (s := (x, vs)) hX)
        clear hd hc hv
        go_enter Try.func16, Try.ntmps16
        go_wp2_with fail
        refine Hdt.out.mono ?_
        rintro e w' ⟨rfl, rfl⟩
        go_wp2_with fail
        refine (Hnm.out _).mono ?_
        rintro e w' ⟨rfl, rfl⟩
        go_wp2_with fail
        refine (Hxm.out _).mono ?_
        rintro e w' ⟨rfl, rfl⟩
        go_wp2
        go_ret
        exact ⟨ret_bool Hf.out.symm, hb0⟩
    · rw [decide_eq_false hN] at hnm
      have Hnm := Lib.hid hnm; clear hnm
      have Hf := Lib.hid (matB_no2 (d := d) (s := (x, vs)) hN)
      clear hd hc hv hxm
      go_enter Try.func16, Try.ntmps16
      go_wp2_with fail
      refine Hdt.out.mono ?_
      rintro e w' ⟨rfl, rfl⟩
      go_wp2_with fail
      refine (Hnm.out _).mono ?_
      rintro e w' ⟨rfl, rfl⟩
      go_wp2
      go_ret
      exact ⟨ret_bool Hf.out.symm, hb0⟩

end Go.Proofs.Yteglefchkecfjaa
