/- A loop over a function at the wide fence, opened by one law: whoever walks the iterator gets a round for every call of yield, and owes that the loop's own two blocks lie as they lay; no conditions of our own. -/
import Derived.RangeFuncNested
import Derived.RangeFuncBound
import Derived.RangeFuncCalls
import Derived.RangeFuncLeaves
import Derived.Shelf.Abstract
import Derived.Shelf.RegionOpen
import Derived.WalkKit
import Derived.OwnWalkIn
import Derived.TacticsInMore
import Derived.LoopNIn
import Derived.LoopIn
import Derived.Deep.RegionHeld3
import Derived.Test.YtkndndcjchlpdabBase
import Derived.Test.YtkndndcjchlpdabHeld
import Derived.Test.YtkndndcjchlpdabPush
namespace Go.Proofs.Ytkndndcjchlpdab
open Go.RowKit Go.Shelf

/-- How a round ends: the loop's block is busy still; off its end (yield says yes) or by a return (yield says no). -/
def RoundEnd (L : Nat) (rec : LoopState → Option Code → Obj) (R : Ending → World → Prop) : Exit → Act → World → Prop := fun e _ W =>
  W.heap[L]? = some (rec .busy none) ∧
  ((e = .normal ∧ R (.returned (.bool true)) (W.putObj L (rec .ready none))) ∨ (e = .ret ∧ R (.returned (.bool false)) (W.putObj L (rec .done (some .ret)))))

/-- A round, for whoever calls yield. -/
def Rounds (P : Program) (m : Nat) (a : Act) (ps : Array Tmp) (assign body : Code) (L : Nat) (rec : LoopState → Option Code → Obj) : Prop :=
  ∀ (args : Array Value) (W : World) (R : Ending → World → Prop), args.size = ps.size → W.heap[L]? = some (rec .ready none) →
    assign.wpIn (Fence.wide.inRound L) m P (Exit.then (fun a₁ W₁ => W₁.heap[L]? = some (rec .ready none) ∧ body.wpIn (Fence.wide.inRound L) m P (RoundEnd L rec R) a₁ (W₁.putObj L (rec .busy none))) (fun _ _ _ => False))
      { tmps := (ps.zip args).foldl (fun t (p, v) => t.setIfInBounds p v) a.tmps, defers := [] } W →
    YieldAt Fence.wide m P L args W R

theorem wpIn_over {P : Program} {n : Nat} {g : Operand} {ps : Array Tmp} {assign body : Code} {Q : Exit → Act → World → Prop} {a : Act} {w : World} {gf : Nat} {lb : Array Value}
    (hg : a.eval g = .func (.func gf) #[] lb) (eg : ∀ args w, (callFunc gf args).run P w = .ok (.enter gf args) w)
    (h : ∀ rec : LoopState → Option Code → Obj, (∀ st pe, (rec st pe).isCells = false) → Rounds P (n - 1 - 1) a ps assign body (w.heap.size + 1) rec →
      CallsIn Fence.wide (n - 1) P gf (#[.func (.yield (w.heap.size + 1)) #[] #[]] ++ lb) ((w.alloc (.deferred (some []))).alloc (rec .ready none)) fun e W => (∃ v, e = .returned v) ∧
        ((W.heap[w.heap.size + 1]? = some (rec .ready none) ∧ Q .normal { a with defers := { target := .collected w.heap.size, args := #[] } :: a.defers } (W.putObj (w.heap.size + 1) (rec .exhausted none))) ∨
         (W.heap[w.heap.size + 1]? = some (rec .done (some .ret)) ∧ Code.ret.wpIn Fence.wide n P Q { a with defers := { target := .collected w.heap.size, args := #[] } :: a.defers } (W.putObj (w.heap.size + 1) (rec .exhausted (some .ret)))))) :
    (Code.rangeFunc g ps assign body).wpIn Fence.wide n P Q a w := by
  refine wpIn_rangeFunc fun fn hfn => ?_
  obtain ⟨lp, hlp⟩ : ∃ lp : LoopState → Option Code → Loop, ∀ st pe, lp st pe = { state := st, pending := pe, fn := fn, tmps := a.tmps, params := ps, assign := assign, body := body, defers := w.heap.size } := ⟨fun _ _ => _, fun _ _ => rfl⟩
  have hb1 : ∀ {W : World}, W.heap[w.heap.size + 1]? = some (.loop (lp .ready none)) → (Instr.beginRound (w.heap.size + 1)).run P W = .ok () (W.putObj (w.heap.size + 1) (.loop (lp .busy none))) := fun hl => by
    have := run_beginRound (P := P) hl (by rw [hlp])
    rw [this]; simp only [hlp]
  have hb2 : ∀ {W : World} (j : Option Code), W.heap[w.heap.size + 1]? = some (.loop (lp .busy none)) → (Instr.endRound (w.heap.size + 1) j).run P W = .ok (.bool j.isNone) (W.putObj (w.heap.size + 1) (.loop (lp (if j.isNone then .ready else .done) j))) := fun j hl => by
    have := run_endRound (P := P) j hl
    rw [this]; simp only [hlp]
  have hb3 : ∀ {W : World} {st : LoopState} {j : Option Code}, st ≠ .busy → W.heap[w.heap.size + 1]? = some (.loop (lp st j)) → (Instr.endLoop (w.heap.size + 1)).run P W = .ok j (W.putObj (w.heap.size + 1) (.loop (lp .exhausted j))) := fun hs hl => by
    have := run_endLoop (P := P) hl (by rw [hlp]; exact hs)
    rw [this]; simp only [hlp]
  have hc := h (fun st pe => .loop (lp st pe)) (fun _ _ => rfl) (fun args W R hsz hl hw => by
    refine ⟨fn, _, assign, body, ?_, roundIn_of_wpIn hfn (wpIn_mono hw ?_)⟩
    · have := run_yield (P := P) (args := args) hl (by rw [hlp]; exact hsz)
      rw [this]; simp only [hlp]
    · rintro e a₁ W₁ he
      cases e with
      | normal =>
        obtain ⟨hl₁, hb⟩ := he
        refine ⟨_, hb1 hl₁, wpIn_mono hb ?_⟩
        rintro e a₂ W₂ ⟨hl₂, ⟨rfl, hR⟩ | ⟨rfl, hR⟩⟩
        · exact ⟨_, _, hb2 none hl₂, hR⟩
        · exact ⟨_, _, hb2 (some .ret) hl₂, hR⟩
      | _ => exact he.elim)
  have he : (Instr.enterLoop fn a.tmps ps assign body Fence.wide.round).run P w = .ok (w.heap.size + 1, [{ target := .collected w.heap.size, args := #[] }]) ((w.alloc (.deferred (some []))).alloc (.loop (lp .ready none))) := by
    rw [show Fence.wide.round = none from rfl, run_enterLoop_outer]; simp only [hlp]
  clear hb1 hb2 h
  generalize (w.alloc (.deferred (some []))).alloc (.loop (lp .ready none)) = W1 at hc he
  obtain ⟨ag, hag⟩ : ∃ ag : Array Value, ag = #[.func (.yield (w.heap.size + 1)) #[] #[]] := ⟨_, rfl⟩
  have hres : (resolve a.eval (rangeCall g (w.heap.size + 1)) 0).run P W1 = .ok { target := .fn (.func gf) lb, args := ag } W1 := by
    simp only [resolve, hg, hag]
    simp [go_sem]
  have hinv : (invoke (.fn (.func gf) lb) ag).run P W1 = .ok (.enter gf (ag ++ lb)) W1 := by
    simp [invoke, go_sem, eg]
  rw [← hag] at hc
  have hc2 := hc.mono (R' := rangePost Fence.wide n P (w.heap.size + 1) Q { a with defers := [{ target := .collected w.heap.size, args := #[] }] ++ a.defers }) (by
    rintro e W ⟨⟨v, rfl⟩, ⟨hl, hq⟩ | ⟨hl, hq⟩⟩
    · exact ⟨none, _, hb3 (by simp) hl, hq⟩
    · exact ⟨some .ret, _, hb3 (by simp) hl, hq⟩)
  exact ⟨_, _, _, _, _, _, _, _, he, hres, fun _ _ => trivial, hinv, fun h => by simp [Fence.wide] at h, hc2⟩

/-! a region that draws its order, in a round -/
theorem op_round {P : Program} {L n : Nat} {o : Oper} {a : Act} {w : World} {K : Act → World → Prop} {Q : Exit → Act → World → Prop} (hd : ∀ c, o.op ≠ .defer c) (h : o.wp P a w K Q) : o.wpIn (Fence.wide.inRound L) n P a w K Q := by
  refine ⟨fun _ _ => trivial, ?_⟩
  unfold Oper.wp at h
  rw [Fence.inRound_round, Oper.semAt_some L _ o hd]
  generalize (execOp a.eval o).run P w = r at *
  have hn : (Fence.wide.inRound L).depth.isSome = true → 1 ≤ n := fun h => by simp [Fence.wide] at h
  cases r with
  | ok x w' =>
    cases x <;> simp only [Oper.upon, Oper.uponIn] at h ⊢ <;>
      first
        | exact h
        | exact ⟨hn, CallsIn.inRound L (callsIn_wide.2 h)⟩
        | exact ⟨hn, fun c cs _ => let ⟨v, w', r, s⟩ := h c cs; ⟨v, w', r, stepsIn_wide.2 s⟩⟩
        | exact h.elim
  | halt x w' => cases x <;> simp only [Oper.upon, Oper.uponIn] at h ⊢ <;> exact h
/-- No operation of the region is a deferring. -/
def noDefer (ops : Array Oper) : Bool := ops.toList.all fun o => match o.op with | .defer _ => false | _ => true
theorem noDefer_at {ops : Array Oper} (h : noDefer ops = true) {i : Nat} {o : Oper} (hi : ops[i]? = some o) : ∀ c, o.op ≠ .defer c := by
  intro c e
  unfold noDefer at h
  rw [List.all_eq_true] at h
  have := h o (by rw [← Array.mem_def]; exact Array.mem_of_getElem? hi)
  rw [e] at this
  cases this
theorem any_round {P : Program} {L n : Nat} {md : Region.Mode} {ops : Array Oper} {Q : Exit → Act → World → Prop} (hd : noDefer ops = true) (hQ : ¬ LetsOut Q) :
    ∀ (fuel : Nat) (listed : Array Bool) (a : Act) (w : World), wpAny P md ops Q fuel listed a w → wpAnyIn (Fence.wide.inRound L) n P md ops Q fuel listed a w
  | 0, _, _, _, h => h
  | fuel + 1, listed, a, w, h => ⟨h.1, fun i hi => by
      have := h.2 i hi
      unfold wpOp at this
      unfold wpOpIn
      split
      · rename_i e
        simp only [e] at this
        exact any_round hd hQ fuel _ _ _ this
      · rename_i o e
        simp only [e] at this
        split
        · rename_i hw
          simp only [hw, if_true] at this
          rcases this with this | this
          · exact Oper.wpIn_mono (fun a w h => any_round hd hQ fuel _ a w h) (op_round (noDefer_at hd e) this)
          · exact absurd this.2 hQ
        · rename_i hw
          simp only [hw] at this
          exact ⟨fun _ _ => trivial, any_round hd hQ fuel _ _ _ this⟩⟩
/-- The region's end alone is let through. -/
def JustNormal (Q : Exit → Act → World → Prop) : Exit → Act → World → Prop
  | .normal, a, w => Q .normal a w
  | _, _, _ => False
theorem JustNormal.intro {Q : Exit → Act → World → Prop} {a : Act} {w : World} (h : Q .normal a w) : JustNormal Q .normal a w := h
theorem region_round {P : Program} {L n : Nat} {id : Nat} {ops : Array Oper} {Q : Exit → Act → World → Prop} {a : Act} {w : World} (S : World → Prop) (hm : P.follows .mixedOrders = true) (hd : noDefer ops = true) (hS : S w.drew)
    (h : S w.drew → wpAnyH P .any ops (JustNormal Q) S ops.size (Array.replicate ops.size false) a w.drew) : (Code.region id ops true).wpIn (Fence.wide.inRound L) n P Q a w :=
  Code.wpIn_mono (Q := JustNormal Q) (fun e a w q => by cases e <;> first | exact q | exact (q : False).elim)
    (wpIn_region_any hm (any_round hd (by rintro ⟨a, w, h⟩; exact h) _ _ _ _ (wpAny_of_held _ _ _ _ (h hS))))

end Go.Proofs.Ytkndndcjchlpdab
