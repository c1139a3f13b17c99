/- A number put into an ascending list; plain facts and slices of a source; nothing here speaks of the program's text. -/
import Derived.Test.YtkndndcjchlpdaaRows
import Derived.Test.YtkndndcjchlpdaaApp
import Derived.Test.YtkndndcjchlpdaaL1
import Derived.Test.YtkndndcjchlpdaaM1
import Derived.Test.YtkndndcjchlpdaaDt
namespace Go.Proofs.Ytkndndcjchlpdaa
open Go.RowKit

/-- x put in its place, where it is lacking. -/
def addZ (ms : List Int) (x : Int) : List Int := if hasB ms x then ms else ms.takeWhile (fun m => decide (m < x)) ++ x :: ms.dropWhile (fun m => decide (m < x))
theorem asc_at {ms : List Int} (hs : ms.Pairwise (· < ·)) {i j : Nat} (hi : i < ms.length) (hj : j < ms.length) (h : i < j) : ms[i] < ms[j] := List.pairwise_iff_getElem.1 hs i j hi hj h
theorem place_ex (ms : List Int) (x : Int) : ∃ k, k ≤ ms.length ∧ (∀ m ∈ ms.take k, m < x) ∧ ∀ hk : k < ms.length, x ≤ ms[k] := by
  induction ms with
  | nil => exact ⟨0, Nat.le_refl _, by simp, fun hk => absurd hk (by simp)⟩
  | cons y ys ih =>
    by_cases hy : y < x
    · obtain ⟨k, h1, h2, h3⟩ := ih
      refine ⟨k + 1, by simpa using h1, ?_, fun hk => ?_⟩
      · intro m hm
        rw [List.take_succ_cons] at hm
        rcases List.mem_cons.1 hm with e | hm
        · rw [e]; exact hy
        · exact h2 m hm
      · rw [List.getElem_cons_succ]
        exact h3 (by simpa using hk)
    · exact ⟨0, Nat.zero_le _, by simp, fun hk => by rw [List.getElem_cons_zero]; omega⟩
theorem rest_ge {ms : List Int} (hs : ms.Pairwise (· < ·)) {x : Int} {k : Nat} (h' : ∀ hk : k < ms.length, x ≤ ms[k]) : ∀ m ∈ ms.drop k, x ≤ m := by
  intro m hm
  obtain ⟨j, hj, rfl⟩ := List.mem_iff_getElem.1 hm
  rw [List.length_drop] at hj
  rw [List.getElem_drop]
  have hk : k < ms.length := by omega
  have h0 := h' hk
  rcases Nat.eq_zero_or_pos j with e | e
  · subst e; exact h0
  · have := asc_at hs hk (j := k + j) (by omega) (by omega)
    omega
theorem count_at {ms : List Int} (hs : ms.Pairwise (· < ·)) {x : Int} {k : Nat} (hk : k ≤ ms.length) (h : ∀ m ∈ ms.take k, m < x) (h' : ∀ hk : k < ms.length, x ≤ ms[k]) : ms.countP (fun m => decide (m < x)) = k := by
  have e : ms.countP (fun m => decide (m < x)) = (ms.take k ++ ms.drop k).countP (fun m => decide (m < x)) := by rw [List.take_append_drop]
  rw [e, List.countP_append, List.countP_eq_length.2 (fun m hm => decide_eq_true (h m hm)), List.countP_eq_zero.2 (fun m hm => by have := rest_ge hs h' m hm; simp; omega), List.length_take]
  omega
theorem ins_hit {ms : List Int} {x : Int} {k : Nat} (hk : k < ms.length) (e : ms[k] = x) : hasB ms x = true ∧ addZ ms x = ms := by
  have h := hasB_yes hk
  rw [e] at h
  exact ⟨h, by unfold addZ; rw [if_pos h]⟩
theorem ins_no {ms : List Int} (hs : ms.Pairwise (· < ·)) {x : Int} {k : Nat} (_hk : k ≤ ms.length) (h : ∀ m ∈ ms.take k, m < x) (h' : ∀ hk : k < ms.length, x < ms[k]) : hasB ms x = false ∧ addZ ms x = ms.take k ++ x :: ms.drop k := by
  have hn : hasB ms x = false := by
    refine decide_eq_false fun hm => ?_
    have : x ∈ ms.take k ++ ms.drop k := by rw [List.take_append_drop]; exact hm
    rcases List.mem_append.1 this with hm | hm
    · exact absurd (h x hm) (by omega)
    · obtain ⟨j, hj, e⟩ := List.mem_iff_getElem.1 hm
      rw [List.length_drop] at hj
      rw [List.getElem_drop] at e
      have hk : k < ms.length := by omega
      have h0 := h' hk
      rcases Nat.eq_zero_or_pos j with e0 | e0
      · subst e0; simp only [Nat.add_zero] at e; omega
      · have := asc_at hs hk (j := k + j) (by omega) (by omega)
        omega
  refine ⟨hn, ?_⟩
  unfold addZ
  rw [hn, if_neg (by simp)]
  have h2 : (ms.drop k).takeWhile (fun m => decide (m < x)) = [] ∧ (ms.drop k).dropWhile (fun m => decide (m < x)) = ms.drop k := by
    by_cases hk : k < ms.length
    · have h0 := h' hk
      rw [List.drop_eq_getElem_cons hk]
      exact ⟨List.takeWhile_cons_of_neg (by simp; omega), List.dropWhile_cons_of_neg (by simp; omega)⟩
    · rw [List.drop_of_length_le (by omega)]; exact ⟨rfl, rfl⟩
  have e := List.take_append_drop k ms
  have hp : ∀ m ∈ ms.take k, (fun m => decide (m < x)) m = true := fun m hm => decide_eq_true (h m hm)
  rw [show ms.takeWhile (fun m => decide (m < x)) = (ms.take k ++ ms.drop k).takeWhile (fun m => decide (m < x)) by rw [e], List.takeWhile_append_of_pos hp, h2.1, List.append_nil,
    show ms.dropWhile (fun m => decide (m < x)) = (ms.take k ++ ms.drop k).dropWhile (fun m => decide (m < x)) by rw [e], List.dropWhile_append_of_pos hp, h2.2]
theorem ins_len (ms : List Int) (x : Int) : (addZ ms x).length ≤ ms.length + 1 := by
  unfold addZ
  split
  · omega
  · have e := congrArg List.length (List.takeWhile_append_dropWhile (p := fun m => decide (m < x)) (l := ms))
    rw [List.length_append] at e
    rw [List.length_append, List.length_cons]
    omega
theorem take_step {ms : List Int} {x : Int} {k : Nat} (hk : k < ms.length) (h : ∀ m ∈ ms.take k, m < x) (h' : ms[k] < x) : ∀ m ∈ ms.take (k + 1), m < x := by
  intro m hm
  rw [List.take_succ_eq_append_getElem hk, List.mem_append] at hm
  rcases hm with hm | hm
  · exact h m hm
  · rw [List.mem_singleton] at hm; rw [hm]; exact h'

theorem SrcAt.takeI {w : World} {a : Option Addr} {c : Nat} {g : List Int} (h : SrcAt w a c g) (k : Nat) : SrcAt w a c (g.take k) := by
  rcases h with ⟨rfl, rfl, rfl⟩ | ⟨q, rfl, hq⟩
  · exact .inl ⟨rfl, by simp, rfl⟩
  · refine .inr ⟨q, rfl, fun j hj => ?_⟩
    rw [List.length_take] at hj
    rw [List.getElem_take]
    exact hq j (by omega)
theorem add_add (q : Addr) (k j : Nat) : (q.add k).add j = q.add (k + j) := by
  unfold Addr.add
  by_cases hj : j = 0
  · subst hj; simp
  · by_cases hk : k = 0
    · subst hk; simp [hj]
    · have : k + j ≠ 0 := by omega
      simp [hj, hk, Nat.add_assoc]
theorem SrcAt.dropI {w : World} {a : Option Addr} {c : Nat} {g : List Int} (h : SrcAt w a c g) (hc : g.length ≤ c) {k : Nat} (hk : k ≤ g.length) : SrcAt w (if c = k then a else a.map (·.add (k * 1))) (c - k) (g.drop k) := by
  rcases h with ⟨rfl, rfl, rfl⟩ | ⟨q, rfl, hq⟩
  · exact .inl ⟨by split <;> rfl, by simp, by simp⟩
  · by_cases e : c = k
    · rw [if_pos e, List.drop_of_length_le (by omega)]; exact .inr ⟨q, rfl, fun j hj => by simp at hj⟩
    · rw [if_neg e]
      refine .inr ⟨_, rfl, fun j hj => ?_⟩
      rw [List.length_drop] at hj
      rw [List.getElem_drop, add_add, Nat.mul_one]
      exact hq (k + j) (by omega)
theorem SrcAt.parts {w : World} {va : Option Addr} {vc : Nat} {g : List Int} (h : SrcAt w va vc g) (hc : g.length ≤ vc) {k : Nat} (hk : k ≤ g.length) :
    (∀ W, (Instr.slice 49 (.slice va g.length vc) none (some (.int .i64 k)) none).run Try.prog W = .ok (.slice va (g.take k).length vc) W) ∧ SrcAt w va vc (g.take k) ∧
    ∃ ad ac, (∀ W, (Instr.slice 49 (.slice va g.length vc) (some (.int .i64 k)) none none).run Try.prog W = .ok (.slice ad (g.drop k).length ac) W) ∧ SrcAt w ad ac (g.drop k) := by
  have ht : Try.prog.underlying 49 = some (.slice (Try.prog.elem 49)) := by kernel_rfl
  have hs : ∀ W, (sizeOf (Try.prog.elem 49)).run Try.prog W = .ok 1 W := fun W => by kernel_rfl
  refine ⟨fun W => ?_, h.takeI k, _, _, fun W => ?_, h.dropI hc hk⟩
  · rw [run_slice_h (ht := ht) (h0 := by omega) (h2 := by omega), hs]
    simp only [Result.andThen, sliced, Int.toNat_natCast, List.length_take, Nat.min_eq_left hk, Nat.sub_zero]
    have e : (if vc = 0 then va else va.map (·.add (0 * 1))) = va := by
      split
      · rfl
      · cases va <;> simp [Addr.add]
    rw [e]
  · rw [run_slice_l (ht := ht) (h0 := by omega) (h1 := by omega), hs]
    simp only [Result.andThen, sliced, Int.toNat_natCast, List.length_drop]
theorem SrcAt.lies {w w' : World} {a : Option Addr} {c : Nat} {xs : List Int} (h : SrcAt w a c xs) (hi : IntsAt w a xs) (hb : Below w.heap.size w w') : SrcAt w' a c xs := by
  rcases h with h | ⟨ad, rfl, hc⟩
  · exact .inl h
  · refine .inr ⟨ad, rfl, fun j hj => ?_⟩
    obtain ⟨b, off, e, hlt, _⟩ := hi.cell (by omega)
    cases e
    have := hc j hj
    rw [addr_add'] at this ⊢
    exact (hb.cell (p := ⟨b, off + j, none⟩) hlt).trans this
theorem src_one {w : World} {E : TypeId} {B : Nat} {x : Int} (h : Str w B E #[.int .i64 x]) : SrcAt w (some ⟨B, 0, none⟩) 1 [x] := by
  refine .inr ⟨_, rfl, fun j hj => ?_⟩
  have h0 : j = 0 := by simpa using hj
  subst h0
  rw [addr_add]
  exact h.cell 0 rfl
/-- 'append(s, t...)' as an operation of a region. -/
theorem op_appI {P : Program} {T E : TypeId} (hT : IntT P T E) {w : World} {o : Oper} {a : Act} {K : Act → World → Prop} {Q : Exit → Act → World → Prop} (s x : Operand)
    (ho : o.op = .call { callee := .builtin .append, args := #[s, x], argTypes := #[T, T] }) (B : Nat) (v : Value) (xs zs : List Int) (ax : Option Addr) (c : Nat) (hs : a.eval s = v) (hown : Own E w B v xs)
    (hx : a.eval x = .slice ax zs.length c) (hz : SrcAt w ax c zs) (hlen : xs.length + zs.length ≤ 1099511627776) (hB : B ≤ w.heap.size)
    (h : ∀ v' w', Own E w' B v' (xs ++ zs) → w.grownBy w' v.ownBlock → K (a.put o.dst v') w') : Oper.wp P o a w K Q := by
  obtain ⟨v', w', hr, h1, h2⟩ := run_appI hT o.type hown hz hlen hB
  unfold Oper.wp execOp
  simp only [ho, resolve, invoke, builtin, Sem.run_bind, Sem.run_pure, Result.andThen_ok, List.map_toArray, List.map_cons, List.map_nil, hs, hx, hr]
  exact h v' w' h1 h2

end Go.Proofs.Ytkndndcjchlpdaa
