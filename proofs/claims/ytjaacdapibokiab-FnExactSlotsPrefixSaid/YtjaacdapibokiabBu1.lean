/- Texts that the laws of this folder share, one behind another; no conditions. -/
import Derived.Test.YtjaacdapibokiabBu0
import Derived.Test.YtjaacdapibokiabRows
import Derived.Deep.QuietTactic
import Derived.BigQuiet
import Derived.Deep.RegionHeld3

/- What the exact laws keep at hand: lists of numbers in blocks of their own within bounds, rows that came in as arguments; general steps, nothing here speaks of the program. -/
namespace Go.Proofs.Ytjaacdapibokiab
open Go.RowKit

/-- A list of numbers in a block of its own, which lies from lo to before hi. -/
structure OwnI (E : TypeId) (w : World) (lo hi : Nat) (v : Value) (xs : List Int) : Prop where
  own : Own E w lo v xs
  lt : ∀ g, v.ownBlock = some g → g < hi
section
variable {E : TypeId} {w w' : World} {lo hi lo' hi' : Nat} {v : Value} {xs ys : List Int}
theorem OwnI.of (h : Own E w lo v xs) : OwnI E w lo w.heap.size v xs := ⟨h, fun g e => (h.lt g e).2⟩
theorem OwnI.below (h : OwnI E w lo hi v xs) (hb : Below w.heap.size w w') : OwnI E w' lo hi v xs := ⟨h.own.below hb, h.lt⟩
theorem OwnI.btw (h : OwnI E w lo hi v xs) (hb : Btw lo' hi' w w') (hd : hi ≤ lo' ∨ hi' ≤ lo) : OwnI E w' lo hi v xs :=
  ⟨hb.own h.own fun g e => by have := h.own.lt g e; have := h.lt g e; omega, h.lt⟩
theorem OwnI.mark (h : OwnI E w lo hi v xs) (ho : Own E w' lo v ys) : OwnI E w' lo hi v ys := ⟨ho, h.lt⟩
theorem OwnI.marks (h : OwnI E w lo hi v xs) (hg : w.grownBy w' v.ownBlock) : Btw lo hi w w' := .grown hg fun g e => ⟨(h.own.lt g e).1, h.lt g e⟩
theorem OwnI.at {a : Option Addr} {n c : Nat} (h : OwnI E w lo hi (.slice a n c) xs) : IntsAt w a xs := h.own.at
theorem OwnI.ints (h : OwnI E w lo hi v xs) : ∃ a cap, v = .slice a xs.length cap ∧ IntsAt w a xs ∧ xs.length ≤ maxLen := h.own.ints
theorem OwnI.cap {a : Option Addr} {n c : Nat} (h : OwnI E w lo hi (.slice a n c) xs) : xs.length ≤ c := h.own.cap
theorem Str.btw {B : Nat} {t : TypeId} {vs : Array Value} (h : Str w B t vs) (hb : Btw lo hi w w') (hd : B < lo ∨ hi ≤ B) : Str w' B t vs := (hb.block B h.lt (by omega)).trans h
theorem Btw.alloc (w : World) (o : Obj) : Btw lo hi w (w.alloc o) := .grown (World.grownBy_alloc w o none) (by simp)
end

theorem OwnR.from {E Ei : TypeId} {sz : Nat} {w : World} {B B' hi : Nat} {v : Value} {es : List (List Fd)} (h : OwnR E Ei sz w B hi v es) (hB : B' ≤ B) : OwnR E Ei sz w B' hi v es := by
  obtain ⟨cs, h1, h2, h3, h4, h5, h6⟩ := h.row
  refine ⟨h.szs, cs, ⟨h1.1, ?_⟩, fun k j hk hj => ?_, h3, h4, fun p c g a b => ⟨Nat.le_trans hB (h5 p c g a b).1, (h5 p c g a b).2⟩, h6⟩
  · rcases h1.2 with h | ⟨g, cap, cur, e, hb, hrest⟩
    · exact .inl h
    · exact .inr ⟨g, cap, cur, e, Nat.le_trans hB hb, hrest⟩
  obtain ⟨c, hc, hf⟩ := h2 k j hk hj
  refine ⟨c, hc, ?_⟩
  revert hf
  generalize (es[k])[j] = f
  intro hf
  cases f with
  | l xs => exact Own.mono (show Own Ei w B c xs from hf) hB
  | i n => exact hf
  | b n => exact hf
  | s n => exact hf

/-! rows that came in -/
def fitE (e : List Fd) : Prop := (∀ x, Fd.i x ∈ e → -9223372036854775808 ≤ x ∧ x ≤ 9223372036854775807) ∧ ∀ xs, Fd.l xs ∈ e → xs.length ≤ maxLen ∧ ∀ x ∈ xs, -9223372036854775808 ≤ x ∧ x ≤ 9223372036854775807
theorem rows_all {P : List Fd → Prop} : ∀ l : List (List Dt), (∀ e ∈ l, ∃ f : List Fd, e = f.map Fd.dt ∧ P f) → ∃ es : List (List Fd), l = es.map (fun e => e.map Fd.dt) ∧ ∀ e ∈ es, P e
  | [], _ => ⟨[], rfl, by simp⟩
  | e :: l, h => by
    obtain ⟨f, rfl, hf⟩ := h e (by simp)
    obtain ⟨es, rfl, hes⟩ := rows_all l fun e he => h e (List.mem_cons_of_mem _ he)
    refine ⟨f :: es, rfl, fun e he => ?_⟩
    rcases List.mem_cons.1 he with rfl | he
    · exact hf
    · exact hes e he
theorem rows_of {Gs : List (Dt → Prop)} {d : Dt} (h : RowsG Gs d) {P : List Fd → Prop} (hP : ∀ e : List Dt, e.length = Gs.length → (∀ j (h : j < e.length) (h' : j < Gs.length), Gs[j] e[j]) → ∃ f : List Fd, e = f.map Fd.dt ∧ P f) :
    ∃ es, d = rowsD es ∧ es.length ≤ maxLen ∧ ∀ e ∈ es, P e := by
  obtain ⟨l, rfl, hl, he⟩ := h
  obtain ⟨es, rfl, hes⟩ := rows_all l fun e h => hP e (he e h).1 (he e h).2
  exact ⟨es, rfl, by simpa using hl, hes⟩

end Go.Proofs.Ytjaacdapibokiab

/- What the helpers of the laws answer (copies, comparisons, subsets of numbers), each by a walk of its text; conditions: a list that is read has fewer than 2^40 elements. -/
namespace Go.Proofs.Ytjaacdapibokiab
open Go.RowKit

def eqUpto (xs ys : List Int) (k : Nat) : Prop := ∀ j, j < k → xs.getD j 0 = ys.getD j 0
theorem eqUpto_zero (xs ys : List Int) : eqUpto xs ys 0 := fun _ h => by omega
theorem eqUpto_step {xs ys : List Int} {k : Nat} (h : eqUpto xs ys k) (h1 : k < xs.length) (h2 : k < ys.length) (e : xs[k] = ys[k]) : eqUpto xs ys (k + 1) := by
  intro j hj
  by_cases ej : j = k
  · subst ej; rw [getD_get h1, getD_get h2, e]
  · exact h j (by omega)
def eqB (xs ys : List Int) : Bool := decide (xs = ys)
theorem eqB_yes {xs ys : List Int} {k : Nat} (h : eqUpto xs ys k) (hl : xs.length = ys.length) (hk : xs.length ≤ k) : eqB xs ys = true := by
  refine decide_eq_true (List.ext_getElem hl fun j h1 h2 => ?_)
  have := h j (by omega)
  rwa [getD_get h1, getD_get h2] at this
theorem eqB_no {xs ys : List Int} {k : Nat} (h1 : k < xs.length) (h2 : k < ys.length) (e : ¬ xs[k] = ys[k]) : eqB xs ys = false := by
  refine decide_eq_false fun h => e ?_
  subst h; rfl
theorem eqB_len {xs ys : List Int} (hl : ¬ xs.length = ys.length) : eqB xs ys = false := decide_eq_false fun h => hl (by rw [h])

def hasB (l : List Int) (n : Int) : Bool := decide (n ∈ l)
theorem hasB_yes {l : List Int} {k : Nat} (hk : k < l.length) : hasB l l[k] = true := decide_eq_true (List.getElem_mem hk)
theorem hasB_no {l : List Int} {n : Int} {k : Nat} (h : Pre (fun x => x != n) l k) (hk : l.length ≤ k) : hasB l n = false := by
  refine decide_eq_false fun hm => ?_
  obtain ⟨j, hj, e⟩ := List.mem_iff_getElem.1 hm
  have := h j hj (by omega)
  rw [e] at this; simp at this

def rangeF (p : Nat → Bool) (n : Nat) : List Int := ((List.range n).filter p).map (fun (i : Nat) => (i : Int))
theorem rangeF_zero (p : Nat → Bool) : rangeF p 0 = [] := rfl
theorem rangeF_yes {p : Nat → Bool} {n : Nat} (h : p n = true) : rangeF p (n + 1) = rangeF p n ++ [(n : Int)] := by simp [rangeF, List.range_succ, List.filter_append, h]
theorem rangeF_no {p : Nat → Bool} {n : Nat} (h : p n = false) : rangeF p (n + 1) = rangeF p n := by simp [rangeF, List.range_succ, List.filter_append, h]
theorem rangeF_len (p : Nat → Bool) (n : Nat) : (rangeF p n).length ≤ n := by
  unfold rangeF; rw [List.length_map]; exact Nat.le_trans (List.length_filter_le _ _) (by simp)
def bitB (b : Nat) (i : Nat) : Bool := b / 2 ^ i % 2 == 1
def halved (b k : Nat) : Nat := b / 2 ^ k
theorem halved_zero (b : Nat) : halved b 0 = b := by unfold halved; rw [Nat.pow_zero, Nat.div_one]
theorem halved_succ (b k : Nat) : halved b (k + 1) = halved b k / 2 := by unfold halved; rw [Nat.pow_succ, Nat.div_div_eq_div_mul]
theorem halved_le (b k : Nat) : halved b k ≤ b := Nat.div_le_self _ _

def commonTo (a b : List Int) (k : Nat) : List Int := (a.take k).filter (hasB b)
theorem commonTo_yes {a b : List Int} {k : Nat} (hk : k < a.length) (h : hasB b a[k] = true) : commonTo a b (k + 1) = commonTo a b k ++ [a[k]] := by
  unfold commonTo; rw [List.take_succ_eq_append_getElem hk, List.filter_append]; simp [h]
theorem commonTo_no {a b : List Int} {k : Nat} (hk : k < a.length) (h : hasB b a[k] = false) : commonTo a b (k + 1) = commonTo a b k := by
  unfold commonTo; rw [List.take_succ_eq_append_getElem hk, List.filter_append]; simp [h]
theorem commonTo_len (a b : List Int) (k : Nat) : (commonTo a b k).length ≤ k := Nat.le_trans (List.length_filter_le _ _) (List.length_take_le _ _)
def commonZ (a b : List Int) : List Int := commonTo a b a.length
theorem commonZ_eq (a b : List Int) : commonZ a b = a.filter (hasB b) := by unfold commonZ commonTo; rw [List.take_length]

end Go.Proofs.Ytjaacdapibokiab

/- What the functions of committees answer, each by a walk of its text: the answers are those of plain functions on lists; conditions: a list that is read has fewer than 2^40 elements. -/
namespace Go.Proofs.Ytjaacdapibokiab
open Go.RowKit

end Go.Proofs.Ytjaacdapibokiab

/- A region that draws its order, operation by operation: an operation that yields its value in every world that meets S, or is left out by its guard, is taken first; a call is met where it alone may come up. General steps; nothing here speaks of the program. -/
namespace Go.Proofs.Ytjaacdapibokiab
open Go.RowKit

section
variable {P : Program} {md : Region.Mode} {l : List Oper} {Q : Exit → Act → World → Prop} {S : World → Prop} {oi : Oper} {rest : List Oper} {fuel : Nat} {listed : Array Bool} {a : Act} {w : World}

theorem drop_at {i : Nat} (hi : l.drop i = oi :: rest) : l.toArray[i]? = some oi := by
  have h : (l.drop i)[0]? = some oi := by rw [hi]; rfl
  rw [List.getElem?_drop] at h
  simpa using h
/-- Take number i first: it is carried out and yields v in every world that meets S. -/
theorem takeH (i : Nat) {v : Value} (hi : l.drop i = oi :: rest) (hs : Region.noSelect l.toArray = true) (hf : Region.free md l.toArray listed i = true) (hr : (Region.ready md l.toArray listed).contains i = true)
    (hQ : ∀ c a w, Q (.panic c) (a.put oi.dst v) w → Q (.panic c) a w) (hS : S w) (hw : Region.wanted oi (yielded l.toArray a.tmps) = true)
    (hy : ∀ w, S w → (execOp a.eval oi).run P w = .ok (.value v) w)
    (h : wpAnyH P md l.toArray Q S fuel (listed.setIfInBounds i true) (a.put oi.dst v) w) : wpAnyH P md l.toArray Q S (fuel + 1) listed a w :=
  wpAnyH_take (drop_at hi) hs hf hr hQ (.inl ⟨hw, hy⟩) hS h
/-- Number i is left out by its guard. -/
theorem skipH (i : Nat) (hi : l.drop i = oi :: rest) (hs : Region.noSelect l.toArray = true) (hf : Region.free md l.toArray listed i = true) (hr : (Region.ready md l.toArray listed).contains i = true)
    (hQ : ∀ c a w, Q (.panic c) (a.put oi.dst undef) w → Q (.panic c) a w) (hS : S w) (hw : Region.wanted oi (yielded l.toArray a.tmps) = false)
    (h : wpAnyH P md l.toArray Q S fuel (listed.setIfInBounds i true) (a.put oi.dst undef) w) : wpAnyH P md l.toArray Q S (fuel + 1) listed a w :=
  wpAnyH_take (drop_at hi) hs hf hr hQ (.inr ⟨hw, rfl⟩) hS h
/-- Number i alone may come up: it is carried out, and S is shown behind it. -/
theorem callH (i : Nat) (hi : l.drop i = oi :: rest) (hr : Region.ready md l.toArray listed = [i]) (hw : Region.wanted oi (yielded l.toArray a.tmps) = true)
    (h : ∀ K' : Act → World → Prop, Shut (∀ a w, S w → (S w → wpAnyH P md l.toArray Q S fuel (listed.setIfInBounds i true) a w) → K' a w) → Oper.wp P oi a w K' Q) : wpAnyH P md l.toArray Q S (fuel + 1) listed a w :=
  wpAnyH_ready hr (by simp) (AllReadyH.cons (drop_at hi) (fun K' hK => by rw [if_pos hw]; exact h K' hK) AllReadyH.nil)
/-- Either of two may come up next. -/
theorem twoH {oj : Oper} {rest2 : List Oper} (i j : Nat) (hi : l.drop i = oi :: rest) (hj : l.drop j = oj :: rest2) (hr : Region.ready md l.toArray listed = [i, j]) (hw : Region.wanted oi (yielded l.toArray a.tmps) = true) (hw' : Region.wanted oj (yielded l.toArray a.tmps) = true)
    (h : ∀ K' : Act → World → Prop, Shut (∀ a w, S w → (S w → wpAnyH P md l.toArray Q S fuel (listed.setIfInBounds i true) a w) → K' a w) → Oper.wp P oi a w K' Q)
    (h' : ∀ K' : Act → World → Prop, Shut (∀ a w, S w → (S w → wpAnyH P md l.toArray Q S fuel (listed.setIfInBounds j true) a w) → K' a w) → Oper.wp P oj a w K' Q) : wpAnyH P md l.toArray Q S (fuel + 1) listed a w :=
  wpAnyH_ready hr (by simp) (AllReadyH.cons (drop_at hi) (fun K' hK => by rw [if_pos hw]; exact h K' hK) (AllReadyH.cons (drop_at hj) (fun K' hK => by rw [if_pos hw']; exact h' K' hK) AllReadyH.nil))
end

end Go.Proofs.Ytjaacdapibokiab

/- The exact laws' functions on values and lists of Slot: sameness, copies, sizes, marks, each by a walk of its text; conditions: the lists are no longer than the laws' bound. -/
namespace Go.Proofs.Ytjaacdapibokiab
open Go.RowKit

def slotP (e : List Fd) : Prop := ∃ (x0 : Int) (x1 : Int), e = [.i x0, .i x1]
theorem slotP_len {es : List (List Fd)} (h : ∀ e ∈ es, slotP e) : ∀ e ∈ es, e.length = 2 := by
  intro e he
  obtain ⟨_, _, rfl⟩ := h e he
  rfl

theorem slot_inf : (Try.prog.info? 36).map (fun i => (i.zero, i.size, i.bytes)) = some (some (.agg #[.int .i64 0, .int .i64 0]), 2, 16) := by kernel_rfl

set_option maxRecDepth 8000 in
/-- A list of Slot that came in. -/
theorem open_SlotS {H : Type} {enc : TypeId × Value → H} {W : World} {base : Nat} {v : Value} {d : DataW H} {p : List MemPlace} (hv : Value.okWide Try.prog W .any base 28 v) (h : DataW.Trod enc Try.prog W 0 (fun _ => true) true 28 v d p) :
    ∃ es fp, Rd W (rowsD es) v fp ∧ es.length ≤ maxLen ∧ ∀ e ∈ es, slotP e ∧ fitE e := by
  obtain ⟨a, len, cap, rfl⟩ := Go.WideShapes.okWide_slice Try.underlying28 hv
  obtain ⟨d, fp, hr, hg⟩ := open_cell (opens_slice_struct (Gs := [IntG, IntG]) Try.underlying28 (by kernel_rfl) Try.underlying38 (by kernel_rfl) (by first | decide | exact Nat.zero_lt_succ _ | simp) rfl (fun j h h' => by
    match j, h, h' with
    | 0, _, _ => exact ⟨rfl, opens_int Try.underlying3 (by kernel_rfl)⟩
    | 1, _, _ => exact ⟨rfl, opens_int Try.underlying3 (by kernel_rfl)⟩)) rfl h
  obtain ⟨es, rfl, hl, hp⟩ := rows_of hg (P := fun e => slotP e ∧ fitE e) (fun e he hf => by
    match e, he with
    | [d0, d1], _ =>
      obtain ⟨x0, rfl, b0⟩ := hf 0 (by simp) (by simp)
      obtain ⟨x1, rfl, b1⟩ := hf 1 (by simp) (by simp)
      exact ⟨[.i x0, .i x1], rfl, ⟨x0, x1, rfl⟩, fun _ hx => by
        simp at hx
        rcases hx with rfl | rfl
        · exact b0
        · exact b1,
      fun _ hx => by simp at hx⟩)
  exact ⟨es, fp, hr, hl, hp⟩

set_option maxRecDepth 8000 in
/-- A Slot that came in by value. -/
theorem open_Slot {H : Type} {enc : TypeId × Value → H} {W : World} {base : Nat} {v : Value} {d : DataW H} {p : List MemPlace} (hv : Value.okWide Try.prog W .any base 38 v) (h : DataW.Trod enc Try.prog W 0 (fun _ => true) true 38 v d p) :
    ∃ x0 x1, v = .agg #[.int .i64 x0, .int .i64 x1] ∧ (-9223372036854775808 ≤ x0 ∧ x0 ≤ 9223372036854775807) ∧ (-9223372036854775808 ≤ x1 ∧ x1 ≤ 9223372036854775807) := by
  obtain ⟨cs, rfl, hl, hf⟩ := open_struct (Gs := [IntG, IntG]) Try.underlying38 (by kernel_rfl) rfl (fun j h h' => by
    match j, h, h' with
    | 0, _, _ => exact ⟨rfl, opens_int Try.underlying3 (by kernel_rfl)⟩
    | 1, _, _ => exact ⟨rfl, opens_int Try.underlying3 (by kernel_rfl)⟩) hv h
  match cs, hl with
  | [u0, u1], _ =>
    obtain ⟨d0, f0, r0, x0, rfl, b0⟩ := hf 0 (by simp) (by simp)
    obtain ⟨rfl, _⟩ := Rd.int (show Rd W (.i x0) u0 f0 from r0)
    obtain ⟨d1, f1, r1, x1, rfl, b1⟩ := hf 1 (by simp) (by simp)
    obtain ⟨rfl, _⟩ := Rd.int (show Rd W (.i x1) u1 f1 from r1)
    exact ⟨x0, x1, rfl, b0, b1⟩

theorem laws_eqSlotR (x0 : Int) (x1 : Int) (w : World) :
    Calls Try.prog 16 #[.agg #[.int .i64 x0, .int .i64 x1], .agg #[.int .i64 x0, .int .i64 x1]] w fun e w' => e = .returned (.bool true) ∧ Below w.heap.size w w' := by
  have hb : Below w.heap.size w ((w.alloc (.cells #[.int .i64 x0, .int .i64 x1] 36)).alloc (.cells #[.int .i64 x0, .int .i64 x1] 36)) := ((Below.refl _ w).alloc (Nat.le_refl _) _).alloc (by simp) _
  go_enter Try.func16, Try.ntmps16
  go_wp2
  go_ret
  exact ⟨rfl, hb⟩

set_option maxHeartbeats 1000000 in
theorem laws_eqSlotSR (es : List (List Fd)) (v v' : Value) (fp fp' : List Nat) (w : World) (hbig : es.length ≤ 1099511627776) (hp : ∀ e ∈ es, slotP e) (hl : ∀ e ∈ es, lnE e ≤ 1099511627776) (hr : Rd w (rowsD es) v fp) (hr' : Rd w (rowsD es) v' fp') :
    Calls Try.prog 11 #[v, v'] w fun e w' => e = .returned (.bool true) ∧ Below w.heap.size w w' := by
  have Hm := Lib.hid (slotP_len hp)
  obtain ⟨a, cap, rfl⟩ := Rd.slice hr
  obtain ⟨a', cap', rfl⟩ := Rd.slice hr'
  rw [List.length_map] at *
  have Hr := Lib.hid hr; clear hr
  have Hr' := Lib.hid hr'; clear hr'
  have Hp := Lib.hid hp; clear hp
  have Hl := Lib.hid hl; clear hl
  go_enter Try.func11, Try.ntmps11
  go_wp2
  go_loopw [5] (fun i wr => ∃ k : Nat, k ≤ es.length ∧ i = .int .i64 k ∧ Below w.heap.size w wr) (fun i _ => es.length - (intOf i).toNat)
  case atStart => exact ⟨0, by omega, rfl, Below.refl _ _⟩
  case round =>
    obtain ⟨k, hk, rfl, hbel⟩ := hrel
    by_cases hlt : k < es.length
    · obtain ⟨g, off, rfl, hg, hat⟩ := rows_at (Hr.out.under hbel) (by omega) Hm.out
      obtain ⟨g', off', rfl, hg', hat'⟩ := rows_at (Hr'.out.under hbel) (by omega) Hm.out
      obtain ⟨x0, x1, he⟩ := Hp.out _ (List.getElem_mem hlt)
      have hle := Hl.out _ (List.getElem_mem hlt)
      rw [he] at hle
      obtain ⟨v0, f0, C0, R0⟩ := hat k hlt 0 (by rw [he]; simp)
      obtain rfl := rd_i R0 (x := x0) (by simp only [he]; rfl)
      clear R0
      obtain ⟨v1, f1, C1, R1⟩ := hat k hlt 1 (by rw [he]; simp)
      obtain rfl := rd_i R1 (x := x1) (by simp only [he]; rfl)
      clear R1
      simp only [Nat.add_zero] at C0
      obtain ⟨v0, f0, C0', R0⟩ := hat' k hlt 0 (by rw [he]; simp)
      obtain rfl := rd_i R0 (x := x0) (by simp only [he]; rfl)
      clear R0
      obtain ⟨v1, f1, C1', R1⟩ := hat' k hlt 1 (by rw [he]; simp)
      obtain rfl := rd_i R1 (x := x1) (by simp only [he]; rfl)
      clear R1
      simp only [Nat.add_zero] at C0'
      have Hbel := Lib.hid hbel; clear hbel hat hat' he hle
      have H := Lib.hid (fun w' (h : Below wr.heap.size wr w') => laws_eqSlotR x0 x1 w')
      have hgl := Lib.hid (fun w' (h : Below wr.heap.size wr w') => (⟨Nat.lt_of_lt_of_le hg h.size, Nat.lt_of_lt_of_le hg' h.size⟩ : g < w'.heap.size ∧ g' < w'.heap.size))
      have hb0 : Below wr.heap.size wr wr.drew := (Below.refl _ _).drew
      clear hg hg'
      go_wp2_with fail
      refine wp_region_held_drew (S := fun w' => Below wr.heap.size wr w' ∧ w'.cell? ⟨g, off + k * 2, none⟩ = some (.int .i64 x0) ∧ w'.cell? ⟨g, off + k * 2 + 1, none⟩ = some (.int .i64 x1) ∧ w'.cell? ⟨g', off' + k * 2, none⟩ = some (.int .i64 x0) ∧ w'.cell? ⟨g', off' + k * 2 + 1, none⟩ = some (.int .i64 x1)) (by kernel_rfl) ⟨hb0, C0, C1, C0', C1'⟩ (fun hH => ?_)
      refine takeH 0 (v := ?vs0) rfl (by kernel_rfl) (by kernel_rfl) (by kernel_rfl) (fun _ _ _ h => h) hH rfl ?ys0 ?rs0
      case ys0 => intro w hSw; go_simp; try with_reducible rfl
      try simp only [Act.put, List.setIfInBounds_toArray, List.set_cons_zero, List.set_cons_succ]
      refine takeH 1 (v := ?vs1) rfl (by kernel_rfl) (by kernel_rfl) (by kernel_rfl) (fun _ _ _ h => h) hH rfl ?ys1 ?rs1
      case ys1 => intro w hSw; go_simp; try with_reducible rfl
      try simp only [Act.put, List.setIfInBounds_toArray, List.set_cons_zero, List.set_cons_succ]
      refine takeH 2 (v := ?vs2) rfl (by kernel_rfl) (by kernel_rfl) (by kernel_rfl) (fun _ _ _ h => h) hH rfl ?ys2 ?rs2
      case ys2 => intro w hSw; go_simp; try with_reducible rfl
      try simp only [Act.put, List.setIfInBounds_toArray, List.set_cons_zero, List.set_cons_succ]
      refine takeH 3 (v := ?vs3) rfl (by kernel_rfl) (by kernel_rfl) (by kernel_rfl) (fun _ _ _ h => h) hH rfl ?ys3 ?rs3
      case ys3 => intro w hSw; go_simp; try with_reducible rfl
      try simp only [Act.put, List.setIfInBounds_toArray, List.set_cons_zero, List.set_cons_succ]
      refine takeH 4 (v := ?vs4) rfl (by kernel_rfl) (by kernel_rfl) (by kernel_rfl) (fun _ _ _ h => h) hH rfl ?ys4 ?rs4
      case ys4 => intro w hSw; go_simp; try with_reducible rfl
      try simp only [Act.put, List.setIfInBounds_toArray, List.set_cons_zero, List.set_cons_succ]
      refine takeH 5 (v := ?vs5) rfl (by kernel_rfl) (by kernel_rfl) (by kernel_rfl) (fun _ _ _ h => h) hH rfl ?ys5 ?rs5
      case ys5 => intro w hSw; go_simp; try with_reducible rfl
      try simp only [Act.put, List.setIfInBounds_toArray, List.set_cons_zero, List.set_cons_succ]
      refine takeH 6 (v := ?vs6) rfl (by kernel_rfl) (by kernel_rfl) (by kernel_rfl) (fun _ _ _ h => h) hH rfl ?ys6 ?rs6
      case ys6 => intro w hSw; go_simp; try with_reducible rfl
      try simp only [Act.put, List.setIfInBounds_toArray, List.set_cons_zero, List.set_cons_succ]
      refine takeH 7 (v := ?vs7) rfl (by kernel_rfl) (by kernel_rfl) (by kernel_rfl) (fun _ _ _ h => h) hH rfl ?ys7 ?rs7
      case ys7 => intro w hSw; go_simp; try with_reducible rfl
      try simp only [Act.put, List.setIfInBounds_toArray, List.set_cons_zero, List.set_cons_succ]
      refine callH 8 rfl (by kernel_rfl) rfl (fun K hK => ?_)
      go_simp
      go_at_call 16
      refine (H.out _ hH.1).mono ?_
      rintro e wx ⟨rfl, hbx⟩
      refine hK.out _ _ ⟨hH.1.trans (hbx.mono hH.1.size), (hbx.cell (p := ⟨g, off + k * 2, none⟩) (hgl.out _ hH.1).1).trans hH.2.1, (hbx.cell (p := ⟨g, off + k * 2 + 1, none⟩) (hgl.out _ hH.1).1).trans hH.2.2.1, (hbx.cell (p := ⟨g', off' + k * 2, none⟩) (hgl.out _ hH.1).2).trans hH.2.2.2.1, (hbx.cell (p := ⟨g', off' + k * 2 + 1, none⟩) (hgl.out _ hH.1).2).trans hH.2.2.2.2⟩ (fun hH => ?_)
      clear hK K
      try simp only [Act.put, List.setIfInBounds_toArray, List.set_cons_zero, List.set_cons_succ]
      refine takeH 9 (v := ?vs9) rfl (by kernel_rfl) (by kernel_rfl) (by kernel_rfl) (fun _ _ _ h => h) hH rfl ?ys9 ?rs9
      case ys9 => intro w hSw; go_simp; try with_reducible rfl
      try simp only [Act.put, List.setIfInBounds_toArray, List.set_cons_zero, List.set_cons_succ]
      refine wpAnyH_done (by kernel_rfl) ?_ _
      go_wp2
      go_roundw
      case rel => exact ⟨k + 1, by omega, by go_num, below_step Hbel.out Hbel.out.size hH.1⟩
      case measure => simp [intOf]; omega
    · go_wp2
      go_ret
      exact ⟨rfl, hbel⟩

theorem laws_szSlotSR (es : List (List Fd)) (v : Value) (fp : List Nat) (left : Nat) (w : World) (hl : left ≤ 1048576) (hbig : es.length ≤ 9223372036854775807) (hp : ∀ e ∈ es, slotP e) (hr : Rd w (rowsD es) v fp) :
    Calls Try.prog 9 #[v, .int .i64 (left : Int)] w fun e w' => e = .returned (.int .i64 (if es.length + lnTo es es.length ≤ left then ((left - es.length - lnTo es es.length : Nat) : Int) else -1)) ∧ Below w.heap.size w w' := by
  obtain ⟨a, cap, rfl⟩ := Rd.slice hr
  rw [List.length_map] at *
  have h0 : lnTo es es.length = 0 := lnTo_none (fun e he => by obtain ⟨_, _, rfl⟩ := hp e he; rfl) _
  rw [h0]
  clear hr hp h0
  by_cases h : es.length ≤ left
  · rw [if_pos (by omega)]
    have h' : ¬ ((left : Int) - (es.length : Int) < 0) := by omega
    go_enter Try.func9, Try.ntmps9
    go_wp2
    go_ret
    exact ⟨ret_int (by omega), Below.refl _ _⟩
  · rw [if_neg (by omega)]
    have h' : (left : Int) - (es.length : Int) < 0 := by omega
    go_enter Try.func9, Try.ntmps9
    go_wp2
    go_ret
    exact ⟨rfl, Below.refl _ _⟩

theorem laws_toSlotR (x0 : Int) (x1 : Int) (w : World) :
    Calls Try.prog 15 #[.agg #[.int .i64 x0, .int .i64 x1]] w fun e w' => e = .returned (.agg #[.int .i64 x0, .int .i64 x1]) ∧ Below w.heap.size w w' := by
  have hbW : Below w.heap.size w (((w.alloc (.cells #[.int .i64 x0, .int .i64 x1] 38)).alloc (.cells #[.int .i64 0, .int .i64 0] 36)).alloc (.cells #[.int .i64 x0, .int .i64 x1] 36)) := (((Below.refl _ w).alloc (Nat.le_refl _) _).alloc (by simp) _).alloc (by simp; omega) _
  have s0 := ((Str.new w 38 #[.int .i64 x0, .int .i64 x1]).alloc (.cells #[.int .i64 0, .int .i64 0] 36)).alloc (.cells #[.int .i64 x0, .int .i64 x1] 36)
  have s1 := (Str.new (w.alloc (.cells #[.int .i64 x0, .int .i64 x1] 38)) 36 #[.int .i64 0, .int .i64 0]).alloc (.cells #[.int .i64 x0, .int .i64 x1] 36)
  have s2 := Str.new ((w.alloc (.cells #[.int .i64 x0, .int .i64 x1] 38)).alloc (.cells #[.int .i64 0, .int .i64 0] 36)) 36 #[.int .i64 x0, .int .i64 x1]
  have hzW : (((w.alloc (.cells #[.int .i64 x0, .int .i64 x1] 38)).alloc (.cells #[.int .i64 0, .int .i64 0] 36)).alloc (.cells #[.int .i64 x0, .int .i64 x1] 36)).heap.size = w.heap.size + 3 := by simp
  simp only [World.size_alloc] at s1 s2
  have Hb := Lib.hid hbW
  have Hs0 := Lib.hid s0
  have Hs1 := Lib.hid s1
  have Hs2 := Lib.hid s2
  have Hz := Lib.hid hzW
  clear hbW s0 s1 s2 hzW
  have t0 := Hs0.out
  have t1 := Hs1.out
  have t2 := Hs2.out
  clear Hs0 Hs1 Hs2 Hz
  have k0 := t1.cell 0 (v := .int .i64 0) rfl
  have k1 := t1.cell 1 (v := .int .i64 0) rfl
  have f0 := t1.frozen 0
  have f1 := t1.frozen 1
  have j0 := t2.cell 0 (v := .int .i64 x0) rfl
  have j1 := t2.cell 1 (v := .int .i64 x1) rfl
  have hne : w.heap.size + 1 ≠ w.heap.size + 1 + 1 := by omega
  have u := ((t1.set 0 (.int .i64 x0)).set 1 (.int .i64 x1))
  have e0 := u.cell 0 (v := .int .i64 x0) rfl
  have e1 := u.cell 1 (v := .int .i64 x1) rfl
  clear u t0 t1 t2
  go_enter Try.func15, Try.ntmps15
  go_wp2
  refine bodyPost_ret (v := .agg #[.int .i64 x0, .int .i64 x1]) (by simp [results, Try.f15, go_sem]) rfl ?_
  exact ⟨rfl, (((Below.refl _ w).alloc (Nat.le_refl _) _).alloc (by simp) _).alloc (by simp; omega) _⟩

theorem slot_info : (Try.prog.info? 36).map (fun i => (i.zero, i.size, i.bytes)) = some (some (.agg #[.int .i64 0, .int .i64 0]), 2, 16) := by kernel_rfl

set_option maxHeartbeats 1000000 in
theorem laws_toSlotSR (es : List (List Fd)) (v : Value) (fp : List Nat) (w : World) (hbig : es.length ≤ 1048576) (hp : ∀ e ∈ es, slotP e) (hl : ∀ e ∈ es, lnE e ≤ 1048576) (hr : Rd w (rowsD es) v fp) :
    Calls Try.prog 10 #[v] w fun e w' => ∃ u, e = .returned u ∧ OwnR 36 3 2 w' w.heap.size w'.heap.size u es ∧ Below w.heap.size w w' := by
  obtain ⟨a, cap, rfl⟩ := Rd.slice hr
  rw [List.length_map] at *
  have Hm := Lib.hid (slotP_len hp)
  have Hr := Lib.hid hr; clear hr
  have Hp := Lib.hid hp; clear hp
  have Hl := Lib.hid hl; clear hl
  have hmk : ∀ w, (Instr.makeSlice 23 (.int .i64 (es.length : Int)) (.int .i64 (es.length : Int))).run Try.prog w = .ok (.slice (some ⟨w.heap.size, 0, none⟩) es.length es.length) (w.alloc (.cells (madeCells #[.int .i64 0, .int .i64 0] (es.length * 2)) 36)) := fun w => by
    obtain ⟨i, hi, hz, hsz, hb⟩ := info_parts slot_info
    have h := run_make (P := Try.prog) w 23 36 i (.agg #[.int .i64 0, .int .i64 0]) Try.underlying23 hi hz .i64 .i64 (es.length : Int) (es.length : Int) (by omega) (Int.le_refl _) (by rw [hb]; omega) (by omega)
    simp only [Int.toNat_natCast, hsz] at h
    exact h
  have hn0 := ownR_new (E := 36) (Ei := 3) (m := 2) w es [.int .i64 0, .int .i64 0] [.i 0, .i 0] (by unfold maxLen; omega) rfl rfl (by omega) (by intro c hc; simp only [List.mem_cons, List.not_mem_nil, or_false] at hc; rcases hc with rfl | rfl <;> rfl) (fun W B j h h' => by
    match j, h, h' with
    | 0, _, _ => exact rfl
    | 1, _, _ => exact rfl)
  have Hv0 := Lib.hid (show OwnR 36 3 2 (w.alloc (.cells (madeCells #[.int .i64 0, .int .i64 0] (es.length * 2)) 36)) w.heap.size (w.alloc (.cells (madeCells #[.int .i64 0, .int .i64 0] (es.length * 2)) 36)).heap.size _ (cpTo es [.i 0, .i 0] 0) from hn0.mono (by simp)); clear hn0
  have Hb0 := Lib.hid ((Below.refl w.heap.size w).alloc (Nat.le_refl _) (.cells (madeCells #[.int .i64 0, .int .i64 0] (es.length * 2)) 36))
  go_enter Try.func10, Try.ntmps10
  go_wp2_with fail
  go_loopw [4] (fun i wr => ∃ k : Nat, k ≤ es.length ∧ i = .int .i64 k ∧ OwnR 36 3 2 wr w.heap.size wr.heap.size (.slice (some ⟨w.heap.size, 0, none⟩) es.length es.length) (cpTo es [.i 0, .i 0] k) ∧ Below w.heap.size w wr) (fun i _ => es.length - (intOf i).toNat)
  case atStart => exact ⟨0, by omega, rfl, Hv0.out, Hb0.out⟩
  case round =>
    clear Hv0 Hb0
    obtain ⟨k, hk, rfl, hown, hbel⟩ := hrel
    have hB := hbel.size
    have Hbel := Lib.hid hbel; clear hbel
    have Hown := Lib.hid hown; clear hown
    by_cases hlt : k < es.length
    · obtain ⟨g, off, rfl, hg, hat⟩ := rows_at (Hr.out.under Hbel.out) (by omega) Hm.out
      obtain ⟨x0, x1, he⟩ := Hp.out _ (List.getElem_mem hlt)
      have hle := Hl.out _ (List.getElem_mem hlt)
      rw [he] at hle
      obtain ⟨v0, f0, C0, R0⟩ := hat k hlt 0 (by rw [he]; simp)
      obtain rfl := rd_i R0 (x := x0) (by simp only [he]; rfl)
      clear R0
      obtain ⟨v1, f1, C1, R1⟩ := hat k hlt 1 (by rw [he]; simp)
      obtain rfl := rd_i R1 (x := x1) (by simp only [he]; rfl)
      clear R1
      simp only [Nat.add_zero] at C0
      have hst := cpTo_step (z := [.i 0, .i 0]) hlt
      rw [he] at hst
      have Hst := Lib.hid hst; clear hst
      have hcl := cpTo_len es [.i 0, .i 0] k
      have hkc : k < (cpTo es [.i 0, .i 0] k).length := by rw [hcl]; exact hlt
      have hz0 : (cpTo es [.i 0, .i 0] k)[k] = [.i 0, .i 0] := by rw [cpTo_get, if_neg (by omega)]
      have hr0 := Hown.out
      rw [← set_self' hkc hz0] at hr0
      generalize cpTo es [.i 0, .i 0] k = rs at *
      have Hrs := Lib.hid (show es.length = rs.length from hcl.symm)
      have Hr0 := Lib.hid hr0; clear hr0 hz0
      have Hcall := Lib.hid (laws_toSlotR x0 x1 wr)
      clear hat he hle hcl Hown
      go_wp2_with fail
      refine Hcall.out.mono ?_
      rintro e w2 ⟨rfl, hb2⟩
      have hs2 := hb2.size
      have hrow := Hr0.out.below hb2 (Nat.le_refl _)
      have Hb2 := Lib.hid (below_step Hbel.out hB hb2)
      clear hb2 Hr0
      obtain ⟨P0, F0⟩ := hrow.rcI hkc 0 (x := 0) rfl
      obtain ⟨P1, F1⟩ := hrow.rcI hkc 1 (x := 0) rfl
      simp only [Nat.add_zero] at P0 F0
      have A0 := hrow.rowI Hrs.out hkc 0 (by omega) x0
      have A1 := A0.rowI Hrs.out hkc 1 (by omega) x1
      simp only [List.set_cons_zero, List.set_cons_succ, Nat.add_zero] at A1
      rw [Hst.out] at A1
      have hsz4 : ((w2.setCell ⟨w.heap.size, k * 2, none⟩ (.int .i64 x0)).setCell ⟨w.heap.size, k * 2 + 1, none⟩ (.int .i64 x1)).heap.size = w2.heap.size := by simp [World.setCell]
      have HA := Lib.hid (A1.mono (show wr.heap.size ≤ ((w2.setCell ⟨w.heap.size, k * 2, none⟩ (.int .i64 x0)).setCell ⟨w.heap.size, k * 2 + 1, none⟩ (.int .i64 x1)).heap.size by rw [hsz4]; exact hs2))
      have HB4 := Lib.hid ((Hb2.out.setCell (p := ⟨w.heap.size, k * 2, none⟩) (Nat.le_refl _) (.int .i64 x0)).setCell (p := ⟨w.heap.size, k * 2 + 1, none⟩) (Nat.le_refl _) (.int .i64 x1))
      clear hsz4 A0 A1 hrow
      go_wp2_with fail
      go_roundw
      case rel => exact ⟨k + 1, by omega, by go_num, HA.out, HB4.out⟩
      case measure => simp [intOf]; omega
    · have hke : k = es.length := by omega
      subst hke
      go_wp2
      go_ret
      exact ⟨_, rfl, by have h9 := Hown.out; rwa [cpTo_all] at h9, Hbel.out⟩

end Go.Proofs.Ytjaacdapibokiab

/- Both sides of SlotsPrefix from lists of rows in memory; plain facts over the walks, nothing here is walked. -/
namespace Go.Proofs.Ytjaacdapibokiab
open Go.RowKit

theorem rows_sl : ∀ {es : List (List Fd)}, (∀ e ∈ es, slotP e) → ∃ l : List Sl, es = l.map slF
  | [], _ => ⟨[], rfl⟩
  | e :: es, h => by
    obtain ⟨x0, x1, rfl⟩ := h _ List.mem_cons_self
    obtain ⟨g, rfl⟩ := rows_sl (es := es) fun e he => h e (List.mem_cons_of_mem _ he)
    exact ⟨(x0, x1) :: g, rfl⟩
theorem sp_spec {a b : List Sl} {va vb : Value} {fa fb : List Nat} {w : World} (ha : a.length ≤ 1099511627776) (hb : b.length ≤ 1099511627776) (h : Sls w a va fa) (h' : Sls w b vb fb) :
    Calls Try.prog 7 #[va, vb] w fun e w' => e = .returned (.bool (decide (a <+: b))) ∧ Below w.heap.size w w' := by
  obtain ⟨xa, ca, rfl⟩ := h.slice
  obtain ⟨xb, cb, rfl⟩ := h'.slice
  exact (spec_SlotsPrefix a b xa xb ca cb fa fb w ha hb h h').mono fun e w' ⟨h1, h2⟩ => ⟨h1, h2.below _⟩
theorem sp_impl {a b : List Sl} {va vb : Value} {fa fb : List Nat} {w : World} (ha : a.length ≤ 1099511627776) (hb : b.length ≤ 1099511627776) (h : Sls w a va fa) (h' : Sls w b vb fb) :
    Calls Try.prog 6 #[va, vb] w fun e w' => e = .returned (.bool (decide (a <+: b))) ∧ Below w.heap.size w w' := by
  obtain ⟨xa, ca, rfl⟩ := h.slice
  obtain ⟨xb, cb, rfl, hc⟩ := sl_cap h'
  exact (impl_SlotsPrefix a b xa xb ca cb fa fb w ha hb hc h h').mono fun e w' ⟨h1, h2⟩ => ⟨h1, h2.below _⟩

end Go.Proofs.Ytjaacdapibokiab
