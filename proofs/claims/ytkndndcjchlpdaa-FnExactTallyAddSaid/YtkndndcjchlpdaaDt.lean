/- Data in memory: what a value reads as (numbers, truth values, texts, lists of rows of these), with the blocks that the reading passes through; general steps, nothing here speaks of the program. -/
import Derived.Test.YtkndndcjchlpdaaBase
import Derived.Test.YtkndndcjchlpdaaApp
namespace Go.Proofs.Ytkndndcjchlpdaa
open Go.RowKit

/-- A number, a truth value, a text, a list whose elements are rows of one-cell data. -/
inductive Dt where
  | i (n : Int)
  | b (x : Bool)
  | s (t : ByteArray)
  | l (es : List (List Dt))

/-- The value reads as the datum; the reading passes through these blocks. -/
inductive Rd (w : World) : Dt → Value → List Nat → Prop
  | i (n : Int) : Rd w (.i n) (.int .i64 n) []
  | b (x : Bool) : Rd w (.b x) (.bool x) []
  | s (t : ByteArray) : Rd w (.s t) (.string t) []
  | nil (a : Option Addr) (cap : Nat) (hn : a = none → cap = 0) : Rd w (.l []) (.slice a 0 cap) []
  | l (sz : Nat) (es : List (List Dt)) (g off cap : Nat) (V : Nat → Nat → Value) (F : Nat → Nat → List Nat) (hne : 0 < es.length) (hsz : ∀ e ∈ es, e.length = sz) (hcap : es.length ≤ cap) (hg : g < w.heap.size)
      (hc : ∀ k j, k < es.length → j < sz → w.cell? ⟨g, off + (k * sz + j), none⟩ = some (V k j))
      (hr : ∀ k j (hk : k < es.length) (hj : j < (es[k]).length), Rd w ((es[k])[j]) (V k j) (F k j)) :
      Rd w (.l es) (.slice (some ⟨g, off, none⟩) es.length cap) (g :: (List.range es.length).flatMap fun k => (List.range sz).flatMap (F k))

theorem Rd.grown {w w' : World} {row : Option Nat} (hg : w.grownBy w' row) {d : Dt} {v : Value} {fp : List Nat} (h : Rd w d v fp) (hr : ∀ r, row = some r → r ∉ fp) : Rd w' d v fp := by
  induction h with
  | i n => exact .i n
  | b x => exact .b x
  | s t => exact .s t
  | nil a cap hn => exact .nil a cap hn
  | l sz es g off cap V F hne hsz hcap hgl hc hrd ih =>
    refine .l sz es g off cap V F hne hsz hcap (Nat.lt_of_lt_of_le hgl hg.size) (fun k j hk hj => hg.cell (hc k j hk hj) fun e => ?_) (fun k j hk hj => ih k j hk hj fun r e hm => ?_)
    · exact hr g e.symm (by simp)
    · refine hr r e (List.mem_cons_of_mem _ (List.mem_flatMap.2 ⟨k, List.mem_range.2 hk, List.mem_flatMap.2 ⟨j, List.mem_range.2 ?_, hm⟩⟩))
      rw [← hsz _ (List.getElem_mem hk)]; exact hj
theorem Rd.lt {w : World} {d : Dt} {v : Value} {fp : List Nat} (h : Rd w d v fp) : ∀ g ∈ fp, g < w.heap.size := by
  induction h with
  | i n => intro g hg; cases hg
  | b x => intro g hg; cases hg
  | s t => intro g hg; cases hg
  | nil a cap hn => intro g hg; cases hg
  | l sz es g off cap V F hne hsz hcap hgl hc hrd ih =>
    intro r hr
    rcases List.mem_cons.1 hr with rfl | hr
    · exact hgl
    · obtain ⟨k, hk, hr⟩ := List.mem_flatMap.1 hr
      obtain ⟨j, hj, hr⟩ := List.mem_flatMap.1 hr
      rw [List.mem_range] at hk hj
      exact ih k j hk (by rw [hsz _ (List.getElem_mem hk)]; exact hj) r hr
theorem Rd.under {w w' : World} {d : Dt} {v : Value} {fp : List Nat} (h : Rd w d v fp) (hb : Below w.heap.size w w') : Rd w' d v fp := h.grown (below_grown hb) fun _ e => by cases e
theorem Rd.underB {B : Nat} {w w' : World} {d : Dt} {v : Value} {fp : List Nat} (hb : Below B w w') (h : Rd w d v fp) (hf : ∀ g ∈ fp, g < B) : Rd w' d v fp := by
  induction h with
  | i n => exact .i n
  | b x => exact .b x
  | s t => exact .s t
  | nil a cap hn => exact .nil a cap hn
  | l sz es g off cap V F hne hsz hcap hgl hc hrd ih =>
    refine .l sz es g off cap V F hne hsz hcap (Nat.lt_of_lt_of_le hgl hb.size) (fun k j hk hj => (hb.cell (p := ⟨g, off + (k * sz + j), none⟩) (hf g (by simp))).trans (hc k j hk hj)) (fun k j hk hj => ih k j hk hj fun r hm => ?_)
    refine hf r (List.mem_cons_of_mem _ (List.mem_flatMap.2 ⟨k, List.mem_range.2 hk, List.mem_flatMap.2 ⟨j, List.mem_range.2 ?_, hm⟩⟩))
    rw [← hsz _ (List.getElem_mem hk)]; exact hj

/-- A list in memory: its slice, and each element's row. -/
theorem Rd.list {w : World} {es : List (List Dt)} {v : Value} {fp : List Nat} (h : Rd w (.l es) v fp) : ∃ a cap, v = .slice a es.length cap ∧ es.length ≤ cap ∨ es = [] ∧ ∃ a cap, v = .slice a 0 cap := by
  generalize hd : Dt.l es = d at h
  cases h with
  | i n => cases hd
  | b x => cases hd
  | s t => cases hd
  | nil a cap hn => cases hd; exact ⟨a, cap, .inr ⟨rfl, a, cap, rfl⟩⟩
  | l sz es' g off cap V F hne hsz hcap hgl hc hrd => cases hd; exact ⟨_, cap, .inl ⟨rfl, hcap⟩⟩
theorem Rd.slice {w : World} {es : List (List Dt)} {v : Value} {fp : List Nat} (h : Rd w (.l es) v fp) : ∃ a cap, v = .slice a es.length cap := by
  obtain ⟨a, cap, ⟨rfl, _⟩ | ⟨rfl, a, cap, rfl⟩⟩ := h.list
  · exact ⟨a, cap, rfl⟩
  · exact ⟨a, cap, rfl⟩
theorem Rd.at {w : World} {es : List (List Dt)} {a : Option Addr} {n cap : Nat} {fp : List Nat} (h : Rd w (.l es) (.slice a n cap) fp) (hne : 0 < es.length) {sz : Nat} (hsz : ∀ e ∈ es, e.length = sz) :
    ∃ g off, a = some ⟨g, off, none⟩ ∧ g < w.heap.size ∧ g ∈ fp ∧ n = es.length ∧ n ≤ cap ∧ ∀ k j (hk : k < es.length) (hj : j < (es[k]).length), ∃ v fp', w.cell? ⟨g, off + (k * sz + j), none⟩ = some v ∧ Rd w ((es[k])[j]) v fp' ∧ ∀ r ∈ fp', r ∈ fp := by
  generalize hd : Dt.l es = d at h
  generalize hv : Value.slice a n cap = v at h
  cases h with
  | i n => cases hd
  | b x => cases hd
  | s t => cases hd
  | nil a cap hn => cases hd; simp at hne
  | l sz' es' g off cap' V F hne' hsz' hcap hgl hc hrd =>
    cases hd
    cases hv
    have hss : sz' = sz := by
      have h0 := List.getElem_mem hne
      rw [← hsz' _ h0, hsz _ h0]
    subst hss
    refine ⟨g, off, rfl, hgl, by simp, rfl, hcap, fun k j hk hj => ⟨V k j, F k j, hc k j hk (by rw [← hsz _ (List.getElem_mem hk)]; exact hj), hrd k j hk hj, fun r hr => ?_⟩⟩
    refine List.mem_cons_of_mem _ (List.mem_flatMap.2 ⟨k, List.mem_range.2 hk, List.mem_flatMap.2 ⟨j, List.mem_range.2 ?_, hr⟩⟩)
    rw [← hsz _ (List.getElem_mem hk)]; exact hj

theorem Rd.nilcap {w : World} {es : List (List Dt)} {n cap : Nat} {fp : List Nat} (h : Rd w (.l es) (.slice none n cap) fp) : cap = 0 := by
  generalize hd : Dt.l es = d at h
  generalize hv : Value.slice none n cap = v at h
  cases h with
  | i n => cases hd
  | b x => cases hd
  | s t => cases hd
  | nil a cap hn => cases hv; exact hn rfl
  | l sz' es' g off cap' V F hne' hsz' hcap hgl hc hrd => cases hv

/-! lists of numbers -/
def intsD (xs : List Int) : Dt := .l (xs.map fun x => [.i x])
theorem Rd.int {w : World} {n : Int} {v : Value} {fp : List Nat} (h : Rd w (.i n) v fp) : v = .int .i64 n ∧ fp = [] := by cases h; exact ⟨rfl, rfl⟩
theorem Rd.bool {w : World} {x : Bool} {v : Value} {fp : List Nat} (h : Rd w (.b x) v fp) : v = .bool x ∧ fp = [] := by cases h; exact ⟨rfl, rfl⟩
theorem Rd.ints {w : World} {xs : List Int} {v : Value} {fp : List Nat} (h : Rd w (intsD xs) v fp) : ∃ a cap, v = .slice a xs.length cap ∧ (xs.length ≤ cap ∨ xs = []) ∧ IntsAt w a xs := by
  obtain ⟨a, cap, rfl⟩ := Rd.slice h
  rw [List.length_map] at h ⊢
  rcases Nat.eq_zero_or_pos xs.length with h0 | h0
  · have : xs = [] := List.eq_nil_of_length_eq_zero h0
    subst this
    exact ⟨a, cap, rfl, .inr rfl, .inl rfl⟩
  · obtain ⟨g, off, rfl, hg, _, hn, hcap, hc⟩ := Rd.at h (by simpa using h0) (sz := 1) (by intro e he; simp at he; obtain ⟨x, _, rfl⟩ := he; rfl)
    refine ⟨_, cap, rfl, .inl hcap, .inr ⟨g, off, rfl, hg, fun j hj => ?_⟩⟩
    obtain ⟨v, fp', hcell, hr, _⟩ := hc j 0 (by simpa using hj) (by simp)
    have hr' : Rd w (.i xs[j]) v fp' := by simpa using hr
    obtain ⟨rfl, _⟩ := hr'.int
    simpa using hcell
theorem Rd.of_ints {w : World} {xs : List Int} {g off cap : Nat} (hne : 0 < xs.length) (hcap : xs.length ≤ cap) (hg : g < w.heap.size) (hc : ∀ j (h : j < xs.length), w.cell? ⟨g, off + j, none⟩ = some (.int .i64 xs[j])) :
    Rd w (intsD xs) (.slice (some ⟨g, off, none⟩) xs.length cap) [g] := by
  have := Rd.l (w := w) 1 (xs.map fun x => [Dt.i x]) g off cap (fun k _ => .int .i64 (xs.getD k 0)) (fun _ _ => []) (by simpa using hne) (by intro e he; simp at he; obtain ⟨x, _, rfl⟩ := he; rfl) (by simpa using hcap) hg
    (fun k j hk hj => by
      have hk' : k < xs.length := by simpa using hk
      have : j = 0 := by omega
      subst this
      rw [getD_get hk']
      simpa using hc k hk')
    (fun k j hk hj => by
      have hk' : k < xs.length := by simpa using hk
      have hj0 : j = 0 := by simp at hj; exact hj
      subst hj0
      rw [getD_get hk']
      simpa using Rd.i (w := w) xs[k])
  have e : (List.range (xs.map fun x => [Dt.i x]).length).flatMap (fun k => (List.range 1).flatMap ((fun _ _ => ([] : List Nat)) k)) = [] := by simp
  rw [e, List.length_map] at this
  exact this
theorem Rd.of_own {E : TypeId} {w : World} {B : Nat} {v : Value} {xs : List Int} (h : Own E w B v xs) : ∃ fp, Rd w (intsD xs) v fp ∧ ∀ g ∈ fp, B ≤ g ∧ v.ownBlock = some g := by
  rcases Nat.eq_zero_or_pos xs.length with h0 | h0
  · have : xs = [] := List.eq_nil_of_length_eq_zero h0
    subst this
    rcases h.2 with ⟨rfl, _⟩ | ⟨g, cap, cur, rfl, _, _, _, _⟩
    · exact ⟨[], .nil _ _ (fun _ => rfl), fun g hg => by cases hg⟩
    · exact ⟨[], .nil _ _ (fun e => by cases e), fun g hg => by cases hg⟩
  · obtain ⟨g, cap, rfl, hB, hg, hcap, hc, _⟩ := h.row h0
    exact ⟨[g], Rd.of_ints h0 hcap hg (fun j hj => by rw [Nat.zero_add]; exact hc j hj), fun r hr => by simp at hr; subst hr; exact ⟨hB, rfl⟩⟩

/-! a variable of a struct type, or of one cell -/
/-- Block B is a variable of type t that holds these cells. -/
def Str (W : World) (B : Nat) (t : TypeId) (vs : Array Value) : Prop := W.heap[B]? = some (.cells vs t (0, 0))
theorem Str.lt {W : World} {B : Nat} {t : TypeId} {vs : Array Value} (h : Str W B t vs) : B < W.heap.size := (Array.getElem?_eq_some_iff.1 h).1
theorem Str.new (W : World) (t : TypeId) (vs : Array Value) : Str (W.alloc (.cells vs t)) W.heap.size t vs := by
  show (W.heap.push _)[W.heap.size]? = _
  simp
theorem Str.cell {W : World} {B : Nat} {t : TypeId} {vs : Array Value} (h : Str W B t vs) (j : Nat) {v : Value} (hv : vs[j]? = some v) : W.cell? ⟨B, j, none⟩ = some v := by
  simp [World.cell?, show W.heap[B]? = _ from h, hv]
theorem Str.frozen {W : World} {B : Nat} {t : TypeId} {vs : Array Value} (h : Str W B t vs) (j : Nat) : W.frozen? ⟨B, j, none⟩ = false := by simp [World.frozen?, show W.heap[B]? = _ from h]
theorem Str.kept {W W' : World} {row : Option Nat} {B : Nat} {t : TypeId} {vs : Array Value} (h : Str W B t vs) (hg : W.grownBy W' row) (hne : some B ≠ row) : Str W' B t vs := (hg.block B h.lt hne).trans h
theorem Str.alloc {W : World} {B : Nat} {t : TypeId} {vs : Array Value} (h : Str W B t vs) (o : Obj) : Str (W.alloc o) B t vs := h.kept (World.grownBy_alloc W o none) (by simp)
theorem Str.set {W : World} {B : Nat} {t : TypeId} {vs : Array Value} (h : Str W B t vs) (j : Nat) (v : Value) : Str (W.setCell ⟨B, j, none⟩ v) B t (vs.setIfInBounds j v) := by
  obtain ⟨hlt, hk⟩ := Array.getElem?_eq_some_iff.1 h
  show (W.heap.modify B _)[B]? = _
  rw [Array.getElem?_eq_getElem (by rw [Array.size_modify]; exact hlt), Array.getElem_modify_self, hk]
  rfl
theorem grownBy_set (W : World) (b j : Nat) (v : Value) : W.grownBy (W.setCell ⟨b, j, none⟩ v) (some b) :=
  ⟨rfl, rfl, rfl, by simp [World.setCell], fun k _ hk => Below.heap_setCell _ _ _ k (fun e => hk (by rw [e]))⟩
theorem Str.other {W : World} {B : Nat} {t : TypeId} {vs : Array Value} (h : Str W B t vs) {B' : Nat} (hne : B ≠ B') (j : Nat) (v : Value) : Str (W.setCell ⟨B', j, none⟩ v) B t vs := h.kept (grownBy_set W B' j v) (by simpa using hne)
theorem Own.set_other {E : TypeId} {W : World} {B : Nat} {v : Value} {xs : List Int} (h : Own E W B v xs) {B' : Nat} (hne : v.ownBlock ≠ some B') (j : Nat) (u : Value) : Own E (W.setCell ⟨B', j, none⟩ u) B v xs := h.kept (grownBy_set W B' j u) (.inr hne)

theorem IntsAt_own {E : TypeId} {w : World} {B n c : Nat} {a : Option Addr} {xs : List Int} (h : Own E w B (.slice a n c) xs) : IntsAt w a xs := by
  obtain ⟨a', c', e, hi, _⟩ := h.ints
  simp only [Value.slice.injEq] at e
  obtain ⟨rfl, _, _⟩ := e
  exact hi

end Go.Proofs.Ytkndndcjchlpdaa
