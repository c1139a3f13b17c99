/- Places of a graph by round and author, and a graph whose vertices are linked by pointers: how it lies in memory, what stays of it when other memory is made or written; no conditions. -/
import Derived.Test.YtejpoeejhmgphaaGv8
import Derived.Test.YtejpoeejhmgphaaRows
import Derived.Test.YtejpoeejhmgphaaApp
namespace Go.Proofs.Ytejpoeejhmgphaa
open Go.RowKit

/-- The number of the place of a round and an author. -/
def plN (r a : Int) : Nat := 1 + (r.toNat * 7 + a.toNat)
/-- Before the place (r, a). -/
def plB (r a : Nat) (v : Vx) : Bool := decide (v.r < r ∨ v.r = r ∧ v.a < a)
def inPl (v : Vx) : Prop := 0 ≤ v.r ∧ v.r ≤ 30 ∧ 0 ≤ v.a ∧ v.a ≤ 6
theorem plN_inj {r a r' a' : Int} (hr : 0 ≤ r) (ha : 0 ≤ a) (ha' : a ≤ 6) (hr2 : 0 ≤ r') (ha2 : 0 ≤ a') (ha2' : a' ≤ 6) (h : plN r a = plN r' a') : r = r' ∧ a = a' := by
  unfold plN at h; omega
theorem plN_bd {r a : Int} (h : r ≤ 30) (ha : a ≤ 6) : 1 ≤ plN r a ∧ plN r a < 218 := by unfold plN; omega
/-- What stands before a place. -/
def outZ (g : List Vx) (r a : Nat) : List Vx := g.filter (plB r a)
def Srt (g : List Vx) : Prop := g.Pairwise fun a b => befB a b = true
theorem outZ_zero {g : List Vx} (h : ∀ v ∈ g, inPl v) : outZ g 0 0 = [] := by
  unfold outZ
  rw [List.filter_eq_nil_iff]
  intro v hv
  have := h v hv
  unfold inPl at this
  unfold plB
  simp; omega
theorem outZ_row {g : List Vx} (h : ∀ v ∈ g, inPl v) (r : Nat) : outZ g r 7 = outZ g (r + 1) 0 := by
  unfold outZ
  refine List.filter_congr fun v hv => ?_
  have := h v hv
  unfold inPl at this
  unfold plB
  rw [Bool.eq_iff_iff, decide_eq_true_iff, decide_eq_true_iff]; omega
theorem outZ_end {g : List Vx} (h : ∀ v ∈ g, inPl v) : outZ g 31 0 = g := by
  unfold outZ
  rw [List.filter_eq_self]
  intro v hv
  have := h v hv
  unfold inPl at this
  unfold plB
  simp; omega
theorem outZ_len (g : List Vx) (r a : Nat) : (outZ g r a).length ≤ g.length := List.length_filter_le _ _
theorem befB_iff {x y : Vx} : befB x y = true ↔ (x.r < y.r ∨ x.r = y.r ∧ x.a < y.a) := by unfold befB; exact decide_eq_true_iff
theorem outZ_step {g : List Vx} (h : Srt g) (r a : Nat) : outZ g r (a + 1) = outZ g r a ++ g.filter (sameRA r a) := by
  unfold outZ
  induction g with
  | nil => rfl
  | cons x g ih =>
    have hx := (List.pairwise_cons.1 h).1
    have ih := ih (List.pairwise_cons.1 h).2
    by_cases hp : plB r a x = true
    · have h1 : plB r (a + 1) x = true := by unfold plB at hp ⊢; simp at hp ⊢; omega
      have h2 : sameRA r a x = false := by unfold plB at hp; unfold sameRA; simp at hp ⊢; omega
      rw [List.filter_cons, if_pos h1, List.filter_cons, if_pos hp, List.filter_cons (p := sameRA r a), h2, ih]; rfl
    · have hno : g.filter (plB r a) = [] := by
        rw [List.filter_eq_nil_iff]
        intro v hv
        have hb := befB_iff.1 (hx v hv)
        unfold plB at hp ⊢
        simp at hp ⊢
        omega
      rw [hno, List.nil_append] at ih
      rw [List.filter_cons, List.filter_cons (p := plB r a), if_neg hp, hno, List.nil_append, List.filter_cons (p := sameRA r a), ih]
      have e : plB r (a + 1) x = sameRA r a x := by
        unfold plB sameRA at *
        simp at hp
        rw [Bool.eq_iff_iff, decide_eq_true_iff, decide_eq_true_iff]
        omega
      rw [e]
theorem srt_uni {g : List Vx} (h : Srt g) {x y : Vx} (hx : x ∈ g) (hy : y ∈ g) (hr : x.r = y.r) (ha : x.a = y.a) : x = y := by
  induction g with
  | nil => cases hx
  | cons z g ih =>
    have hz := (List.pairwise_cons.1 h).1
    rcases List.mem_cons.1 hx with rfl | hx'
    · rcases List.mem_cons.1 hy with rfl | hy'
      · rfl
      · have := befB_iff.1 (hz y hy'); omega
    · rcases List.mem_cons.1 hy with rfl | hy'
      · have := befB_iff.1 (hz x hx'); omega
      · exact ih (List.pairwise_cons.1 h).2 hx' hy'
theorem filter_uni {g : List Vx} (h : Srt g) {x : Vx} (hx : x ∈ g) : g.filter (sameRA x.r x.a) = [x] := by
  induction g with
  | nil => cases hx
  | cons z g ih =>
    have hz := (List.pairwise_cons.1 h).1
    have hsame : ∀ v, sameRA x.r x.a v = true ↔ v.r = x.r ∧ v.a = x.a := fun v => by unfold sameRA; exact decide_eq_true_iff
    rcases List.mem_cons.1 hx with rfl | hx'
    · rw [List.filter_cons, if_pos ((hsame _).2 ⟨rfl, rfl⟩)]
      congr 1
      rw [List.filter_eq_nil_iff]
      intro v hv e
      have := (hsame v).1 e
      have := befB_iff.1 (hz v hv); omega
    · rw [List.filter_cons, if_neg, ih (List.pairwise_cons.1 h).2 hx']
      intro e
      have := (hsame z).1 e
      have := befB_iff.1 (hz x hx'); omega
theorem filter_none {g : List Vx} {r a : Int} (h : ∀ v ∈ g, ¬ (v.r = r ∧ v.a = a)) : g.filter (sameRA r a) = [] := by
  rw [List.filter_eq_nil_iff]
  intro v hv e
  exact h v hv (of_decide_eq_true e)
theorem outZ_yes {g : List Vx} (h : Srt g) {r a : Nat} {x : Vx} (hx : x ∈ g) (hr : x.r = r) (ha : x.a = a) : outZ g r (a + 1) = outZ g r a ++ [x] := by
  rw [outZ_step h, ← hr, ← ha, filter_uni h hx]
theorem outZ_no {g : List Vx} (h : Srt g) {r a : Nat} (hn : ∀ v ∈ g, ¬ (v.r = r ∧ v.a = a)) : outZ g r (a + 1) = outZ g r a := by
  rw [outZ_step h, filter_none hn, List.append_nil]

/-! finding by a place -/
theorem findZ_mem {g : List Vx} (h : Srt g) {x : Vx} (hx : x ∈ g) : ∃ k : Nat, ∃ hk : k < g.length, findZ g x.r x.a = k ∧ g[k] = x := by
  rcases findZ_cases g x.r x.a with ⟨_, hno⟩ | ⟨k, hk, e, hs, _⟩
  · have := hno x hx; unfold sameRA at this; simp at this
  · refine ⟨k, hk, e, srt_uni h (List.getElem_mem hk) hx ?_ ?_⟩ <;> (unfold sameRA at hs; simp at hs; omega)
theorem findZ_none {g : List Vx} {r a : Int} (h : ∀ v ∈ g, ¬ (v.r = r ∧ v.a = a)) : findZ g r a = -1 := by
  rcases findZ_cases g r a with ⟨e, _⟩ | ⟨k, hk, _, hs, _⟩
  · exact e
  · exact absurd (of_decide_eq_true hs) (h _ (List.getElem_mem hk))

/-! adding by a place -/
theorem bef_total {x y : Vx} (h : ¬ (x.r = y.r ∧ x.a = y.a)) (hb : befB x y = false) : befB y x = true := by
  unfold befB at hb; simp at hb
  refine befB_iff.2 ?_; omega
theorem ins_mem {g : List Vx} {x y : Vx} : y ∈ insG g x ↔ y ∈ g ∨ y = x := by
  unfold insG
  rw [List.mem_append, List.mem_append, List.mem_singleton]
  constructor
  · rintro ((h | h) | h)
    · exact .inl (List.mem_of_mem_take h)
    · exact .inr h
    · exact .inl (List.mem_of_mem_drop h)
  · rintro (h | h)
    · rw [← List.take_append_drop (insN g x) g, List.mem_append] at h
      rcases h with h | h
      · exact .inl (.inl h)
      · exact .inr h
    · exact .inl (.inr h)
theorem ins_srt {g : List Vx} {x : Vx} (h : Srt g) (hn : ∀ v ∈ g, ¬ (v.r = x.r ∧ v.a = x.a)) : Srt (insG g x) := by
  unfold Srt insG insN at *
  induction g with
  | nil => simp
  | cons z g ih =>
    obtain ⟨hz, hg⟩ := List.pairwise_cons.1 h
    rw [List.findIdx_cons]
    by_cases hb : befB z x = true
    · simp only [hb, Bool.not_true, cond_false, List.take_succ_cons, List.drop_succ_cons, List.cons_append]
      refine List.pairwise_cons.2 ⟨fun v hv => ?_, ih hg (fun v hv => hn v (List.mem_cons_of_mem _ hv))⟩
      rcases (ins_mem (g := g) (x := x)).1 hv with hv | rfl
      · exact hz v hv
      · exact hb
    · have hb' : befB z x = false := by simpa using hb
      simp only [hb', Bool.not_false, cond_true, List.take_zero, List.drop_zero, List.nil_append, List.singleton_append]
      have hxz := bef_total (hn z (by simp)) hb'
      refine List.pairwise_cons.2 ⟨fun v hv => ?_, h⟩
      rcases List.mem_cons.1 hv with rfl | hv
      · exact hxz
      · exact bef_trans hxz (hz v hv)
theorem ins_last {g : List Vx} {x : Vx} (h : ∀ v ∈ g, befB v x = true) : insG g x = g ++ [x] := by
  have : insN g x = g.length := by
    unfold insN
    exact List.findIdx_eq_length.2 fun y hy => by simp [h y hy]
  unfold insG; rw [this]; simp
theorem addG_lenP (g : List Vx) (x : Vx) : (addG g x).length ≤ g.length + 1 := by
  unfold addG
  split
  · unfold insG
    rw [List.length_append, List.length_append, List.length_take, List.length_drop]
    simp; omega
  · omega
theorem addG_memP {g : List Vx} {x y : Vx} (h : y ∈ addG g x) : y ∈ g ∨ y = x := by
  unfold addG at h
  split at h
  · exact ins_mem.1 h
  · exact .inl h
def arrP (n : Nat) (f : Nat → Value) : Array Value := ((List.range n).map f).toArray
theorem arrP_size (n : Nat) (f : Nat → Value) : (arrP n f).size = n := by simp [arrP]
theorem arrP_get {n : Nat} {f : Nat → Value} {j : Nat} (h : j < n) : (arrP n f)[j]? = some (f j) := by simp [arrP, h]
theorem arrP_set {n : Nat} {f : Nat → Value} {k : Nat} {v : Value} : (arrP n f).setIfInBounds k v = arrP n fun i => if i = k then v else f i := by
  apply Array.ext
  · simp [arrP]
  · intro j h1 h2
    have hj : j < n := by simpa [arrP] using h2
    rw [Array.getElem_setIfInBounds (by simpa [arrP] using hj)]
    by_cases e : k = j
    · subst e; simp [arrP]
    · have e' : ¬ j = k := fun h => e h.symm
      simp [arrP, e, e']

def ptrV (q : Nat) : Value := .pointer (some ⟨q, 0, none⟩)
theorem ptrV_one (q : Nat) : (ptrV q).oneCell' = true := rfl
theorem ptrV_none (q : Nat) : ptrV q ≠ .pointer none := by intro h; cases h
/-- A list of pointers of the call's own. -/
def OwnP (E : TypeId) (w : World) (B : Nat) (v : Value) (qs : List Nat) : Prop := w.ownsRow B E 1 v qs.length (qs.map ptrV)
section
variable {E : TypeId} {w w' : World} {B : Nat} {v : Value} {qs : List Nat}
theorem OwnP.nil (E : TypeId) (w : World) (B : Nat) : OwnP E w B (.slice none 0 0) [] := World.ownsRow_nil _ _ _ _
theorem OwnP.kept {row : Option Nat} (h : OwnP E w B v qs) (hg : w.grownBy w' row) (hne : v.ownBlock = none ∨ v.ownBlock ≠ row) : OwnP E w' B v qs := World.ownsRow.kept h hg hne
theorem OwnP.lt (h : OwnP E w B v qs) : ∀ k, v.ownBlock = some k → B ≤ k ∧ k < w.heap.size := World.ownsRow.lt h
theorem OwnP.below (h : OwnP E w B v qs) (hg : Below w.heap.size w w') : OwnP E w' B v qs := h.kept (below_grown hg) (by cases hv : v.ownBlock <;> simp)
theorem OwnP.slice (h : OwnP E w B v qs) : ∃ a cap, v = .slice a qs.length cap ∧ qs.length ≤ maxLen := by
  rcases h.2 with ⟨rfl, h0⟩ | ⟨g, cap, cur, rfl, hb, hg, hn, hm, hs, ht⟩
  · exact ⟨none, 0, by rw [h0], by rw [h0]; simp⟩
  · exact ⟨_, cap, rfl, by omega⟩
theorem OwnP.cell (h : OwnP E w B v qs) (j : Nat) (hj : j < qs.length) : ∃ g cap, v = .slice (some ⟨g, 0, none⟩) qs.length cap ∧ B ≤ g ∧ g < w.heap.size ∧ w.cell? ⟨g, j, none⟩ = some (ptrV qs[j]) := by
  rcases h.2 with ⟨rfl, h0⟩ | ⟨g, cap, cur, rfl, hb, hg, hn, hm, hs, ht⟩
  · omega
  · refine ⟨g, cap, rfl, hb, (Array.getElem?_eq_some_iff.1 hg).1, ?_⟩
    have hc := World.ownsRow.cells (w := w) (base := B) (e := E) (size := 1) (v := .slice (some ⟨g, 0, none⟩) qs.length cap) (n := qs.length) (xs := qs.map ptrV) h (g := g) rfl j (ptrV qs[j]) (by simp [hj])
    rwa [addr_add] at hc
end

theorem cells_ptr (w : World) (E : TypeId) (q : Nat) : ∀ j u, [ptrV q][j]? = some u → (w.alloc (.cells #[ptrV q] E)).cell? ((⟨w.heap.size, 0, none⟩ : Addr).add j) = some u := by
  intro j u hu
  match j, hu with
  | 0, hu =>
    simp at hu; subst hu
    rw [addr_add, World.cell?_alloc_at _ _ _ _ rfl]; rfl

/-- A vertex with pointers to its parents: its numbers and list as they were at first, the pointers of the call's own. -/
structure Nd (w0 w : World) (hi G : Nat) (h : Nat → Value) (q : Nat) (y : Vx) : Prop where
  lo : w0.heap.size ≤ q
  lt : q < hi
  ne : q ≠ G
  ex : ∃ pa pc pv qs, Str w q 90 #[.int .i64 y.r, .int .i64 y.a, .slice pa y.ps.length pc, .int .i64 y.d, pv] ∧ IntsAt w0 pa y.ps ∧ SrcAt w0 pa pc y.ps ∧ OwnP 64 w w0.heap.size pv qs ∧
    (∀ b, pv.ownBlock = some b → b ≠ G ∧ b < hi) ∧ qs.length = y.ps.length ∧ ∀ j (hj : j < qs.length) (hj' : j < y.ps.length), h (plN (y.r - 1) y.ps[j]) = ptrV qs[j]
theorem Nd.kept {w0 w w' : World} {hi G q : Nat} {h : Nat → Value} {y : Vx} {row : Option Nat} (n : Nd w0 w hi G h q y) (hg : w.grownBy w' row) (hrow : ∀ m, row = some m → hi ≤ m ∨ m = G) : Nd w0 w' hi G h q y := by
  obtain ⟨pa, pc, pv, qs, s, i, c, o, ob, l, p⟩ := n.ex
  refine ⟨n.lo, n.lt, n.ne, pa, pc, pv, qs, s.kept hg fun e => ?_, i, c, o.kept hg ?_, ob, l, p⟩
  · have := n.lt; have := n.ne; rcases hrow q e.symm with h | h <;> omega
  · cases hv : pv.ownBlock with
    | none => exact .inl rfl
    | some b =>
      refine .inr fun e => ?_
      have := ob b hv
      rcases hrow b e.symm with h | h <;> omega
/-- A graph: the places of its block point to its vertices. -/
structure Lk (w0 w : World) (hi G : Nat) (mv : Value) (h : Nat → Value) (g : List Vx) : Prop where
  lo : w0.heap.size ≤ G
  lt : G < hi
  le : hi ≤ w.heap.size
  str : Str w G 69 (arrP 218 h)
  mem : h 0 = mv
  has : ∀ y ∈ g, ∃ q, h (plN y.r y.a) = ptrV q ∧ Nd w0 w hi G h q y
  non : ∀ r a : Int, 0 ≤ r → r ≤ 30 → 0 ≤ a → a ≤ 6 → (∀ y ∈ g, ¬ (y.r = r ∧ y.a = a)) → h (plN r a) = .pointer none
theorem Lk.kept {w0 w w' : World} {hi G : Nat} {mv : Value} {h : Nat → Value} {g : List Vx} {row : Option Nat} (l : Lk w0 w hi G mv h g) (hg : w.grownBy w' row) (hrow : ∀ m, row = some m → hi ≤ m) : Lk w0 w' hi G mv h g := by
  refine ⟨l.lo, l.lt, Nat.le_trans l.le hg.size, l.str.kept hg fun e => ?_, l.mem, fun y hy => ?_, l.non⟩
  · have := hrow G e.symm; have := l.lt; omega
  · obtain ⟨q, e, n⟩ := l.has y hy
    exact ⟨q, e, n.kept hg fun m e => .inl (hrow m e)⟩
theorem Lk.under {w0 w w' : World} {hi G : Nat} {mv : Value} {h : Nat → Value} {g : List Vx} (l : Lk w0 w hi G mv h g) (hb : Below w.heap.size w w') : Lk w0 w' hi G mv h g := l.kept (below_grown hb) fun _ e => by cases e
theorem Lk.cell {w0 w : World} {hi G : Nat} {mv : Value} {h : Nat → Value} {g : List Vx} (l : Lk w0 w hi G mv h g) {k : Nat} (hk : k < 218) : w.cell? ⟨G, k, none⟩ = some (h k) := l.str.cell k (arrP_get hk)
theorem Lk.same {w0 w : World} {hi G : Nat} {mv : Value} {h : Nat → Value} {g g' : List Vx} (l : Lk w0 w hi G mv h g) (hs : ∀ y, y ∈ g' ↔ y ∈ g) : Lk w0 w hi G mv h g' :=
  ⟨l.lo, l.lt, l.le, l.str, l.mem, fun y hy => l.has y ((hs y).1 hy), fun r a h1 h2 h3 h4 hn => l.non r a h1 h2 h3 h4 fun y hy => hn y ((hs y).2 hy)⟩
/-- An empty graph. -/
theorem Lk.new {w0 w' : World} {G hi : Nat} {mv : Value} (hs : Str w' G 69 (arrP 218 fun i => if i = 0 then mv else .pointer none)) (hG : w0.heap.size ≤ G) (hhi : G < hi) (hle : hi ≤ w'.heap.size) :
    Lk w0 w' hi G mv (fun i => if i = 0 then mv else .pointer none) [] :=
  ⟨hG, hhi, hle, hs, by simp, (fun y hy => by cases hy), fun r a h1 h2 h3 h4 _ => by rw [if_neg]; unfold plN; omega⟩
/-- A vertex is put into its place. -/
theorem Lk.put {w0 w w1 : World} {hi G q : Nat} {mv : Value} {h : Nat → Value} {g g' : List Vx} {x : Vx} (l : Lk w0 w hi G mv h g) (hg : w.grownBy w1 none) (hx : inPl x) (hno : ∀ y ∈ g, ¬ (y.r = x.r ∧ y.a = x.a))
    (hq : hi ≤ q) {hi2 : Nat} (hq2 : q < hi2) (hh : hi ≤ hi2) (hz : hi2 ≤ w1.heap.size) {pa : Option Addr} {pc : Nat} {pv : Value} {qs : List Nat} (hs : Str w1 q 90 #[.int .i64 x.r, .int .i64 x.a, .slice pa x.ps.length pc, .int .i64 x.d, pv]) (hi' : IntsAt w0 pa x.ps) (hsr : SrcAt w0 pa pc x.ps)
    (ho : OwnP 64 w1 w0.heap.size pv qs) (hob : ∀ b, pv.ownBlock = some b → b ≠ G ∧ b < hi2) (hl : qs.length = x.ps.length) (hp : ∀ j (hj : j < qs.length) (hj' : j < x.ps.length), h (plN (x.r - 1) x.ps[j]) = ptrV qs[j]) (hg' : ∀ y, y ∈ g' ↔ y ∈ g ∨ y = x) :
    Lk w0 (w1.setCell ⟨G, plN x.r x.a, none⟩ (ptrV q)) hi2 G mv (fun i => if i = plN x.r x.a then ptrV q else h i) g' := by
  have hb := plN_bd hx.2.1 hx.2.2.2
  have hnil : h (plN x.r x.a) = .pointer none := l.non x.r x.a hx.1 hx.2.1 hx.2.2.1 hx.2.2.2 hno
  have hsafe : ∀ k p, h k = ptrV p → k ≠ plN x.r x.a := fun k p e e2 => by rw [e2, hnil] at e; cases e
  have hgs := grownBy_set w1 G (plN x.r x.a) (ptrV q)
  have hgG : q ≠ G := by have := l.lt; omega
  refine ⟨l.lo, Nat.lt_of_lt_of_le l.lt hh, by rw [World.size_setCell]; exact hz, ?_, ?_, fun y hy => ?_, fun r a h1 h2 h3 h4 hn => ?_⟩
  · have := (l.str.kept hg (by simp)).set (plN x.r x.a) (ptrV q)
    rwa [arrP_set] at this
  · rw [if_neg (by omega)]; exact l.mem
  · rcases (hg' y).1 hy with hy | rfl
    · obtain ⟨p, e, n⟩ := l.has y hy
      have n1 := (n.kept hg fun m e => by cases e).kept hgs fun m e => by cases e; exact .inr rfl
      refine ⟨p, by rw [if_neg (hsafe _ _ e)]; exact e, n1.lo, Nat.lt_of_lt_of_le n1.lt hh, n1.ne, ?_⟩
      obtain ⟨pa', pc', pv', qs', s, i, c, o, ob, l', p'⟩ := n1.ex
      refine ⟨pa', pc', pv', qs', s, i, c, o, fun b hb => ⟨(ob b hb).1, Nat.lt_of_lt_of_le (ob b hb).2 hh⟩, l', fun j hj hj' => ?_⟩
      have := p' j hj hj'
      rw [if_neg (hsafe _ _ this)]; exact this
    · refine ⟨q, by simp, Nat.le_trans l.lo (Nat.le_trans (Nat.le_of_lt l.lt) hq), hq2, hgG, pa, pc, pv, qs, hs.kept hgs (by simpa using hgG), hi', hsr, ho.kept hgs ?_, hob, hl, fun j hj hj' => ?_⟩
      · cases hv : pv.ownBlock with
        | none => exact .inl rfl
        | some b => refine .inr fun e => (hob b hv).1 ?_; cases e; rfl
      · have := hp j hj hj'
        rw [if_neg (hsafe _ _ this)]; exact this
  · skip
    rw [if_neg, l.non r a h1 h2 h3 h4 fun y hy => hn y ((hg' y).2 (.inl hy))]
    intro e
    obtain ⟨e1, e2⟩ := plN_inj h1 h3 h4 hx.1 hx.2.2.1 hx.2.2.2 e
    exact hn x ((hg' x).2 (.inr rfl)) ⟨e1.symm, e2.symm⟩
end Go.Proofs.Ytejpoeejhmgphaa
