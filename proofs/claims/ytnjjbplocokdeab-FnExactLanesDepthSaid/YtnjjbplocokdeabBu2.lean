/- Texts that the laws of this folder share, one behind another; no conditions. -/
import Derived.Test.YtnjjbplocokdeabRows
import Derived.Test.YtnjjbplocokdeabBu1
import Derived.Test.YtnjjbplocokdeabBu0
import Derived.Deep.QuietTactic
import Derived.BigQuiet
import Derived.Maps.AppendAt

/- The program's lanes in memory: each a block of its balances, its fees and its indexes, in a row of their own; what stays of them when other memory is made or written; no conditions. -/
namespace Go.Proofs.Ytnjjbplocokdeab
open Go.RowKit

/-- The cells of a lane. -/
def c8 (l : List Int) (n : Int) (v : Value) : Array Value := #[.int .i64 (gd l 0), .int .i64 (gd l 1), .int .i64 (gd l 2), .int .i64 (gd l 3), .int .i64 (gd l 4), .int .i64 (gd l 5), .int .i64 n, v]
theorem c8_at (l : List Int) (n : Int) (v : Value) {i : Nat} (h : i < 6) : (c8 l n v)[i]? = some (.int .i64 (gd l i)) := by
  match i, h with
  | 0, _ => rfl
  | 1, _ => rfl
  | 2, _ => rfl
  | 3, _ => rfl
  | 4, _ => rfl
  | 5, _ => rfl
theorem c8_set {l : List Int} (h : l.length = 6) (n : Int) (v : Value) {i : Nat} (hi : i < 6) (z : Int) : (c8 l n v).setIfInBounds i (.int .i64 z) = c8 (l.set i z) n v := by
  obtain ⟨a, b, c, d, e, f, rfl⟩ := six h
  match i, hi with
  | 0, _ => rfl
  | 1, _ => rfl
  | 2, _ => rfl
  | 3, _ => rfl
  | 4, _ => rfl
  | 5, _ => rfl
theorem c8_fees (l : List Int) (n z : Int) (v : Value) : (c8 l n v).setIfInBounds 6 (.int .i64 z) = c8 l z v := rfl
theorem c8_idx (l : List Int) (n : Int) (v u : Value) : (c8 l n v).setIfInBounds 7 u = c8 l n u := rfl
/-- A lane: its balances, its fees, its indexes, its block, its list of indexes. -/
structure La where
  l : List Int
  n : Int
  os : List Nat
  b : Nat
  v : Value
/-- Lanes that lie in blocks of their own, from B on. -/
structure LnM (T E : TypeId) (w : World) (B : Nat) (L : List La) : Prop where
  str : ∀ x ∈ L, B ≤ x.b ∧ Str w x.b T (c8 x.l x.n x.v)
  row : ∀ x ∈ L, Own E w B x.v (zs x.os)
  nd : L.Pairwise fun x y => x.b ≠ y.b ∧ Apart x.v y.v
section
variable {T E : TypeId} {w w' : World} {B : Nat} {L : List La}
theorem LnM.nil (T E : TypeId) (w : World) (B : Nat) : LnM T E w B [] := ⟨fun _ h => (by cases h), fun _ h => (by cases h), .nil⟩
theorem LnM.same (h : LnM T E w B L) (h1 : ∀ x ∈ L, w'.heap[x.b]? = w.heap[x.b]?) (h2 : ∀ x ∈ L, ∀ g, x.v.ownBlock = some g → w'.heap[g]? = w.heap[g]?) : LnM T E w' B L :=
  ⟨fun x hx => ⟨(h.str x hx).1, (h1 x hx).trans (h.str x hx).2⟩, fun x hx => (h.row x hx).same (h2 x hx), h.nd⟩
theorem LnM.below (h : LnM T E w B L) (hb : Below w.heap.size w w') : LnM T E w' B L :=
  h.same (fun x hx => hb.block _ (h.str x hx).2.lt) fun x hx g e => hb.block _ ((h.row x hx).lt g e).2
theorem LnM.grown {row : Option Nat} (h : LnM T E w B L) (hg : w.grownBy w' row) (h1 : ∀ x ∈ L, row ≠ some x.b) (h2 : ∀ x ∈ L, ∀ g, x.v.ownBlock = some g → row ≠ some g) : LnM T E w' B L :=
  h.same (fun x hx => hg.block _ (h.str x hx).2.lt fun e => h1 x hx e.symm) fun x hx g e => hg.block _ ((h.row x hx).lt g e).2 fun e' => h2 x hx g e e'.symm
/-- A block of another type is none of theirs. -/
theorem LnM.off (h : LnM T E w B L) {g : Nat} {cur : Array Value} {t : TypeId} {p : Nat × Nat} (hg : w.heap[g]? = some (.cells cur t p)) (h1 : t ≠ T) (h2 : t ≠ E) : (∀ x ∈ L, x.b ≠ g) ∧ ∀ x ∈ L, x.v.ownBlock ≠ some g := by
  refine ⟨fun x hx e => ?_, fun x hx e => ?_⟩
  · have := (h.str x hx).2
    unfold Str at this
    rw [e, hg] at this
    injection this with this
    injection this with _ h3
    exact h1 h3
  · obtain ⟨cur', hc⟩ := (h.row x hx).typ e
    rw [hg] at hc
    injection hc with hc
    injection hc with _ h3
    exact h2 h3
/-- The block of a lane is no row of indexes. -/
theorem LnM.cross (h : LnM T E w B L) (hT : T ≠ E) {x y : La} (hx : x ∈ L) (hy : y ∈ L) : y.v.ownBlock ≠ some x.b := by
  intro e
  obtain ⟨cur', hc⟩ := (h.row y hy).typ e
  have := (h.str x hx).2
  unfold Str at this
  rw [hc] at this
  injection this with this
  injection this with _ h3
  exact hT h3.symm
theorem LnM.nd_at (h : LnM T E w B L) {p q : Nat} (hp : p < L.length) (hq : q < L.length) (hne : p ≠ q) : L[p].b ≠ L[q].b ∧ Apart L[p].v L[q].v := by
  rcases Nat.lt_or_gt_of_ne hne with h1 | h1
  · exact List.pairwise_iff_getElem.1 h.nd p q hp hq h1
  · obtain ⟨a, b⟩ := List.pairwise_iff_getElem.1 h.nd q p hq hp h1
    exact ⟨a.symm, b.symm⟩
/-- A new lane. -/
theorem LnM.push (h : LnM T E w B L) {l : List Int} {n : Int} {b : Nat} (hs : Str w b T (c8 l n (.slice none 0 0))) (hB : B ≤ b) (hb : ∀ x ∈ L, x.b ≠ b) : LnM T E w B (L ++ [⟨l, n, [], b, .slice none 0 0⟩]) := by
  refine ⟨fun x hx => ?_, fun x hx => ?_, ?_⟩
  · rcases List.mem_append.1 hx with hx | hx
    · exact h.str x hx
    · rw [List.mem_singleton] at hx; subst hx; exact ⟨hB, hs⟩
  · rcases List.mem_append.1 hx with hx | hx
    · exact h.row x hx
    · rw [List.mem_singleton] at hx; subst hx; exact Own.nil _ _ _
  · rw [List.pairwise_append]
    refine ⟨h.nd, by simp, fun x hx y hy => ?_⟩
    rw [List.mem_singleton] at hy; subst hy
    exact ⟨hb x hx, fun g _ e => by cases e⟩
/-- One lane changes, all others stay. -/
theorem LnM.set (h : LnM T E w B L) {p : Nat} (hp : p < L.length) {y : La} (hy : y.b = L[p].b) (hs : Str w' y.b T (c8 y.l y.n y.v)) (hr : Own E w' B y.v (zs y.os)) (hv : ∀ g, y.v.ownBlock = some g → L[p].v.ownBlock = some g ∨ w.heap.size ≤ g)
    (h1 : ∀ b, b < w.heap.size → b ≠ L[p].b → L[p].v.ownBlock ≠ some b → w'.heap[b]? = w.heap[b]?) (hT : T ≠ E) : LnM T E w' B (L.set p y) := by
  have hin := List.getElem_mem hp
  have hso : ∀ x ∈ L, x.b ≠ L[p].b → Apart x.v L[p].v → (B ≤ x.b ∧ Str w' x.b T (c8 x.l x.n x.v)) ∧ Own E w' B x.v (zs x.os) := fun x hx e1 e2 =>
    ⟨⟨(h.str x hx).1, (h1 _ (h.str x hx).2.lt e1 (h.cross hT hx hin)).trans (h.str x hx).2⟩, (h.row x hx).same fun g e => h1 g ((h.row x hx).lt g e).2 (fun e' => h.cross hT hin hx (by rw [e, e'])) fun e' => e2 g e e'⟩
  have hmem : ∀ x ∈ L.set p y, x = y ∨ (x ∈ L ∧ x.b ≠ L[p].b ∧ Apart x.v L[p].v) := fun x hx => by
    obtain ⟨q, hq, rfl⟩ := List.mem_iff_getElem.1 hx
    rw [List.length_set] at hq
    by_cases e : p = q
    · subst e; exact .inl (List.getElem_set_self _)
    · rw [List.getElem_set_ne e]
      exact .inr ⟨List.getElem_mem hq, (h.nd_at hq hp (Ne.symm e)).1, (h.nd_at hq hp (Ne.symm e)).2⟩
  have hap : ∀ x ∈ L, x.b ≠ L[p].b → Apart x.v L[p].v → x.b ≠ y.b ∧ Apart x.v y.v := fun x hx e1 e2 => by
    refine ⟨by rw [hy]; exact e1, fun g hg hg' => ?_⟩
    rcases hv g hg' with h' | h'
    · exact e2 g hg h'
    · have := ((h.row x hx).lt g hg).2; omega
  refine ⟨fun x hx => ?_, fun x hx => ?_, ?_⟩
  · rcases hmem x hx with rfl | ⟨a, b, c⟩
    · exact ⟨by rw [hy]; exact (h.str _ hin).1, hs⟩
    · exact (hso x a b c).1
  · rcases hmem x hx with rfl | ⟨a, b, c⟩
    · exact hr
    · exact (hso x a b c).2
  · refine List.pairwise_iff_getElem.2 fun i j hi hj hij => ?_
    rw [List.length_set] at hi hj
    by_cases ei : p = i
    · subst ei
      rw [List.getElem_set_self, List.getElem_set_ne (by omega)]
      obtain ⟨a, b⟩ := h.nd_at hj hp (by omega)
      have := hap _ (List.getElem_mem hj) a b
      exact ⟨this.1.symm, this.2.symm⟩
    · by_cases ej : p = j
      · subst ej
        rw [List.getElem_set_self, List.getElem_set_ne (by omega)]
        obtain ⟨a, b⟩ := h.nd_at hi hp (by omega)
        exact hap _ (List.getElem_mem hi) a b
      · rw [List.getElem_set_ne ei, List.getElem_set_ne ej]
        exact h.nd_at hi hj (by omega)
end
/-- The lists of indexes that the lanes hold, as a list of rows of its own. -/
theorem ownL_of {T E Es : TypeId} {w : World} {B : Nat} {L : List La} {u : Value} (h : LnM T E w B L) (ho : OwnC Es w B u (L.map La.v)) (hE : Es ≠ E) : OwnL Es E w B u (L.map La.os) := by
  refine ⟨fun e he => ?_, L.map La.v, ?_, fun k j hk hj => ?_, fun p q c d hp hq hne => ?_, fun p c hp => ?_, fun p c g hp hg => ?_, fun g e => (ho.lt g e).2⟩
  · obtain ⟨x, _, rfl⟩ := List.mem_map.1 he; rfl
  · have h1 : ((L.map La.os).map lnF).length = (L.map La.v).length := by simp
    rw [h1]; exact ho
  · have hk' : k < L.length := by simpa using hk
    have hj0 : j = 0 := by simp [lnF] at hj; omega
    subst hj0
    refine ⟨L[k].v, by simp [hk'], ?_⟩
    have := h.row _ (List.getElem_mem hk')
    simpa [lnF, FdOk] using this
  · obtain ⟨hp1, e1⟩ := List.getElem?_eq_some_iff.1 hp
    obtain ⟨hq1, e2⟩ := List.getElem?_eq_some_iff.1 hq
    rw [List.length_map] at hp1 hq1
    rw [List.getElem_map] at e1 e2
    subst e1; subst e2
    exact (h.nd_at hp1 hq1 hne).2
  · obtain ⟨hp1, e1⟩ := List.getElem?_eq_some_iff.1 hp
    rw [List.length_map] at hp1
    rw [List.getElem_map] at e1
    subst e1
    intro g hg hg'
    obtain ⟨c1, h1⟩ := ho.typ hg'
    obtain ⟨c2, h2⟩ := (h.row _ (List.getElem_mem hp1)).typ hg
    rw [h1] at h2
    injection h2 with h2
    injection h2 with _ h3
    exact hE h3
  · obtain ⟨hp1, e1⟩ := List.getElem?_eq_some_iff.1 hp
    rw [List.length_map] at hp1
    rw [List.getElem_map] at e1
    subst e1
    exact (h.row _ (List.getElem_mem hp1)).lt g hg

end Go.Proofs.Ytnjjbplocokdeab

/- The program's groups of accounts, each by a walk of its text; conditions: the accounts exist, the transactions are valid, and their list is shorter than 2^40. -/
namespace Go.Proofs.Ytnjjbplocokdeab
open Go.RowKit

theorem c6_set {l : List Int} (h : l.length = 6) {i : Nat} (hi : i < 6) (z : Int) : (c6 l).setIfInBounds i (.int .i64 z) = c6 (l.set i z) := by
  obtain ⟨a, b, c, d, e, f, rfl⟩ := six h
  match i, hi with
  | 0, _ => rfl
  | 1, _ => rfl
  | 2, _ => rfl
  | 3, _ => rfl
  | 4, _ => rfl
  | 5, _ => rfl
/-- The groups when the accounts below k have been looked at. -/
def cnK (G : List Int) (a b k : Nat) : List Int := (List.range 6).map fun i => if i < k ∧ gd G i = gd G a then gd G b else gd G i
theorem cnK_len (G : List Int) (a b k : Nat) : (cnK G a b k).length = 6 := by simp [cnK]
theorem cnK_at {G : List Int} {a b k i : Nat} (hi : i < 6) : gd (cnK G a b k) i = if i < k ∧ gd G i = gd G a then gd G b else gd G i := by
  rw [gd_at (by rw [cnK_len]; exact hi)]; simp [cnK]
theorem gd_ext {l l' : List Int} (h : l.length = 6) (h' : l'.length = 6) (e : ∀ i, i < 6 → gd l i = gd l' i) : l = l' := by
  refine List.ext_getElem (by omega) fun i h1 h2 => ?_
  have := e i (by omega)
  rwa [gd_at h1, gd_at h2] at this
theorem cnK_zero {G : List Int} (h : G.length = 6) (a b : Nat) : cnK G a b 0 = G := gd_ext (cnK_len _ _ _ _) h fun i hi => by rw [cnK_at hi, if_neg (by omega)]
theorem cnK_all {G : List Int} (h : G.length = 6) (a b : Nat) : cnK G a b 6 = cnL G a b := gd_ext (cnK_len _ _ _ _) (by rw [cn_len]; exact h) fun i hi => by
  rw [cnK_at hi, cn_at (by omega)]
  by_cases e : gd G i = gd G a
  · rw [if_pos ⟨hi, e⟩, if_pos e]
  · rw [if_neg (fun h => e h.2), if_neg e]
theorem set_gd {l : List Int} {k : Nat} (hk : k < l.length) (z : Int) (i : Nat) : gd (l.set k z) i = if i = k then z else gd l i := by
  unfold gd; exact set_getD hk i
theorem cnK_yes {G : List Int} {a b k : Nat} (hk : k < 6) (e : gd G k = gd G a) : (cnK G a b k).set k (gd G b) = cnK G a b (k + 1) := gd_ext (by rw [List.length_set, cnK_len]) (cnK_len _ _ _ _) fun i hi => by
  rw [set_gd (by rw [cnK_len]; exact hk), cnK_at hi, cnK_at hi]
  by_cases h : i = k
  · subst h; rw [if_pos rfl, if_pos ⟨by omega, e⟩]
  · rw [if_neg h]
    by_cases h2 : i < k ∧ gd G i = gd G a
    · rw [if_pos h2, if_pos ⟨by omega, h2.2⟩]
    · rw [if_neg h2, if_neg (fun h3 => h2 ⟨by omega, h3.2⟩)]
theorem cnK_no {G : List Int} {a b k : Nat} (e : gd G k ≠ gd G a) : cnK G a b k = cnK G a b (k + 1) := gd_ext (cnK_len _ _ _ _) (cnK_len _ _ _ _) fun i hi => by
  rw [cnK_at hi, cnK_at hi]
  by_cases h2 : i < k ∧ gd G i = gd G a
  · rw [if_pos h2, if_pos ⟨by omega, h2.2⟩]
  · rw [if_neg h2, if_neg (fun h3 => h2 ⟨by
      have h4 := h3.1
      have : i ≠ k := fun h => e (by rw [← h]; exact h3.2)
      omega, h3.2⟩)]
theorem cnK_cell {G : List Int} {a b k : Nat} (hk : k < 6) : gd (cnK G a b k) k = gd G k := by rw [cnK_at hk, if_neg (by omega)]

set_option maxRecDepth 8000 in
set_option maxHeartbeats 4000000 in
theorem impl_connect (B : Nat) (G : List Int) (i j : Nat) (w : World) (hG : G.length = 6) (hi : i < 6) (hj : j < 6) (hs : Str w B 82 (c6 G)) :
    Calls Try.prog 63 #[.pointer (some ⟨B, 0, none⟩), .int .i64 i, .int .i64 j] w fun e w' => e = .returned (.tuple #[]) ∧ Str w' B 82 (c6 (cnL G i j)) ∧ w.grownBy w' (some B) := by
  have h1 := hs.cell i (c6_at G hi)
  have h2 := hs.cell j (c6_at G hj)
  have hi' : (i : Int) < 6 := by omega
  have hj' : (j : Int) < 6 := by omega
  have Hs := Lib.hid (show Str w.drew B 82 (c6 G) from hs)
  have Hg := Lib.hid (show w.grownBy w.drew (some B) from ⟨rfl, rfl, rfl, Nat.le_refl _, fun _ _ _ => rfl⟩)
  have Hall := Lib.hid (cnK_all hG i j)
  have Hz := Lib.hid (cnK_zero hG i j)
  have Hyes := Lib.hid (fun k (hk : k < 6) (e : gd G k = gd G i) => cnK_yes (G := G) (a := i) (b := j) hk e)
  have Hno := Lib.hid (fun k (e : gd G k ≠ gd G i) => cnK_no (G := G) (a := i) (b := j) e)
  have Hc := Lib.hid (fun k (hk : k < 6) => cnK_cell (G := G) (a := i) (b := j) hk)
  clear hs hG
  generalize cnL G i j = GF at *
  generalize hF : gd G i = gi at *
  generalize hT : gd G j = gj at *
  go_enter Try.func63, Try.ntmps63
  go_wp2_with fail
  refine wp_region_held_drew (S := fun W => W.cell? ⟨B, i, none⟩ = some (.int .i64 gi) ∧ W.cell? ⟨B, j, none⟩ = some (.int .i64 gj)) (by kernel_rfl) ⟨h1, h2⟩ (fun hH => ?_)
  refine takeH 0 (v := ?vca1) rfl (by kernel_rfl) (by kernel_rfl) (by kernel_rfl) (fun _ _ _ h => h) hH rfl ?yca1 ?rca1
  case yca1 => intro W hSw; go_simp; try with_reducible rfl
  try simp only [Act.put, List.setIfInBounds_toArray, List.set_cons_zero, List.set_cons_succ]
  refine takeH 1 (v := ?vca2) rfl (by kernel_rfl) (by kernel_rfl) (by kernel_rfl) (fun _ _ _ h => h) hH rfl ?yca2 ?rca2
  case yca2 => intro W hSw; go_simp; try with_reducible rfl
  try simp only [Act.put, List.setIfInBounds_toArray, List.set_cons_zero, List.set_cons_succ]
  refine takeH 2 (v := ?vca3) rfl (by kernel_rfl) (by kernel_rfl) (by kernel_rfl) (fun _ _ _ h => h) hH rfl ?yca3 ?rca3
  case yca3 => intro W hSw; go_simp; try with_reducible rfl
  try simp only [Act.put, List.setIfInBounds_toArray, List.set_cons_zero, List.set_cons_succ]
  refine takeH 3 (v := ?vca4) rfl (by kernel_rfl) (by kernel_rfl) (by kernel_rfl) (fun _ _ _ h => h) hH rfl ?yca4 ?rca4
  case yca4 => intro W hSw; go_simp; try with_reducible rfl
  try simp only [Act.put, List.setIfInBounds_toArray, List.set_cons_zero, List.set_cons_succ]
  refine takeH 4 (v := ?vca5) rfl (by kernel_rfl) (by kernel_rfl) (by kernel_rfl) (fun _ _ _ h => h) hH rfl ?yca5 ?rca5
  case yca5 => intro W hSw; have hSw1 := hSw.1; go_simp; try with_reducible rfl
  try simp only [Act.put, List.setIfInBounds_toArray, List.set_cons_zero, List.set_cons_succ]
  refine takeH 5 (v := ?vca6) rfl (by kernel_rfl) (by kernel_rfl) (by kernel_rfl) (fun _ _ _ h => h) hH rfl ?yca6 ?rca6
  case yca6 => intro W hSw; go_simp; try with_reducible rfl
  try simp only [Act.put, List.setIfInBounds_toArray, List.set_cons_zero, List.set_cons_succ]
  refine takeH 6 (v := ?vca7) rfl (by kernel_rfl) (by kernel_rfl) (by kernel_rfl) (fun _ _ _ h => h) hH rfl ?yca7 ?rca7
  case yca7 => intro W hSw; go_simp; try with_reducible rfl
  try simp only [Act.put, List.setIfInBounds_toArray, List.set_cons_zero, List.set_cons_succ]
  refine takeH 7 (v := ?vca8) rfl (by kernel_rfl) (by kernel_rfl) (by kernel_rfl) (fun _ _ _ h => h) hH rfl ?yca8 ?rca8
  case yca8 => intro W hSw; go_simp; try with_reducible rfl
  try simp only [Act.put, List.setIfInBounds_toArray, List.set_cons_zero, List.set_cons_succ]
  refine takeH 8 (v := ?vca9) rfl (by kernel_rfl) (by kernel_rfl) (by kernel_rfl) (fun _ _ _ h => h) hH rfl ?yca9 ?rca9
  case yca9 => intro W hSw; go_simp; try with_reducible rfl
  try simp only [Act.put, List.setIfInBounds_toArray, List.set_cons_zero, List.set_cons_succ]
  refine takeH 9 (v := ?vca10) rfl (by kernel_rfl) (by kernel_rfl) (by kernel_rfl) (fun _ _ _ h => h) hH rfl ?yca10 ?rca10
  case yca10 => intro W hSw; have hSw2 := hSw.2; go_simp; try with_reducible rfl
  try simp only [Act.put, List.setIfInBounds_toArray, List.set_cons_zero, List.set_cons_succ]
  refine takeH 10 (v := ?vca11) rfl (by kernel_rfl) (by kernel_rfl) (by kernel_rfl) (fun _ _ _ h => h) hH rfl ?yca11 ?rca11
  case yca11 => intro W hSw; go_simp; try with_reducible rfl
  try simp only [Act.put, List.setIfInBounds_toArray, List.set_cons_zero, List.set_cons_succ]
  refine takeH 11 (v := ?vca12) rfl (by kernel_rfl) (by kernel_rfl) (by kernel_rfl) (fun _ _ _ h => h) hH rfl ?yca12 ?rca12
  case yca12 => intro W hSw; go_simp; try with_reducible rfl
  try simp only [Act.put, List.setIfInBounds_toArray, List.set_cons_zero, List.set_cons_succ]
  refine wpAnyH_done (by kernel_rfl) ?_ _
  try simp only [Act.put]
  clear hH h1 h2
  generalize w.drew = W0 at *
  go_wp2
  go_loopw [8, 9, 21] (fun _ _ q wr => ∃ k : Nat, k ≤ 6 ∧ q = .int .i64 k ∧ Str wr B 82 (c6 (cnK G i j k)) ∧ w.grownBy wr (some B)) (fun _ _ q _ => 6 - (intOf q).toNat)
  case atStart => exact ⟨0, by omega, rfl, by rw [Hz.out]; exact Hs.out, Hg.out⟩
  case round =>
    clear Hs Hg
    obtain ⟨k, hk, rfl, hs, hg⟩ := hrel
    have Hs := Lib.hid hs; have Hg := Lib.hid hg; clear hs hg
    by_cases hlt : k < 6
    case neg =>
      have hke : k = 6 := by omega
      subst hke
      go_wp2
      go_end0
      exact ⟨rfl, by rw [← Hall.out]; exact Hs.out, Hg.out⟩
    case pos =>
      have hlt' : (k : Int) < 6 := by omega
      have hcell := Hs.out.cell k (c6_at _ hlt)
      rw [Hc.out k hlt] at hcell
      have Hs := Lib.hid (show Str wr.drew B 82 (c6 (cnK G i j k)) from Hs.out)
      have Hg := Lib.hid (grownBy_trans Hg.out (show wr.grownBy wr.drew (some B) from ⟨rfl, rfl, rfl, Nat.le_refl _, fun _ _ _ => rfl⟩))
      generalize hgk : gd G k = gk at *
      go_wp2_with fail
      refine wp_region_held_drew (S := fun W => W.cell? ⟨B, k, none⟩ = some (.int .i64 gk)) (by kernel_rfl) hcell (fun hH => ?_)
      refine takeH 0 (v := ?vcb1) rfl (by kernel_rfl) (by kernel_rfl) (by kernel_rfl) (fun _ _ _ h => h) hH rfl ?ycb1 ?rcb1
      case ycb1 => intro W hSw; go_simp; try with_reducible rfl
      try simp only [Act.put, List.setIfInBounds_toArray, List.set_cons_zero, List.set_cons_succ]
      refine takeH 1 (v := ?vcb2) rfl (by kernel_rfl) (by kernel_rfl) (by kernel_rfl) (fun _ _ _ h => h) hH rfl ?ycb2 ?rcb2
      case ycb2 => intro W hSw; go_simp; try with_reducible rfl
      try simp only [Act.put, List.setIfInBounds_toArray, List.set_cons_zero, List.set_cons_succ]
      refine takeH 2 (v := ?vcb3) rfl (by kernel_rfl) (by kernel_rfl) (by kernel_rfl) (fun _ _ _ h => h) hH rfl ?ycb3 ?rcb3
      case ycb3 => intro W hSw; go_simp; try with_reducible rfl
      try simp only [Act.put, List.setIfInBounds_toArray, List.set_cons_zero, List.set_cons_succ]
      refine takeH 3 (v := ?vcb4) rfl (by kernel_rfl) (by kernel_rfl) (by kernel_rfl) (fun _ _ _ h => h) hH rfl ?ycb4 ?rcb4
      case ycb4 => intro W hSw; go_simp; try with_reducible rfl
      try simp only [Act.put, List.setIfInBounds_toArray, List.set_cons_zero, List.set_cons_succ]
      refine takeH 4 (v := ?vcb5) rfl (by kernel_rfl) (by kernel_rfl) (by kernel_rfl) (fun _ _ _ h => h) hH rfl ?ycb5 ?rcb5
      case ycb5 => intro W hSw; go_simp; try with_reducible rfl
      try simp only [Act.put, List.setIfInBounds_toArray, List.set_cons_zero, List.set_cons_succ]
      refine takeH 5 (v := ?vcb6) rfl (by kernel_rfl) (by kernel_rfl) (by kernel_rfl) (fun _ _ _ h => h) hH rfl ?ycb6 ?rcb6
      case ycb6 => intro W hSw; go_simp; try with_reducible rfl
      try simp only [Act.put, List.setIfInBounds_toArray, List.set_cons_zero, List.set_cons_succ]
      refine wpAnyH_done (by kernel_rfl) ?_ _
      try simp only [Act.put]
      clear hH hcell
      generalize wr.drew = W1 at *
      by_cases hq : gk = gi
      · have hq1 : (gk == gi) = true := by rw [beq_iff_eq]; exact hq
        have Hst := Lib.hid (Hyes.out k hlt (by rw [hgk]; exact hq))
        have hfz := Hs.out.frozen k
        have hcl := Hs.out.cell k (c6_at _ hlt)
        have s2 := Hs.out.set k (.int .i64 gj)
        rw [c6_set (cnK_len _ _ _ _) hlt, Hst.out] at s2
        have S2 := Lib.hid s2
        have G2 := Lib.hid (grownBy_trans Hg.out (grownBy_set W1 B k (.int .i64 gj)))
        clear s2
        go_wp2
        go_roundw
        case rel => exact ⟨k + 1, by omega, by go_num, S2.out, G2.out⟩
        case measure => simp [intOf]; omega
      · have hq1 : (gk == gi) = false := by rw [beq_eq_false_iff_ne]; exact hq
        have Hst := Lib.hid (Hno.out k (by rw [hgk]; exact hq))
        have S2 := Lib.hid (show Str W1 B 82 (c6 (cnK G i j (k + 1))) by rw [← Hst.out]; exact Hs.out)
        go_wp2
        go_roundw
        case rel => exact ⟨k + 1, by omega, by go_num, S2.out, Hg.out⟩
        case measure => simp [intOf]; omega

set_option maxRecDepth 8000 in
set_option maxHeartbeats 4000000 in
theorem impl_groupsOf (xs : List Tx) (a : Option Addr) (cap : Nat) (fp : List Nat) (w : World) (hbig : xs.length ≤ 1099511627776) (hv : ∀ x ∈ xs, txB x = true) (h : Txs w xs (.slice a xs.length cap) fp) :
    Calls Try.prog 51 #[.slice a xs.length cap] w fun e w' => e = .returned (.agg (c6 (gpL xs))) ∧ Below w.heap.size w w' := by
  have hb0 : Below w.heap.size w ((w.alloc (.cells #[.int .i64 0, .int .i64 0, .int .i64 0, .int .i64 0, .int .i64 0, .int .i64 0] 82)).alloc (.cells #[.int .i64 0, .int .i64 0, .int .i64 0, .int .i64 0, .int .i64 0, .int .i64 0] 82)) := ((Below.refl _ _).alloc (Nat.le_refl _) _).alloc (by simp only [World.size_alloc]; omega) _
  have s1 := (Str.new w 82 #[.int .i64 0, .int .i64 0, .int .i64 0, .int .i64 0, .int .i64 0, .int .i64 0]).alloc (.cells #[.int .i64 0, .int .i64 0, .int .i64 0, .int .i64 0, .int .i64 0, .int .i64 0] 82)
  have s2 := Str.new (w.alloc (.cells #[.int .i64 0, .int .i64 0, .int .i64 0, .int .i64 0, .int .i64 0, .int .i64 0] 82)) 82 #[.int .i64 0, .int .i64 0, .int .i64 0, .int .i64 0, .int .i64 0, .int .i64 0]
  simp only [World.size_alloc] at s2
  have S1 := Lib.hid s1; have S2 := Lib.hid s2; have Hb := Lib.hid hb0; clear s1 s2 hb0
  have hz : ((w.alloc (.cells #[.int .i64 0, .int .i64 0, .int .i64 0, .int .i64 0, .int .i64 0, .int .i64 0] 82)).alloc (.cells #[.int .i64 0, .int .i64 0, .int .i64 0, .int .i64 0, .int .i64 0, .int .i64 0] 82)).heap.size = w.heap.size + 2 := by simp
  have H := Lib.hid h; clear h
  have Hf0 := Lib.hid (show c6 (fillL 6 0) = #[.int .i64 0, .int .i64 0, .int .i64 0, .int .i64 0, .int .i64 0, .int .i64 0] from rfl)
  have Hf6 := Lib.hid (show fillL 6 6 = gr0 from rfl)
  have Hfin := Lib.hid (show grL gr0 (xs.take xs.length) = gpL xs by rw [List.take_length]; rfl)
  have Hlen := Lib.hid (fun k => gr_len (xs.take k) gr0)
  have Hst := Lib.hid (fun k (hk : k < xs.length) => gr_take hk gr0)
  have Hv := Lib.hid (fun k (hk : k < xs.length) => tx_lt (hv _ (List.getElem_mem hk)))
  clear hv
  generalize gpL xs = GF at *
  go_enter Try.func51, Try.ntmps51
  go_wp2
  generalize ((w.alloc (.cells #[.int .i64 0, .int .i64 0, .int .i64 0, .int .i64 0, .int .i64 0, .int .i64 0] 82)).alloc (.cells #[.int .i64 0, .int .i64 0, .int .i64 0, .int .i64 0, .int .i64 0, .int .i64 0] 82)) = W0 at *
  go_loopw [4, 7] (fun _ i wr => ∃ k : Nat, k ≤ 6 ∧ i = .int .i64 k ∧ Str wr w.heap.size 82 #[.int .i64 0, .int .i64 0, .int .i64 0, .int .i64 0, .int .i64 0, .int .i64 0] ∧ Str wr (w.heap.size + 1) 82 (c6 (fillL 6 k)) ∧ Below w.heap.size w wr) (fun _ i _ => 6 - (intOf i).toNat)
  case atStart => exact ⟨0, by omega, rfl, S1.out, S2.out, Hb.out⟩
  case round =>
    clear S1 S2 Hb hz
    obtain ⟨k, hk, rfl, hs1, hs2, hb⟩ := hrel
    have S1 := Lib.hid hs1; have S2 := Lib.hid hs2; have Hb := Lib.hid hb; clear hs1 hs2 hb
    by_cases hlt : k < 6
    case pos =>
      have hlt' : (k : Int) < 6 := by omega
      have hfz := S2.out.frozen k
      have hcl := S2.out.cell k (c6_at _ hlt)
      have s2 := S2.out.set k (.int .i64 (k : Int))
      rw [c6_set (fill_len _ _) hlt, fill_step hlt] at s2
      have S3 := Lib.hid s2
      have S4 := Lib.hid (S1.out.other (show w.heap.size ≠ w.heap.size + 1 by omega) k (.int .i64 (k : Int)))
      have B4 := Lib.hid (Hb.out.setCell (p := ⟨w.heap.size + 1, k, none⟩) (by simp only; omega) (.int .i64 (k : Int)))
      clear s2
      go_wp2
      go_roundw
      case rel => exact ⟨k + 1, by omega, by go_num, S4.out, S3.out, B4.out⟩
      case measure => simp [intOf]; omega
    case neg =>
      have hke : k = 6 := by omega
      subst hke
      have S2 := Lib.hid (show Str wr (w.heap.size + 1) 82 (c6 gr0) by rw [← Hf6.out]; exact S2.out)
      rw [show ((6 : Nat) : Int) = 6 from rfl]
      go_wp2
      clear hlt
      go_loopw [16] (fun i wr => ∃ k : Nat, k ≤ xs.length ∧ i = .int .i64 k ∧ Str wr w.heap.size 82 #[.int .i64 0, .int .i64 0, .int .i64 0, .int .i64 0, .int .i64 0, .int .i64 0] ∧ Str wr (w.heap.size + 1) 82 (c6 (grL gr0 (xs.take k))) ∧ Below w.heap.size w wr) (fun i _ => xs.length - (intOf i).toNat)
      case atStart => exact ⟨0, Nat.zero_le _, rfl, S1.out, S2.out, Hb.out⟩
      case round =>
        clear S1 S2 Hb
        obtain ⟨k, hk, rfl, hs1, hs2, hb⟩ := hrel
        have S1 := Lib.hid hs1; have S2 := Lib.hid hs2; have Hb := Lib.hid hb; clear hs1 hs2 hb
        by_cases hlt : k < xs.length
        case pos =>
          have hlt' : (k : Int) < (xs.length : Int) := by omega
          obtain ⟨b, off, rfl, hbb, hat⟩ := (H.out.under Hb.out).at (by omega)
          obtain ⟨c0, c1, c2, c3⟩ := hat k hlt
          clear hat
          obtain ⟨hf6, ht6, ef, et⟩ := Hv.out k hlt
          have HC := Lib.hid (fun W (h : Str W (w.heap.size + 1) 82 (c6 (grL gr0 (xs.take k)))) => impl_connect (w.heap.size + 1) _ xs[k].f.toNat xs[k].t.toNat W (Hlen.out k) hf6 ht6 h)
          rw [← Hst.out k hlt, ef, et] at HC
          clear hf6 ht6 ef et
          generalize grL gr0 (xs.take k) = G1 at *
          generalize hG2 : grL gr0 (xs.take (k + 1)) = G2 at *
          have HG2 := Lib.hid hG2; clear hG2
          generalize xs[k] = x at *
          obtain ⟨xf, xt, xs', xe⟩ := x
          dsimp only at *
          have hal : Below wr.heap.size wr (wr.alloc (.cells #[.int .i64 xf, .int .i64 xt, .int .i64 xs', .int .i64 xe] 25)) := (Below.refl _ _).alloc (Nat.le_refl _) _
          have Hb := Lib.hid (below_step Hb.out Hb.out.size hal)
          have S1 := Lib.hid (S1.out.alloc (.cells #[.int .i64 xf, .int .i64 xt, .int .i64 xs', .int .i64 xe] 25))
          have S2 := Lib.hid (S2.out.alloc (.cells #[.int .i64 xf, .int .i64 xt, .int .i64 xs', .int .i64 xe] 25))
          clear hal
          go_wp2_with fail
          generalize wr.alloc (.cells #[.int .i64 xf, .int .i64 xt, .int .i64 xs', .int .i64 xe] 25) = W1 at *
          refine (HC.out _ S2.out).mono ?_
          rintro e w6 ⟨rfl, s6, g6⟩
          have S1 := Lib.hid (Str.kept S1.out g6 (by simp))
          have S2 := Lib.hid s6
          have Hb := Lib.hid (Hb.out.grown g6 Hb.out.size (fun q e => by cases e; omega))
          clear s6 g6 c0 c1 c2 c3
          go_wp2
          go_roundw
          case rel => exact ⟨k + 1, by omega, by go_num, S1.out, by rw [HG2.out]; exact S2.out, Hb.out⟩
          case measure => simp [intOf]; omega
        case neg =>
          have hke : k = xs.length := by omega
          subst hke
          rw [Hfin.out] at S2
          have hlt' : ¬ (xs.length : Int) < (xs.length : Int) := by omega
          have y0 := S1.out.frozen 0
          have q0 := S1.out.cell 0 (v := .int .i64 0) rfl
          have b0 := S2.out.cell 0 (v := .int .i64 (gd GF 0)) rfl
          have y1 := S1.out.frozen 1
          have q1 := S1.out.cell 1 (v := .int .i64 0) rfl
          have b1 := S2.out.cell 1 (v := .int .i64 (gd GF 1)) rfl
          have y2 := S1.out.frozen 2
          have q2 := S1.out.cell 2 (v := .int .i64 0) rfl
          have b2 := S2.out.cell 2 (v := .int .i64 (gd GF 2)) rfl
          have y3 := S1.out.frozen 3
          have q3 := S1.out.cell 3 (v := .int .i64 0) rfl
          have b3 := S2.out.cell 3 (v := .int .i64 (gd GF 3)) rfl
          have y4 := S1.out.frozen 4
          have q4 := S1.out.cell 4 (v := .int .i64 0) rfl
          have b4 := S2.out.cell 4 (v := .int .i64 (gd GF 4)) rfl
          have y5 := S1.out.frozen 5
          have q5 := S1.out.cell 5 (v := .int .i64 0) rfl
          have b5 := S2.out.cell 5 (v := .int .i64 (gd GF 5)) rfl
          have sF := ((((((S1.out.set 0 (.int .i64 (gd GF 0))).set 1 (.int .i64 (gd GF 1))).set 2 (.int .i64 (gd GF 2))).set 3 (.int .i64 (gd GF 3))).set 4 (.int .i64 (gd GF 4))).set 5 (.int .i64 (gd GF 5)))
          have bF := ((((((Hb.out.setCell (p := ⟨w.heap.size, 0, none⟩) (by simp only; omega) (.int .i64 (gd GF 0))).setCell (p := ⟨w.heap.size, 1, none⟩) (by simp only; omega) (.int .i64 (gd GF 1))).setCell (p := ⟨w.heap.size, 2, none⟩) (by simp only; omega) (.int .i64 (gd GF 2))).setCell (p := ⟨w.heap.size, 3, none⟩) (by simp only; omega) (.int .i64 (gd GF 3))).setCell (p := ⟨w.heap.size, 4, none⟩) (by simp only; omega) (.int .i64 (gd GF 4))).setCell (p := ⟨w.heap.size, 5, none⟩) (by simp only; omega) (.int .i64 (gd GF 5)))
          have e0 := sF.cell 0 (v := .int .i64 (gd GF 0)) rfl
          have e1 := sF.cell 1 (v := .int .i64 (gd GF 1)) rfl
          have e2 := sF.cell 2 (v := .int .i64 (gd GF 2)) rfl
          have e3 := sF.cell 3 (v := .int .i64 (gd GF 3)) rfl
          have e4 := sF.cell 4 (v := .int .i64 (gd GF 4)) rfl
          have e5 := sF.cell 5 (v := .int .i64 (gd GF 5)) rfl
          have BF := Lib.hid bF; clear bF sF
          go_wp2
          refine bodyPost_ret (v := .agg (c6 GF)) (by simp [results, Try.f51, go_sem, e0, e1, e2, e3, e4, e5, c6]) rfl ?_
          exact ⟨rfl, BF.out⟩

end Go.Proofs.Ytnjjbplocokdeab

/- Appending one number as an operation of a region, and where the new slice lies; nothing here speaks of the program. -/
namespace Go.Proofs.Ytnjjbplocokdeab
open Go.RowKit

/-- 'append(s, z)' as an operation of a region, and where the new slice lies. -/
theorem op_push_at {P : Program} {T E : TypeId} (hT : IntT P T E) (w : World) {o : Oper} {a : Act} {K : Act → World → Prop} {Q : Exit → Act → World → Prop} (s x : Operand)
    (ho : o.op = .call { callee := .builtin .append, args := #[s, x], argTypes := #[T, T] }) (B : Nat) (v : Value) (xs : List Int) (z : Int) (hs : a.eval s = v) (hown : Own E w B v xs)
    (hlen : xs.length ≤ 1099511627776) (hx : a.eval x = .slice (some ⟨w.heap.size, 0, none⟩) 1 1) (hB : B ≤ w.heap.size)
    (h : ∀ v' w', Own E w' B v' (xs ++ [z]) → w.grownBy w' v.ownBlock → (v'.ownBlock = v.ownBlock ∨ ∃ g, v'.ownBlock = some g ∧ w.heap.size ≤ g) → K (a.put o.dst v') w') : Oper.wp P o a (w.alloc (.cells #[.int .i64 z] E)) K Q := by
  obtain ⟨i, hi, hz, hsz, hby⟩ := info_parts hT.info
  obtain ⟨v', w', hr, h1, h2, _, h4⟩ := run_append_own_at (P := P) (w.alloc (.cells #[.int .i64 z] E)) B T o.type E i (.int .i64 0) 1 8 hT.sl hi hz hsz hby rfl (by decide) v xs.length _ (World.ownsRow.alloc hown _) ⟨w.heap.size, 0, none⟩ 1 1 [.int .i64 z] rfl (cells_one _ _ _) (by intro u hu; simp at hu; subst hu; rfl) (by unfold maxLen; omega) (by omega) (by simp; omega)
  unfold Oper.wp execOp
  simp only [ho, resolve, invoke, builtin, Sem.run_bind, Sem.run_pure, Result.andThen_ok, List.map_toArray, List.map_cons, List.map_nil, hs, hx, hr]
  refine h v' w' ?_ (grownBy_trans (World.grownBy_alloc _ _ _) h2) ?_
  · unfold Own; simpa using h1
  · rcases h4 with h4 | h4
    · exact .inl h4
    · exact .inr ⟨_, h4, by simp⟩

end Go.Proofs.Ytnjjbplocokdeab

/- The program's lanes of a list of transactions, by a walk of its text; condition: the list is shorter than 2^40. -/
namespace Go.Proofs.Ytnjjbplocokdeab
open Go.RowKit

def z6 : List Int := [0, 0, 0, 0, 0, 0]
/-- Six pointers. -/
def o6 (f : Nat → Value) : Array Value := #[f 0, f 1, f 2, f 3, f 4, f 5]
theorem o6_at (f : Nat → Value) {i : Nat} (h : i < 6) : (o6 f)[i]? = some (f i) := by
  match i, h with
  | 0, _ => rfl
  | 1, _ => rfl
  | 2, _ => rfl
  | 3, _ => rfl
  | 4, _ => rfl
  | 5, _ => rfl
def upF (f : Nat → Value) (g : Nat) (v : Value) : Nat → Value := fun k => if k = g then v else f k
theorem o6_set (f : Nat → Value) {i : Nat} (h : i < 6) (v : Value) : (o6 f).setIfInBounds i v = o6 (upF f i v) := by
  match i, h with
  | 0, _ => rfl
  | 1, _ => rfl
  | 2, _ => rfl
  | 3, _ => rfl
  | 4, _ => rfl
  | 5, _ => rfl
/-- The lanes by the numbers of their groups. -/
def Ixs (xs : List Tx) (i : Nat) (f : Nat → Value) (bs : List Nat) : Prop := bs.length = (rtS xs i).length ∧ ∀ g, g < 6 →
  (f g = .pointer none ∧ ∀ p, p < bs.length → gf xs ((rtS xs i).getD p 0) ≠ (g : Int)) ∨ ∃ p, p < bs.length ∧ f g = ptC (bs.getD p 0) ∧ gf xs ((rtS xs i).getD p 0) = (g : Int)
theorem getD_lt {l : List Nat} {p : Nat} (h : p < l.length) : l.getD p 0 = l[p] := by simp [List.getD, h]
theorem ixs_zero (xs : List Tx) : Ixs xs 0 (fun _ => .pointer none) [] := ⟨rfl, fun _ _ => .inl ⟨rfl, fun _ h => by simp at h⟩⟩
theorem ixs_old {xs : List Tx} {i : Nat} {f : Nat → Value} {bs : List Nat} (h : Ixs xs i f bs) (e : rtS xs (i + 1) = rtS xs i) : Ixs xs (i + 1) f bs := by unfold Ixs; rw [e]; exact h
theorem ixs_new {xs : List Tx} {i : Nat} {f : Nat → Value} {bs : List Nat} (h : Ixs xs i f bs) (e : rtS xs (i + 1) = rtS xs i ++ [i]) {g : Nat} (hg : gf xs i = (g : Int)) (hn : ∀ p, p < bs.length → gf xs ((rtS xs i).getD p 0) ≠ (g : Int)) (b : Nat) : Ixs xs (i + 1) (upF f g (ptC b)) (bs ++ [b]) := by
  obtain ⟨hl, hx⟩ := h
  refine ⟨by rw [e, List.length_append, List.length_append, hl]; rfl, fun k hk => ?_⟩
  have g1 : ∀ p, p < bs.length → (rtS xs (i + 1)).getD p 0 = (rtS xs i).getD p 0 := fun p hp => by rw [e]; simp only [List.getD]; rw [List.getElem?_append_left (by omega)]
  have g2 : ∀ p, p < bs.length → (bs ++ [b]).getD p 0 = bs.getD p 0 := fun p hp => by simp only [List.getD]; rw [List.getElem?_append_left (by omega)]
  have g3 : (rtS xs (i + 1)).getD bs.length 0 = i := by rw [e]; simp only [List.getD]; rw [List.getElem?_append_right (by omega), hl]; simp
  have g4 : (bs ++ [b]).getD bs.length 0 = b := by simp [List.getD]
  by_cases ek : k = g
  · subst ek
    refine .inr ⟨bs.length, by simp, by rw [g4]; unfold upF; rw [if_pos rfl], by rw [g3]; exact hg⟩
  · unfold upF
    rw [if_neg ek]
    rcases hx k hk with ⟨a, c⟩ | ⟨p, hp, a, c⟩
    · refine .inl ⟨a, fun p hp => ?_⟩
      rw [List.length_append, List.length_singleton] at hp
      by_cases ep : p = bs.length
      · subst ep; rw [g3, hg]; omega
      · rw [g1 p (by omega)]; exact c p (by omega)
    · exact .inr ⟨p, by simp; omega, by rw [g2 p hp]; exact a, by rw [g1 p hp]; exact c⟩
/-- Lanes that lie in memory of the call's own, with the list of them. -/
structure Lnw (T E Ep : TypeId) (w : World) (B : Nat) (u : Value) (L : List La) : Prop where
  own : OwnC Ep w B u (L.map fun x => ptC x.b)
  lns : LnM T E w B L
theorem Lnw.below {T E Ep : TypeId} {w w' : World} {B : Nat} {u : Value} {L : List La} (h : Lnw T E Ep w B u L) (hb : Below w.heap.size w w') : Lnw T E Ep w' B u L := ⟨h.own.below hb, h.lns.below hb⟩
/-- While lanes are made: the groups lie at block A, the lanes by groups at block O. -/
structure Lvt (T E Ep Tg To : TypeId) (w : World) (A O : Nat) (G : List Int) (f : Nat → Value) (W : World) (u : Value) (L : List La) : Prop where
  ln : Lnw T E Ep W w.heap.size u L
  gs : Str W A Tg (c6 G)
  og : Str W O To (o6 f)
  z : ∀ x ∈ L, x.l = z6 ∧ x.n = 0
  dA : w.heap.size ≤ A
  dO : w.heap.size ≤ O
  bel : Below w.heap.size w W
section
variable {T E Ep Tg To : TypeId} {w W W' : World} {A O : Nat} {G : List Int} {f : Nat → Value} {u : Value} {L : List La}
theorem Lvt.below (h : Lvt T E Ep Tg To w A O G f W u L) (hb : Below W.heap.size W W') : Lvt T E Ep Tg To w A O G f W' u L :=
  ⟨h.ln.below hb, (hb.block _ h.gs.lt).trans h.gs, (hb.block _ h.og.lt).trans h.og, h.z, h.dA, h.dO, below_step h.bel h.bel.size hb⟩
/-- A lane is made, and its place set. -/
theorem Lvt.make (h : Lvt T E Ep Tg To w A O G f W u L) {g b : Nat} (hg : g < 6) (hs : Str W b T (c8 z6 0 (.slice none 0 0))) (hb : w.heap.size ≤ b) (hn : ∀ x ∈ L, x.b ≠ b) (h1 : To ≠ T) (h2 : To ≠ E) (h3 : To ≠ Ep) (h4 : To ≠ Tg) :
    Lvt T E Ep Tg To w A O G (upF f g (ptC b)) (W.setCell ⟨O, g, none⟩ (ptC b)) u L ∧ LnM T E (W.setCell ⟨O, g, none⟩ (ptC b)) w.heap.size (L ++ [⟨z6, 0, [], b, .slice none 0 0⟩]) := by
  have hgr := grownBy_set W O g (ptC b)
  obtain ⟨o1, o2⟩ := h.ln.lns.off h.og h1 h2
  have hbo : b ≠ O := fun e => by
    have h5 := h.og
    unfold Str at h5 hs
    rw [← e, hs] at h5
    injection h5 with h5
    injection h5 with _ h6
    exact h1 h6.symm
  have hga : A ≠ O := fun e => by
    have h5 := h.og; have h7 := h.gs
    unfold Str at h5 h7
    rw [← e, h7] at h5
    injection h5 with h5
    injection h5 with _ h6
    exact h4 h6.symm
  have hl := h.ln.lns.grown hgr (fun x hx e => o1 x hx (by cases e; rfl)) (fun x hx g' e e' => o2 x hx (by rw [e, e']))
  refine ⟨⟨⟨h.ln.own.kept hgr ?_, hl⟩, h.gs.other hga _ _, by rw [← o6_set f hg]; exact h.og.set g _, h.z, h.dA, h.dO, h.bel.setCell (p := ⟨O, g, none⟩) h.dO _⟩, hl.push (hs.other hbo _ _) hb hn⟩
  cases hu : u.ownBlock with
  | none => exact .inl rfl
  | some q =>
    refine .inr fun e => ?_
    obtain ⟨cur, hc⟩ := h.ln.own.typ hu
    have h5 := h.og
    unfold Str at h5
    cases e
    rw [hc] at h5
    injection h5 with h5
    injection h5 with _ h6
    exact h3 h6.symm
/-- The lane is appended to the list. -/
theorem Lvt.push (h : Lvt T E Ep Tg To w A O G f W u L) {b : Nat} (hl : LnM T E W w.heap.size (L ++ [⟨z6, 0, [], b, .slice none 0 0⟩])) {u2 : Value} (ho : OwnC Ep W' w.heap.size u2 ((L.map fun x => ptC x.b) ++ [ptC b])) (hg : W.grownBy W' u.ownBlock) (h1 : Ep ≠ T) (h2 : Ep ≠ E) (h3 : Ep ≠ Tg) (h4 : Ep ≠ To) :
    Lvt T E Ep Tg To w A O G f W' u2 (L ++ [⟨z6, 0, [], b, .slice none 0 0⟩]) := by
  have hoff : ∀ {X : Nat} {t : TypeId} {vs : Array Value}, Str W X t vs → Ep ≠ t → some X ≠ u.ownBlock := fun hs hne e => by
    obtain ⟨cur, hc⟩ := h.ln.own.typ e.symm
    unfold Str at hs
    rw [hc] at hs
    injection hs with hs
    injection hs with _ h6
    exact hne h6
  refine ⟨⟨by rw [List.map_append, List.map_singleton]; exact ho, hl.grown hg (fun x hx e => hoff (hl.str x hx).2 h1 e.symm) fun x hx g e e' => ?_⟩, h.gs.kept hg (hoff h.gs h3), h.og.kept hg (hoff h.og h4), fun x hx => ?_, h.dA, h.dO, h.bel.grown hg h.bel.size fun q e => (h.ln.own.lt q e).1⟩
  · obtain ⟨cur, hc⟩ := h.ln.own.typ e'
    obtain ⟨cur', hc'⟩ := (hl.row x hx).typ e
    rw [hc] at hc'
    injection hc' with hc'
    injection hc' with _ h6
    exact h2 h6
  · rcases List.mem_append.1 hx with hx | hx
    · exact h.z x hx
    · rw [List.mem_singleton] at hx; subst hx; exact ⟨rfl, rfl⟩
/-- What is read of a lane when its row has grown. -/
theorem Lvt.read (h : Lvt T E Ep Tg To w A O G f W u L) {p : Nat} (hp : p < L.length) (hg : W.grownBy W' L[p].v.ownBlock) (h1 : T ≠ E) (h2 : To ≠ E) : Str W' O To (o6 f) ∧ Str W' L[p].b T (c8 L[p].l L[p].n L[p].v) := by
  have hin := List.getElem_mem hp
  have hr := h.ln.lns.row _ hin
  have hrow : ∀ {X : Nat} {t : TypeId} {vs : Array Value}, Str W X t vs → t ≠ E → some X ≠ L[p].v.ownBlock := fun hs hne e => by
    obtain ⟨cur, hc⟩ := hr.typ e.symm
    unfold Str at hs
    rw [hc] at hs
    injection hs with hs
    injection hs with _ h8
    exact hne h8.symm
  exact ⟨h.og.kept hg (hrow h.og h2), (h.ln.lns.str _ hin).2.kept hg (hrow (h.ln.lns.str _ hin).2 h1)⟩
/-- An index comes to a lane. -/
theorem Lvt.add (h : Lvt T E Ep Tg To w A O G f W u L) {p : Nat} (hp : p < L.length) {v8 : Value} {i : Nat} (ho : Own E W' w.heap.size v8 (zs L[p].os ++ [(i : Int)])) (hg : W.grownBy W' L[p].v.ownBlock) (hat : v8.ownBlock = L[p].v.ownBlock ∨ ∃ g, v8.ownBlock = some g ∧ W.heap.size ≤ g)
    (h1 : T ≠ E) (h2 : Ep ≠ T) (h3 : Ep ≠ E) (h4 : Tg ≠ T) (h5 : Tg ≠ E) (h6 : To ≠ T) (h7 : To ≠ E) :
    Lvt T E Ep Tg To w A O G f (W'.setCell ⟨L[p].b, 7, none⟩ v8) u (L.set p ⟨L[p].l, L[p].n, L[p].os ++ [i], L[p].b, v8⟩) := by
  have hin := List.getElem_mem hp
  obtain ⟨hB, hs⟩ := h.ln.lns.str _ hin
  have hr := h.ln.lns.row _ hin
  have hrow : ∀ {X : Nat} {t : TypeId} {vs : Array Value} {q : Nat × Nat}, W.heap[X]? = some (.cells vs t q) → t ≠ E → L[p].v.ownBlock ≠ some X := fun hs hne e => by
    obtain ⟨cur, hc⟩ := hr.typ e
    rw [hc] at hs
    injection hs with hs
    injection hs with _ h8
    exact hne h8.symm
  have hblk : ∀ {X : Nat} {t : TypeId} {vs : Array Value} {q : Nat × Nat}, W.heap[X]? = some (.cells vs t q) → t ≠ T → X ≠ L[p].b := fun hs' hne e => by
    have h9 := hs
    unfold Str at h9
    rw [← e, hs'] at h9
    injection h9 with h9
    injection h9 with _ h8
    exact hne h8
  have hoth : ∀ b, b < W.heap.size → b ≠ L[p].b → L[p].v.ownBlock ≠ some b → (W'.setCell ⟨L[p].b, 7, none⟩ v8).heap[b]? = W.heap[b]? := fun b hb e1 e2 => (Below.heap_setCell _ _ _ b e1).trans (hg.block b hb fun e => e2 e.symm)
  have hs7 : Str W' L[p].b T (c8 L[p].l L[p].n L[p].v) := hs.kept hg fun e => hrow hs h1 e.symm
  have hv8 : v8.ownBlock ≠ some L[p].b := fun e => by
    rcases hat with h' | ⟨g, h', hge⟩
    · exact hrow hs h1 (by rw [← h', e])
    · rw [e] at h'; cases h'; have := hs.lt; omega
  refine ⟨⟨?_, ?_⟩, ?_, ?_, fun x hx => ?_, h.dA, h.dO, ?_⟩
  · have e : ((L.set p ⟨L[p].l, L[p].n, L[p].os ++ [i], L[p].b, v8⟩).map fun x => ptC x.b) = L.map fun x => ptC x.b := by
      rw [List.map_set]
      refine List.ext_getElem (by simp) fun q q1 q2 => ?_
      by_cases eq : p = q
      · subst eq; rw [List.getElem_set_self, List.getElem_map]
      · rw [List.getElem_set_ne eq]
    rw [e]
    refine h.ln.own.same fun g e' => ?_
    obtain ⟨cur, hc⟩ := h.ln.own.typ e'
    exact hoth g (h.ln.own.lt g e').2 (hblk hc h2) (hrow hc h3)
  · refine h.ln.lns.set hp rfl ?_ ?_ (fun g e => ?_) hoth h1
    · have := hs7.set 7 v8
      rw [c8_idx] at this
      exact this
    · show Own E _ _ v8 (zs (L[p].os ++ [i]))
      rw [zs_snoc]
      exact ho.same fun g e => Below.heap_setCell _ _ _ g fun e' => hv8 (by rw [e, e'])
    · rcases hat with h' | ⟨g', h', hge⟩
      · exact .inl (by rw [← h', e])
      · have e2 : v8.ownBlock = some g := e
        rw [e2] at h'; cases h'; exact .inr hge
  · exact (hoth A h.gs.lt (hblk h.gs h4) (hrow h.gs h5)).trans h.gs
  · exact (hoth O h.og.lt (hblk h.og h6) (hrow h.og h7)).trans h.og
  · rcases List.mem_or_eq_of_mem_set hx with hx | rfl
    · exact h.z x hx
    · have h9 := h.z _ hin
      exact h9
  · exact (h.bel.grown hg h.bel.size fun q e => (hr.lt q e).1).setCell (p := ⟨L[p].b, 7, none⟩) hB _
end
/-- What an index comes to when its lane is there, or is made. -/
theorem set_os {L : List La} {p : Nat} (l : List Int) (n : Int) (o : List Nat) (b : Nat) (v : Value) : (L.set p ⟨l, n, o, b, v⟩).map La.os = (L.map La.os).set p o := by rw [List.map_set]
theorem set_bs {L : List La} {p : Nat} (hp : p < L.length) (l : List Int) (n : Int) (o : List Nat) (v : Value) : (L.set p ⟨l, n, o, L[p].b, v⟩).map La.b = L.map La.b := by
  rw [List.map_set]
  refine List.ext_getElem (by simp) fun q q1 q2 => ?_
  by_cases eq : p = q
  · subst eq; rw [List.getElem_set_self, List.getElem_map]
  · rw [List.getElem_set_ne eq]
theorem fin_old {xs : List Tx} (hv : ∀ x ∈ xs, txB x = true) {i g : Nat} (hi : i < xs.length) {f : Nat → Value} {L : List La} (hix : Ixs xs i f (L.map La.b)) (hos : L.map La.os = lsS xs i) (hg : gf xs i = (g : Int)) {p : Nat} (hp : p < L.length) (hr : gf xs ((rtS xs i).getD p 0) = (g : Int)) :
    Ixs xs (i + 1) f (L.map La.b) ∧ (∀ v, (L.set p ⟨L[p].l, L[p].n, L[p].os ++ [i], L[p].b, v⟩).map La.os = lsS xs (i + 1)) ∧ L[p].os.length ≤ i := by
  have hpr : p < (rtS xs i).length := by rw [← hix.1, List.length_map]; exact hp
  rw [getD_lt hpr] at hr
  obtain ⟨e1, e2⟩ := rt_old hv hi hpr (hr.trans hg.symm)
  have hps : p < (lsS xs i).length := by rw [ls_len]; exact hpr
  have eo : L[p].os = (lsS xs i)[p] := by
    have : (L.map La.os)[p]'(by simpa using hp) = (lsS xs i)[p] := by simp only [hos]
    rwa [List.getElem_map] at this
  refine ⟨ixs_old hix e1, fun v => ?_, ?_⟩
  · rw [set_os, hos, e2, eo]
  · rw [eo, ls_at]; exact laneTo_len _ _ _
theorem fin_new {xs : List Tx} (hv : ∀ x ∈ xs, txB x = true) {i g : Nat} (hi : i < xs.length) {f : Nat → Value} {L : List La} (hix : Ixs xs i f (L.map La.b)) (hos : L.map La.os = lsS xs i) (hg : gf xs i = (g : Int)) (hn : ∀ p, p < (L.map La.b).length → gf xs ((rtS xs i).getD p 0) ≠ (g : Int)) (b : Nat)
    {L2 : List La} (h2 : L2 = L ++ [⟨z6, 0, [], b, .slice none 0 0⟩]) (hp : L.length < L2.length) :
    Ixs xs (i + 1) (upF f g (ptC b)) (L2.map La.b) ∧ (∀ v, (L2.set L.length ⟨L2[L.length].l, L2[L.length].n, L2[L.length].os ++ [i], L2[L.length].b, v⟩).map La.os = lsS xs (i + 1)) ∧ L2[L.length].os.length ≤ i ∧ (upF f g (ptC b)) g = ptC L2[L.length].b := by
  subst h2
  obtain ⟨e1, e2⟩ := rt_new hv hi (fun p hp e => hn p (by rw [hix.1]; exact hp) (by rw [getD_lt hp, e, hg]))
  have el : (L ++ [⟨z6, 0, [], b, .slice none 0 0⟩] : List La)[L.length]'hp = ⟨z6, 0, [], b, .slice none 0 0⟩ := by simp
  refine ⟨by rw [List.map_append]; exact ixs_new hix e1 hg hn b, fun v => ?_, by rw [el]; exact Nat.zero_le _, by rw [el]; unfold upF; rw [if_pos rfl]⟩
  rw [set_os, el, List.map_append, hos, e2]
  have e3 : L.length = (lsS xs i).length := by rw [← hos, List.length_map]
  rw [e3, List.set_append_right _ _ (Nat.le_refl _)]
  simp
/-- What lanesOf answers. -/
def LoP (T E Ep : TypeId) (w : World) (xs : List Tx) (e : Ending) (w' : World) : Prop := Below w.heap.size w w' ∧
  ((vldB xs = false ∧ e = .returned (.tuple #[.slice none 0 0, .bool false])) ∨ (vldB xs = true ∧ ∃ u L, e = .returned (.tuple #[u, .bool true]) ∧ Lnw T E Ep w' w.heap.size u L ∧ L.map La.os = lanesN xs ∧ ∀ x ∈ L, x.l = z6 ∧ x.n = 0))

theorem TIlp : IntT Try.prog 40 3 := ⟨Try.underlying40, by kernel_rfl⟩
theorem pl_inf : (Try.prog.info? 59).map (fun i => (i.zero, i.size, i.bytes)) = some (some (.pointer none), 1, 8) := by kernel_rfl
set_option maxRecDepth 8000 in
set_option maxHeartbeats 8000000 in
theorem impl_lanesOf (xs : List Tx) (a : Option Addr) (cap : Nat) (fp : List Nat) (w : World) (hbig : xs.length ≤ 1099511627776) (h : Txs w xs (.slice a xs.length cap) fp) :
    Calls Try.prog 34 #[.slice a xs.length cap] w (LoP 65 3 59 w xs) := by
  have HV := Lib.hid (impl_areTxns xs a cap fp w hbig h)
  have H := Lib.hid h; clear h
  have Hno := Lib.hid (fun w' (hb : Below w.heap.size w w') (hv : vldB xs = false) => (show LoP 65 3 59 w xs (.returned (.tuple #[.slice none 0 0, .bool false])) w' from ⟨hb, .inl ⟨hv, rfl⟩⟩))
  have Hyes := Lib.hid (fun w' u L (hb : Below w.heap.size w w') (hv : vldB xs = true) (h1 : Lnw 65 3 59 w' w.heap.size u L) (h2 : L.map La.os = lanesN xs) (h3 : ∀ x ∈ L, x.l = z6 ∧ x.n = 0) => (show LoP 65 3 59 w xs (.returned (.tuple #[u, .bool true])) w' from ⟨hb, .inr ⟨hv, u, L, rfl, h1, h2, h3⟩⟩))
  generalize LoP 65 3 59 w xs = POST at *
  go_enter Try.func34, Try.ntmps34
  go_wp2_with fail
  refine HV.out.mono ?_
  rintro e w1 ⟨rfl, hb1⟩
  have Hb1 := Lib.hid hb1; clear hb1 HV
  cases hv : vldB xs with
  | false =>
    have Hv := Lib.hid hv; clear hv
    go_wp2
    exact Hno.out _ Hb1.out Hv.out
  | true =>
  have hx16 := vld_len hv
  have hva : ∀ x ∈ xs, txB x = true := fun x hx => List.all_eq_true.1 (vld_all hv) x hx
  have Hv := Lib.hid hv; have Hva := Lib.hid hva; clear hv Hno
  go_wp2_with fail
  refine (impl_groupsOf xs a cap fp w1 hbig hva (H.out.under Hb1.out)).mono ?_
  rintro e w2 ⟨rfl, hb2⟩
  clear hva
  have Hb2 := Lib.hid (below_step Hb1.out Hb1.out.size hb2); clear hb2
  have Hgf := Lib.hid (fun i (hi : i < xs.length) => (gd_tx hi : xs.getD i tx0 = xs[i]))
  unfold c6
  have hb3 : Below w.heap.size w ((w2.alloc (.cells #[.int .i64 (gd (gpL xs) 0), .int .i64 (gd (gpL xs) 1), .int .i64 (gd (gpL xs) 2), .int .i64 (gd (gpL xs) 3), .int .i64 (gd (gpL xs) 4), .int .i64 (gd (gpL xs) 5)] 82)).alloc (.cells #[] 59)) := ((Hb2.out.alloc Hb2.out.size _).alloc (by have := Hb2.out.size; simp only [World.size_alloc]; omega) _)
  have s3 := (Str.new w2 82 (c6 (gpL xs))).alloc (.cells #[] 59)
  have o3 := OwnC.empty 59 (w2.alloc (.cells #[.int .i64 (gd (gpL xs) 0), .int .i64 (gd (gpL xs) 1), .int .i64 (gd (gpL xs) 2), .int .i64 (gd (gpL xs) 3), .int .i64 (gd (gpL xs) 4), .int .i64 (gd (gpL xs) 5)] 82)) (B := w.heap.size) (by have := Hb2.out.size; simp only [World.size_alloc]; omega)
  have hb4 := hb3.alloc hb3.size (.cells #[.pointer none, .pointer none, .pointer none, .pointer none, .pointer none, .pointer none] 84)
  have s4 := s3.alloc (.cells #[.pointer none, .pointer none, .pointer none, .pointer none, .pointer none, .pointer none] 84)
  have o4 := o3.kept (World.grownBy_alloc _ (.cells #[.pointer none, .pointer none, .pointer none, .pointer none, .pointer none, .pointer none] 84) none) (.inr (fun e => by cases e))
  have q4 := Str.new ((w2.alloc (.cells #[.int .i64 (gd (gpL xs) 0), .int .i64 (gd (gpL xs) 1), .int .i64 (gd (gpL xs) 2), .int .i64 (gd (gpL xs) 3), .int .i64 (gd (gpL xs) 4), .int .i64 (gd (gpL xs) 5)] 82)).alloc (.cells #[] 59)) 84 #[.pointer none, .pointer none, .pointer none, .pointer none, .pointer none, .pointer none]
  have hz4 : ((w2.alloc (.cells #[.int .i64 (gd (gpL xs) 0), .int .i64 (gd (gpL xs) 1), .int .i64 (gd (gpL xs) 2), .int .i64 (gd (gpL xs) 3), .int .i64 (gd (gpL xs) 4), .int .i64 (gd (gpL xs) 5)] 82)).alloc (.cells #[] 59)).heap.size = w2.heap.size + 2 := by simp
  rw [hz4] at q4
  have LS := Lib.hid (show Lvt 65 3 59 82 84 w w2.heap.size (w2.heap.size + 2) (gpL xs) (fun _ => .pointer none) (((w2.alloc (.cells #[.int .i64 (gd (gpL xs) 0), .int .i64 (gd (gpL xs) 1), .int .i64 (gd (gpL xs) 2), .int .i64 (gd (gpL xs) 3), .int .i64 (gd (gpL xs) 4), .int .i64 (gd (gpL xs) 5)] 82)).alloc (.cells #[] 59)).alloc (.cells #[.pointer none, .pointer none, .pointer none, .pointer none, .pointer none, .pointer none] 84)) _ [] from
    ⟨⟨o4, LnM.nil _ _ _ _⟩, s4, q4, (fun _ h => (by cases h)), Hb2.out.size, by have := Hb2.out.size; omega, hb4⟩)
  have hsz1 : (w2.alloc (.cells #[.int .i64 (gd (gpL xs) 0), .int .i64 (gd (gpL xs) 1), .int .i64 (gd (gpL xs) 2), .int .i64 (gd (gpL xs) 3), .int .i64 (gd (gpL xs) 4), .int .i64 (gd (gpL xs) 5)] 82)).heap.size = w2.heap.size + 1 := by simp
  have hsz2 : (((w2.alloc (.cells #[.int .i64 (gd (gpL xs) 0), .int .i64 (gd (gpL xs) 1), .int .i64 (gd (gpL xs) 2), .int .i64 (gd (gpL xs) 3), .int .i64 (gd (gpL xs) 4), .int .i64 (gd (gpL xs) 5)] 82)).alloc (.cells #[] 59)).alloc (.cells #[.pointer none, .pointer none, .pointer none, .pointer none, .pointer none, .pointer none] 84)).heap.size = w2.heap.size + 3 := by simp
  clear hb3 s3 o3 hb4 s4 o4 q4
  go_wp2
  generalize (((w2.alloc (.cells #[.int .i64 (gd (gpL xs) 0), .int .i64 (gd (gpL xs) 1), .int .i64 (gd (gpL xs) 2), .int .i64 (gd (gpL xs) 3), .int .i64 (gd (gpL xs) 4), .int .i64 (gd (gpL xs) 5)] 82)).alloc (.cells #[] 59)).alloc (.cells #[.pointer none, .pointer none, .pointer none, .pointer none, .pointer none, .pointer none] 84)) = W4 at *
  clear hz4
  go_loopw [5, 18] (fun u q wr => ∃ (i : Nat) (f : Nat → Value) (L : List La), i ≤ xs.length ∧ q = .int .i64 i ∧ Lvt 65 3 59 82 84 w w2.heap.size (w2.heap.size + 2) (gpL xs) f wr u L ∧ Ixs xs i f (L.map La.b) ∧ L.map La.os = lsS xs i) (fun _ q _ => xs.length - (intOf q).toNat)
  case atStart =>
    refine ⟨0, _, [], Nat.zero_le _, rfl, ?_, ixs_zero xs, rfl⟩
    first | exact LS.out | (rw [hsz1] at LS; exact LS.out)
  case round =>
    clear LS hsz1 hsz2
    obtain ⟨i, f, L, hi, rfl, hs, hix, hos⟩ := hrel
    have LS := Lib.hid hs; have IX := Lib.hid hix; have OS := Lib.hid hos; clear hs hix hos
    obtain ⟨au, cu, rfl, hum⟩ := LS.out.ln.own.slice
    by_cases hlt : i < xs.length
    case neg =>
      have hie : i = xs.length := by omega
      subst hie
      have hlt' : ¬ (xs.length : Int) < (xs.length : Int) := by omega
      go_wp2
      rw [List.length_map] at LS
      exact Hyes.out _ _ L LS.out.bel Hv.out LS.out.ln (by rw [OS.out]; exact ls_all xs) LS.out.z
    case pos =>
      have hlt' : (i : Int) < (xs.length : Int) := by omega
      obtain ⟨b, off, rfl, hbb, hat⟩ := (H.out.under LS.out.bel).at (by omega)
      obtain ⟨c0, c1, c2, c3⟩ := hat i hlt
      clear hat
      have hf6 := (tx_lt (Hva.out _ (List.getElem_mem hlt))).1
      have ef := (tx_lt (Hva.out _ (List.getElem_mem hlt))).2.2.1
      have Egf := Lib.hid (show gf xs i = gd (gpL xs) xs[i].f.toNat by unfold gf; rw [Hgf.out i hlt])
      obtain ⟨hg0, hg5⟩ := gf_rng Hva.out hlt
      obtain ⟨g, hg⟩ : ∃ g : Nat, gf xs i = (g : Int) := ⟨(gf xs i).toNat, by omega⟩
      have hg6 : g < 6 := by omega
      have hg6' : (g : Int) < 6 := by omega
      have hgg : gd (gpL xs) xs[i].f.toNat = (g : Int) := by rw [← Egf.out]; exact hg
      have Hg := Lib.hid hg; clear hg hg0 hg5 Egf
      generalize xs[i] = x at *
      obtain ⟨xf, xt, xs', xe⟩ := x
      dsimp only at *
      obtain ⟨fi, hfi⟩ : ∃ fi : Nat, fi = xf.toNat := ⟨_, rfl⟩
      rw [← hfi] at hf6 ef hgg
      clear hfi
      subst ef
      have hf6' : (fi : Int) < 6 := by omega
      have hal : Below wr.heap.size wr (wr.alloc (.cells #[.int .i64 fi, .int .i64 xt, .int .i64 xs', .int .i64 xe] 25)) := (Below.refl _ _).alloc (Nat.le_refl _) _
      have LS := Lib.hid (LS.out.below hal)
      have hcg := LS.out.gs.cell fi (c6_at _ hf6)
      rw [hgg] at hcg
      have hco := LS.out.og.cell g (o6_at f hg6)
      have hfo := LS.out.og.frozen g
      clear hal hgg hf6
      rcases IX.out.2 g hg6 with ⟨hfn, hno⟩ | ⟨p, hp, hfp, hgp⟩
      case inr =>
        rw [List.length_map] at hp
        rw [getD_lt (by rw [List.length_map]; exact hp), List.getElem_map] at hfp
        obtain ⟨FX0, FO0, hol⟩ := fin_old Hva.out hlt IX.out OS.out Hg.out hp hgp
        have FX := Lib.hid FX0; have FO := Lib.hid FO0; clear FX0 FO0 hgp IX OS
        obtain ⟨L2, rfl⟩ : ∃ L2, L2 = L := ⟨_, rfl⟩
        obtain ⟨f2, rfl⟩ : ∃ f2, f2 = f := ⟨_, rfl⟩
        rw [hfp] at hco
        unfold ptC at hco
        go_wp2_with fail
        generalize (wr.alloc (.cells #[.int .i64 fi, .int .i64 xt, .int .i64 xs', .int .i64 xe] 25)) = W5 at *
        clear hco hfo c0 c1 c2 c3 hcg
        have LD := Lib.hid (show Lvt 65 3 59 82 84 w w2.heap.size (w2.heap.size + 2) (gpL xs) f2 W5.drew _ L2 from LS.out.below (Below.refl _ _).drew)
        have hco := LS.out.og.cell g (o6_at f2 hg6)
        rw [hfp] at hco
        have hcv := (LS.out.ln.lns.str _ (List.getElem_mem hp)).2.cell 7 (v := L2[p].v) rfl
        have hob := LS.out.og.lt
        have hbl := (LS.out.ln.lns.str _ (List.getElem_mem hp)).2.lt
        have HO := Lib.hid (LD.out.ln.lns.row _ (List.getElem_mem hp))
        have HA := Lib.hid (fun w9 v9 h1 h2 h3 => LD.out.add hp (i := i) (W' := w9) (v8 := v9) h1 h2 h3 (by decide) (by decide) (by decide) (by decide) (by decide) (by decide) (by decide))
        have HRd := Lib.hid (fun w9 h1 => LD.out.read hp (W' := w9) h1 (by decide) (by decide))
        have FB := Lib.hid (fun v => set_bs hp L2[p].l L2[p].n (L2[p].os ++ [i]) v)
        have hwz := LD.out.bel.size
        clear LS LD
        generalize L2[p] = y at *
        obtain ⟨yl, yn, yo, yb, yv⟩ := y
        dsimp only at *
        obtain ⟨ay, cy, rfl, _, _⟩ := HO.out.ints
        have hln : (zs yo).length ≤ 1099511627776 := by rw [zs_len]; omega
        unfold ptC at hco hfp
        go_wp2_with fail
        refine wp_region_L 14 (fun W => W.cell? ⟨w2.heap.size + 2, g, none⟩ = some (.pointer (some ⟨yb, 0, none⟩)) ∧ W.cell? ⟨yb, 7, none⟩ = some (.slice ay (zs yo).length cy)) (by kernel_rfl) ⟨hco, hcv⟩ (fun hH => ?_)
        replace hob : w2.heap.size + 2 < W5.drew.heap.size := hob
        replace hbl : yb < W5.drew.heap.size := hbl
        generalize W5.drew = Wd at *
        clear hco hcv
        refine takeL 0 (v := ?vta1) rfl (by kernel_rfl) (by kernel_rfl) (by kernel_rfl) (by kernel_rfl) (by kernel_rfl) (fun _ _ _ h => h) hH rfl ?yta1 ?rta1
        case yta1 => intro W hSw; go_simp; try with_reducible rfl
        try simp only [Act.put, List.setIfInBounds_toArray, List.set_cons_zero, List.set_cons_succ]
        refine takeL 1 (v := ?vta2) rfl (by kernel_rfl) (by kernel_rfl) (by kernel_rfl) (by kernel_rfl) (by kernel_rfl) (fun _ _ _ h => h) hH rfl ?yta2 ?rta2
        case yta2 => intro W hSw; go_simp; try with_reducible rfl
        try simp only [Act.put, List.setIfInBounds_toArray, List.set_cons_zero, List.set_cons_succ]
        refine takeL 2 (v := ?vta3) rfl (by kernel_rfl) (by kernel_rfl) (by kernel_rfl) (by kernel_rfl) (by kernel_rfl) (fun _ _ _ h => h) hH rfl ?yta3 ?rta3
        case yta3 => intro W hSw; have hS1 := hSw.1; go_simp; try with_reducible rfl
        try simp only [Act.put, List.setIfInBounds_toArray, List.set_cons_zero, List.set_cons_succ]
        refine takeL 3 (v := ?vta4) rfl (by kernel_rfl) (by kernel_rfl) (by kernel_rfl) (by kernel_rfl) (by kernel_rfl) (fun _ _ _ h => h) hH rfl ?yta4 ?rta4
        case yta4 => intro W hSw; go_simp; try with_reducible rfl
        try simp only [Act.put, List.setIfInBounds_toArray, List.set_cons_zero, List.set_cons_succ]
        refine takeL 4 (v := ?vta5) rfl (by kernel_rfl) (by kernel_rfl) (by kernel_rfl) (by kernel_rfl) (by kernel_rfl) (fun _ _ _ h => h) hH rfl ?yta5 ?rta5
        case yta5 => intro W hSw; go_simp; try with_reducible rfl
        try simp only [Act.put, List.setIfInBounds_toArray, List.set_cons_zero, List.set_cons_succ]
        refine takeL 5 (v := ?vta6) rfl (by kernel_rfl) (by kernel_rfl) (by kernel_rfl) (by kernel_rfl) (by kernel_rfl) (fun _ _ _ h => h) hH rfl ?yta6 ?rta6
        case yta6 => intro W hSw; have hS1 := hSw.1; go_simp; try with_reducible rfl
        try simp only [Act.put, List.setIfInBounds_toArray, List.set_cons_zero, List.set_cons_succ]
        refine takeL 6 (v := ?vta7) rfl (by kernel_rfl) (by kernel_rfl) (by kernel_rfl) (by kernel_rfl) (by kernel_rfl) (fun _ _ _ h => h) hH rfl ?yta7 ?rta7
        case yta7 => intro W hSw; go_simp; try with_reducible rfl
        try simp only [Act.put, List.setIfInBounds_toArray, List.set_cons_zero, List.set_cons_succ]
        refine takeL 7 (v := ?vta8) rfl (by kernel_rfl) (by kernel_rfl) (by kernel_rfl) (by kernel_rfl) (by kernel_rfl) (fun _ _ _ h => h) hH rfl ?yta8 ?rta8
        case yta8 => intro W hSw; go_simp; try with_reducible rfl
        try simp only [Act.put, List.setIfInBounds_toArray, List.set_cons_zero, List.set_cons_succ]
        refine takeL 8 (v := ?vta9) rfl (by kernel_rfl) (by kernel_rfl) (by kernel_rfl) (by kernel_rfl) (by kernel_rfl) (fun _ _ _ h => h) hH rfl ?yta9 ?rta9
        case yta9 => intro W hSw; have hS2 := hSw.2; go_simp; try with_reducible rfl
        try simp only [Act.put, List.setIfInBounds_toArray, List.set_cons_zero, List.set_cons_succ]
        refine takeL 9 (v := ?vta10) rfl (by kernel_rfl) (by kernel_rfl) (by kernel_rfl) (by kernel_rfl) (by kernel_rfl) (fun _ _ _ h => h) hH rfl ?yta10 ?rta10
        case yta10 => intro W hSw; go_simp; try with_reducible rfl
        try simp only [Act.put, List.setIfInBounds_toArray, List.set_cons_zero, List.set_cons_succ]
        refine callL 10 rfl (by kernel_rfl) rfl (fun K hK => ?_)
        go_simp
        have hal : Below Wd.heap.size Wd (Wd.alloc (.cells #[.int .i64 i] 3)) := (Below.refl _ _).alloc (Nat.le_refl _) _
        have hc1 := (hal.cell (p := ⟨w2.heap.size + 2, g, none⟩) hob).trans hH.1
        have hc2 := (hal.cell (p := ⟨yb, 7, none⟩) hbl).trans hH.2
        refine hK.out _ _ ⟨hc1, hc2⟩ (fun hH => ?_)
        clear hK K
        try simp only [Act.put, List.setIfInBounds_toArray, List.set_cons_zero, List.set_cons_succ]
        refine callL 11 rfl (by kernel_rfl) rfl (fun K hK => ?_)
        refine op_push_at TIlp _ (.tmp 49) (.tmp 51) rfl w.heap.size _ (zs yo) i rfl HO.out hln rfl hwz ?_
        intro v9 w9 ho9 hg9 hat9
        obtain ⟨r1, r2⟩ := HRd.out w9 hg9
        have q1 := r1.cell g (o6_at f2 hg6)
        rw [hfp] at q1
        have q2 := r2.cell 7 (v := .slice ay (zs yo).length cy) rfl
        have q3 := r2.frozen 7
        have LF := Lib.hid (HA.out w9 v9 ho9 hg9 hat9)
        obtain ⟨a9, c9, rfl, _, _⟩ := ho9.ints
        clear ho9 hg9 hat9 r1 r2 HRd HA HO hc1 hc2
        refine hK.out _ _ ⟨q1, q2⟩ (fun hH => ?_)
        clear hK K
        try simp only [Act.put, List.setIfInBounds_toArray, List.set_cons_zero, List.set_cons_succ]
        refine callL 12 rfl (by kernel_rfl) rfl (fun K hK => ?_)
        go_simp
        refine hK.out _ _ ⟨q1, q2⟩ (fun hH => ?_)
        clear hK K
        try simp only [Act.put, List.setIfInBounds_toArray, List.set_cons_zero, List.set_cons_succ]
        refine callL 13 rfl (by kernel_rfl) rfl (fun K hK => ?_)
        go_simp
        refine hK.out _ _ ⟨q1, q2⟩ (fun hH => ?_)
        clear hK K
        try simp only [Act.put, List.setIfInBounds_toArray, List.set_cons_zero, List.set_cons_succ]
        refine lastL rfl (by kernel_rfl) (by kernel_rfl) (by kernel_rfl) rfl (fun K hK => ?_)
        go_simp
        refine hK.out _ _ ?_
        clear hK K
        try simp only [Act.put]
        simp only [List.length_append, List.length_map, List.length_singleton] at LF
        clear q1 q2 q3 hH
        go_wp2
        go_roundw
        case rel => exact ⟨i + 1, f2, _, by omega, by go_num, LF.out, by rw [FB.out]; exact FX.out, FO.out _⟩
        case measure => simp [intOf]; omega
      case inl =>
        rw [hfn] at hco
        have hal5 : Below (wr.alloc (.cells #[.int .i64 fi, .int .i64 xt, .int .i64 xs', .int .i64 xe] 25)).heap.size (wr.alloc (.cells #[.int .i64 fi, .int .i64 xt, .int .i64 xs', .int .i64 xe] 25)) ((wr.alloc (.cells #[.int .i64 fi, .int .i64 xt, .int .i64 xs', .int .i64 xe] 25)).alloc (.cells #[.int .i64 0, .int .i64 0, .int .i64 0, .int .i64 0, .int .i64 0, .int .i64 0, .int .i64 0, .slice none 0 0] 65)) := (Below.refl _ _).alloc (Nat.le_refl _) _
        have LS6 := Lib.hid (LS.out.below hal5)
        have hz5 : (wr.alloc (.cells #[.int .i64 fi, .int .i64 xt, .int .i64 xs', .int .i64 xe] 25)).heap.size = wr.heap.size + 1 := by simp
        have sN : Str ((wr.alloc (.cells #[.int .i64 fi, .int .i64 xt, .int .i64 xs', .int .i64 xe] 25)).alloc (.cells #[.int .i64 0, .int .i64 0, .int .i64 0, .int .i64 0, .int .i64 0, .int .i64 0, .int .i64 0, .slice none 0 0] 65)) (wr.alloc (.cells #[.int .i64 fi, .int .i64 xt, .int .i64 xs', .int .i64 xe] 25)).heap.size 65 (c8 z6 0 (.slice none 0 0)) := Str.new (wr.alloc (.cells #[.int .i64 fi, .int .i64 xt, .int .i64 xs', .int .i64 xe] 25)) 65 _
        rw [hz5] at sN
        have hwr := LS.out.bel.size
        rw [hz5] at hwr
        obtain ⟨m1, m2⟩ := LS6.out.make (b := wr.heap.size + 1) hg6 sN hwr (fun x hx e => by have := (LS.out.ln.lns.str x hx).2.lt; rw [hz5] at this; omega) (by decide) (by decide) (by decide) (by decide)
        obtain ⟨L2, hL2⟩ : ∃ L2 : List La, L2 = L ++ [⟨z6, 0, [], wr.heap.size + 1, .slice none 0 0⟩] := ⟨_, rfl⟩
        have hp : L.length < L2.length := by rw [hL2]; simp
        obtain ⟨FX0, FO0, hol, hfp⟩ := fin_new Hva.out hlt IX.out OS.out Hg.out hno (wr.heap.size + 1) hL2 hp
        generalize hpp : L.length = p at hp FX0 FO0 hol hfp
        clear hpp
        have hll : (L.map fun x => ptC x.b).length ≤ 1048576 := by
          have h1 := IX.out.1; have h2 := rt_len xs i
          rw [List.length_map] at h1 ⊢; omega
        have hc6 := (hal5.cell (p := ⟨w2.heap.size + 2, g, none⟩) LS.out.og.lt).trans hco
        have hf6 := LS6.out.og.frozen g
        have M1 := Lib.hid m1; have M2 := Lib.hid m2; have FX := Lib.hid FX0; have FO := Lib.hid FO0; have HL2 := Lib.hid hL2
        have hw7 := M1.out.bel.size
        have hz7 : (((wr.alloc (.cells #[.int .i64 fi, .int .i64 xt, .int .i64 xs', .int .i64 xe] 25)).alloc (.cells #[.int .i64 0, .int .i64 0, .int .i64 0, .int .i64 0, .int .i64 0, .int .i64 0, .int .i64 0, .slice none 0 0] 65)).setCell ⟨w2.heap.size + 2, g, none⟩ (.pointer (some ⟨wr.heap.size + 1, 0, none⟩))).heap.size = wr.heap.size + 1 + 1 := by simp
        clear m1 m2 FX0 FO0 hL2 IX OS hal5 sN hno LS LS6
        generalize hf2 : upF f g (ptC (wr.heap.size + 1)) = f2 at *
        clear hf2
        go_wp2_with (at_builtin; refine wpList_pushC Try.underlying56 pl_inf rfl (by decide) rfl (.tmp 35) (.tmp 39) rfl rfl M1.out.ln.own rfl hll (by rw [hz7]; rfl) hw7 ?_; intro v8 w8 ho8 hg8 hat8; (have LS := Lib.hid (M1.out.push M2.out ho8 hg8 (by decide) (by decide) (by decide) (by decide))); (rw [← HL2.out] at LS); (obtain ⟨a8, c8', rfl, _⟩ := ho8.slice); clear ho8 hg8 hat8)
        simp only [List.length_append, List.length_map, List.length_singleton] at LS ⊢
        clear hco hc6 hfo hf6 c0 c1 c2 c3 hcg M1 M2
        have LD := Lib.hid (show Lvt 65 3 59 82 84 w w2.heap.size (w2.heap.size + 2) (gpL xs) f2 w8.drew _ L2 from LS.out.below (Below.refl _ _).drew)
        have hco := LS.out.og.cell g (o6_at f2 hg6)
        rw [hfp] at hco
        have hcv := (LS.out.ln.lns.str _ (List.getElem_mem hp)).2.cell 7 (v := L2[p].v) rfl
        have hob := LS.out.og.lt
        have hbl := (LS.out.ln.lns.str _ (List.getElem_mem hp)).2.lt
        have HO := Lib.hid (LD.out.ln.lns.row _ (List.getElem_mem hp))
        have HA := Lib.hid (fun w9 v9 h1 h2 h3 => LD.out.add hp (i := i) (W' := w9) (v8 := v9) h1 h2 h3 (by decide) (by decide) (by decide) (by decide) (by decide) (by decide) (by decide))
        have HRd := Lib.hid (fun w9 h1 => LD.out.read hp (W' := w9) h1 (by decide) (by decide))
        have FB := Lib.hid (fun v => set_bs hp L2[p].l L2[p].n (L2[p].os ++ [i]) v)
        have hwz := LD.out.bel.size
        clear LS LD
        generalize L2[p] = y at *
        obtain ⟨yl, yn, yo, yb, yv⟩ := y
        dsimp only at *
        obtain ⟨ay, cy, rfl, _, _⟩ := HO.out.ints
        have hln : (zs yo).length ≤ 1099511627776 := by rw [zs_len]; omega
        unfold ptC at hco hfp
        go_wp2_with fail
        refine wp_region_L 14 (fun W => W.cell? ⟨w2.heap.size + 2, g, none⟩ = some (.pointer (some ⟨yb, 0, none⟩)) ∧ W.cell? ⟨yb, 7, none⟩ = some (.slice ay (zs yo).length cy)) (by kernel_rfl) ⟨hco, hcv⟩ (fun hH => ?_)
        replace hob : w2.heap.size + 2 < w8.drew.heap.size := hob
        replace hbl : yb < w8.drew.heap.size := hbl
        generalize w8.drew = Wd at *
        clear hco hcv
        refine takeL 0 (v := ?vtb1) rfl (by kernel_rfl) (by kernel_rfl) (by kernel_rfl) (by kernel_rfl) (by kernel_rfl) (fun _ _ _ h => h) hH rfl ?ytb1 ?rtb1
        case ytb1 => intro W hSw; go_simp; try with_reducible rfl
        try simp only [Act.put, List.setIfInBounds_toArray, List.set_cons_zero, List.set_cons_succ]
        refine takeL 1 (v := ?vtb2) rfl (by kernel_rfl) (by kernel_rfl) (by kernel_rfl) (by kernel_rfl) (by kernel_rfl) (fun _ _ _ h => h) hH rfl ?ytb2 ?rtb2
        case ytb2 => intro W hSw; go_simp; try with_reducible rfl
        try simp only [Act.put, List.setIfInBounds_toArray, List.set_cons_zero, List.set_cons_succ]
        refine takeL 2 (v := ?vtb3) rfl (by kernel_rfl) (by kernel_rfl) (by kernel_rfl) (by kernel_rfl) (by kernel_rfl) (fun _ _ _ h => h) hH rfl ?ytb3 ?rtb3
        case ytb3 => intro W hSw; have hS1 := hSw.1; go_simp; try with_reducible rfl
        try simp only [Act.put, List.setIfInBounds_toArray, List.set_cons_zero, List.set_cons_succ]
        refine takeL 3 (v := ?vtb4) rfl (by kernel_rfl) (by kernel_rfl) (by kernel_rfl) (by kernel_rfl) (by kernel_rfl) (fun _ _ _ h => h) hH rfl ?ytb4 ?rtb4
        case ytb4 => intro W hSw; go_simp; try with_reducible rfl
        try simp only [Act.put, List.setIfInBounds_toArray, List.set_cons_zero, List.set_cons_succ]
        refine takeL 4 (v := ?vtb5) rfl (by kernel_rfl) (by kernel_rfl) (by kernel_rfl) (by kernel_rfl) (by kernel_rfl) (fun _ _ _ h => h) hH rfl ?ytb5 ?rtb5
        case ytb5 => intro W hSw; go_simp; try with_reducible rfl
        try simp only [Act.put, List.setIfInBounds_toArray, List.set_cons_zero, List.set_cons_succ]
        refine takeL 5 (v := ?vtb6) rfl (by kernel_rfl) (by kernel_rfl) (by kernel_rfl) (by kernel_rfl) (by kernel_rfl) (fun _ _ _ h => h) hH rfl ?ytb6 ?rtb6
        case ytb6 => intro W hSw; have hS1 := hSw.1; go_simp; try with_reducible rfl
        try simp only [Act.put, List.setIfInBounds_toArray, List.set_cons_zero, List.set_cons_succ]
        refine takeL 6 (v := ?vtb7) rfl (by kernel_rfl) (by kernel_rfl) (by kernel_rfl) (by kernel_rfl) (by kernel_rfl) (fun _ _ _ h => h) hH rfl ?ytb7 ?rtb7
        case ytb7 => intro W hSw; go_simp; try with_reducible rfl
        try simp only [Act.put, List.setIfInBounds_toArray, List.set_cons_zero, List.set_cons_succ]
        refine takeL 7 (v := ?vtb8) rfl (by kernel_rfl) (by kernel_rfl) (by kernel_rfl) (by kernel_rfl) (by kernel_rfl) (fun _ _ _ h => h) hH rfl ?ytb8 ?rtb8
        case ytb8 => intro W hSw; go_simp; try with_reducible rfl
        try simp only [Act.put, List.setIfInBounds_toArray, List.set_cons_zero, List.set_cons_succ]
        refine takeL 8 (v := ?vtb9) rfl (by kernel_rfl) (by kernel_rfl) (by kernel_rfl) (by kernel_rfl) (by kernel_rfl) (fun _ _ _ h => h) hH rfl ?ytb9 ?rtb9
        case ytb9 => intro W hSw; have hS2 := hSw.2; go_simp; try with_reducible rfl
        try simp only [Act.put, List.setIfInBounds_toArray, List.set_cons_zero, List.set_cons_succ]
        refine takeL 9 (v := ?vtb10) rfl (by kernel_rfl) (by kernel_rfl) (by kernel_rfl) (by kernel_rfl) (by kernel_rfl) (fun _ _ _ h => h) hH rfl ?ytb10 ?rtb10
        case ytb10 => intro W hSw; go_simp; try with_reducible rfl
        try simp only [Act.put, List.setIfInBounds_toArray, List.set_cons_zero, List.set_cons_succ]
        refine callL 10 rfl (by kernel_rfl) rfl (fun K hK => ?_)
        go_simp
        have hal : Below Wd.heap.size Wd (Wd.alloc (.cells #[.int .i64 i] 3)) := (Below.refl _ _).alloc (Nat.le_refl _) _
        have hc1 := (hal.cell (p := ⟨w2.heap.size + 2, g, none⟩) hob).trans hH.1
        have hc2 := (hal.cell (p := ⟨yb, 7, none⟩) hbl).trans hH.2
        refine hK.out _ _ ⟨hc1, hc2⟩ (fun hH => ?_)
        clear hK K
        try simp only [Act.put, List.setIfInBounds_toArray, List.set_cons_zero, List.set_cons_succ]
        refine callL 11 rfl (by kernel_rfl) rfl (fun K hK => ?_)
        refine op_push_at TIlp _ (.tmp 49) (.tmp 51) rfl w.heap.size _ (zs yo) i rfl HO.out hln rfl hwz ?_
        intro v9 w9 ho9 hg9 hat9
        obtain ⟨r1, r2⟩ := HRd.out w9 hg9
        have q1 := r1.cell g (o6_at f2 hg6)
        rw [hfp] at q1
        have q2 := r2.cell 7 (v := .slice ay (zs yo).length cy) rfl
        have q3 := r2.frozen 7
        have LF := Lib.hid (HA.out w9 v9 ho9 hg9 hat9)
        obtain ⟨a9, c9, rfl, _, _⟩ := ho9.ints
        clear ho9 hg9 hat9 r1 r2 HRd HA HO hc1 hc2
        refine hK.out _ _ ⟨q1, q2⟩ (fun hH => ?_)
        clear hK K
        try simp only [Act.put, List.setIfInBounds_toArray, List.set_cons_zero, List.set_cons_succ]
        refine callL 12 rfl (by kernel_rfl) rfl (fun K hK => ?_)
        go_simp
        refine hK.out _ _ ⟨q1, q2⟩ (fun hH => ?_)
        clear hK K
        try simp only [Act.put, List.setIfInBounds_toArray, List.set_cons_zero, List.set_cons_succ]
        refine callL 13 rfl (by kernel_rfl) rfl (fun K hK => ?_)
        go_simp
        refine hK.out _ _ ⟨q1, q2⟩ (fun hH => ?_)
        clear hK K
        try simp only [Act.put, List.setIfInBounds_toArray, List.set_cons_zero, List.set_cons_succ]
        refine lastL rfl (by kernel_rfl) (by kernel_rfl) (by kernel_rfl) rfl (fun K hK => ?_)
        go_simp
        refine hK.out _ _ ?_
        clear hK K
        try simp only [Act.put]
        simp only [List.length_append, List.length_singleton] at LF
        clear q1 q2 q3 hH
        go_wp2
        go_roundw
        case rel => exact ⟨i + 1, f2, _, by omega, by go_num, LF.out, by rw [FB.out]; exact FX.out, FO.out _⟩
        case measure => simp [intOf]; omega

end Go.Proofs.Ytnjjbplocokdeab

/- The program's lists of lanes and their depth, each by a walk of its text; condition: the list is shorter than 2^40. -/
namespace Go.Proofs.Ytnjjbplocokdeab
open Go.RowKit

section
variable {T E Ep : TypeId} {w w' : World} {B : Nat} {u : Value} {L : List La}
theorem LnM.mono {B' : Nat} (h : LnM T E w B L) (hB : B' ≤ B) : LnM T E w B' L := ⟨fun x hx => ⟨Nat.le_trans hB (h.str x hx).1, (h.str x hx).2⟩, fun x hx => (h.row x hx).mono hB, h.nd⟩
theorem Lnw.mono {B' : Nat} (h : Lnw T E Ep w B u L) (hB : B' ≤ B) : Lnw T E Ep w B' u L := ⟨h.own.mono hB, h.lns.mono hB⟩
/-- A row of another type grows. -/
theorem Lnw.kept (h : Lnw T E Ep w B u L) {v : Value} {t : TypeId} (hg : w.grownBy w' v.ownBlock) (hv : ∀ g, v.ownBlock = some g → ∃ cur, w.heap[g]? = some (.cells cur t)) (h1 : t ≠ T) (h2 : t ≠ E) (h3 : t ≠ Ep) : Lnw T E Ep w' B u L := by
  refine ⟨h.own.same fun g e => hg.block g (h.own.lt g e).2 fun e' => ?_, h.lns.grown hg (fun x hx e => ?_) fun x hx g e e' => ?_⟩
  · obtain ⟨c1, hc1⟩ := hv g e'.symm
    obtain ⟨c2, hc2⟩ := h.own.typ e
    rw [hc1] at hc2
    injection hc2 with hc2
    injection hc2 with _ h6
    exact h3 h6
  · obtain ⟨c1, hc1⟩ := hv _ e
    have := (h.lns.str x hx).2
    unfold Str at this
    rw [hc1] at this
    injection this with this
    injection this with _ h6
    exact h1 h6
  · obtain ⟨c1, hc1⟩ := hv g e'
    obtain ⟨c2, hc2⟩ := (h.lns.row x hx).typ e
    rw [hc1] at hc2
    injection hc2 with hc2
    injection hc2 with _ h6
    exact h2 h6
/-- A lane's pointer, and its list of indexes. -/
theorem Lnw.at (h : Lnw T E Ep w B u L) {k : Nat} (hk : k < L.length) : ∃ g cap, u = .slice (some ⟨g, 0, none⟩) L.length cap ∧ w.cell? ⟨g, k, none⟩ = some (.pointer (some ⟨L[k].b, 0, none⟩)) ∧ w.cell? ⟨L[k].b, 7, none⟩ = some L[k].v ∧ ∃ a c, L[k].v = .slice a L[k].os.length c := by
  obtain ⟨g, cap, hu, _, _, hc⟩ := h.own.row (by simpa using (by omega : 0 < L.length))
  obtain ⟨a, c, e, _, _⟩ := (h.lns.row _ (List.getElem_mem hk)).ints
  refine ⟨g, cap, by rw [hu]; simp, ?_, (h.lns.str _ (List.getElem_mem hk)).2.cell 7 rfl, a, c, by rw [e, zs_len]⟩
  have := hc k (by simpa using hk)
  simpa [ptC] using this
end
theorem one_slice (a : Option Addr) (n c : Nat) : (Value.slice a n c).oneCell' = true := rfl

theorem rw_inf : (Try.prog.info? 40).map (fun i => (i.zero, i.size, i.bytes)) = some (some (.slice none 0 0), 1, 24) := by kernel_rfl
set_option maxRecDepth 8000 in
set_option maxHeartbeats 2000000 in
theorem impl_LanesOf (xs : List Tx) (a : Option Addr) (cap : Nat) (fp : List Nat) (w : World) (hbig : xs.length ≤ 1099511627776) (h : Txs w xs (.slice a xs.length cap) fp) :
    Calls Try.prog 13 #[.slice a xs.length cap] w fun e w' => ∃ u, e = .returned u ∧ OwnL 40 3 w' w.heap.size u (lnsN xs) ∧ Below w.heap.size w w' := by
  have hb0 : Below w.heap.size w (w.alloc (.cells #[] 40)) := (Below.refl _ _).alloc (Nat.le_refl _) _
  have ho0 := OwnC.empty 40 w (Nat.le_refl _)
  have H := Lib.hid (h.under hb0); have Hb := Lib.hid hb0; have Ho := Lib.hid ho0; clear h hb0 ho0
  have Hno := Lib.hid (lns_no (xs := xs))
  have Hyes := Lib.hid (lns_yes (xs := xs))
  have Hlen := Lib.hid (vld_len (xs := xs))
  have Hcnt := Lib.hid (lanes_cnt xs)
  have hz : (w.alloc (.cells #[] 40)).heap.size = w.heap.size + 1 := by simp
  go_enter Try.func13, Try.ntmps13
  go_wp2_with fail
  generalize (w.alloc (.cells #[] 40)) = W0 at *
  refine (impl_lanesOf xs a cap fp W0 hbig H.out).mono ?_
  rintro e w1 ⟨hb1, ⟨hv, rfl⟩ | ⟨hv, u, L, rfl, hl, hos, hz0⟩⟩
  · have Hl := Lib.hid (Hno.out hv).1
    have HO := Lib.hid (Ho.out.below hb1)
    have Hb := Lib.hid (below_step Hb.out Hb.out.size hb1); clear hb1 hv hz
    go_wp2
    go_loopw [3, 16] (fun u i wr => u = .slice (some ⟨w.heap.size, 0, none⟩) 0 0 ∧ i = .int .i64 0 ∧ wr = w1) (fun _ _ _ => 0)
    case atStart => exact ⟨rfl, rfl, rfl⟩
    case round =>
      obtain ⟨rfl, rfl, rfl⟩ := hrel
      go_wp2
      go_ret
      refine ⟨_, rfl, ?_, Hb.out⟩
      rw [Hl.out]
      exact OwnR.nil HO.out (fun g e => (HO.out.lt g e).2)
  · have Hl := Lib.hid (Hyes.out hv).1
    have hlen := Hlen.out hv
    have HO := Lib.hid (Ho.out.below hb1)
    have HL := Lib.hid (hl.mono Hb.out.size)
    have Hb := Lib.hid (below_step Hb.out Hb.out.size hb1)
    have hll : L.length ≤ 16 := by
      have h1 := Hcnt.out
      rw [← hos, List.length_map] at h1
      omega
    have Hos := Lib.hid hos; clear hb1 hv hz hz0 hos hl hlen
    obtain ⟨au, cu, rfl, _⟩ := HL.out.own.slice
    rw [List.length_map] at HL
    go_wp2
    go_loopw [3, 16] (fun u i wr => ∃ k : Nat, k ≤ L.length ∧ i = .int .i64 k ∧ OwnC 40 wr w.heap.size u ((L.take k).map La.v) ∧ Lnw 65 3 59 wr w.heap.size (.slice au L.length cu) L ∧ Below w.heap.size w wr) (fun _ i _ => L.length - (intOf i).toNat)
    case atStart => exact ⟨0, Nat.zero_le _, rfl, HO.out, HL.out, Hb.out⟩
    case round =>
      clear HO HL Hb
      obtain ⟨k, hk, rfl, ho, hl, hb⟩ := hrel
      have HO := Lib.hid ho; have HL := Lib.hid hl; have Hb := Lib.hid hb; clear ho hl hb
      obtain ⟨av, cv, rfl, _⟩ := HO.out.slice
      by_cases hlt : k < L.length
      case neg =>
        have hke : k = L.length := by omega
        subst hke
        rw [List.take_length] at HO
        have hlt' : ¬ (L.length : Int) < (L.length : Int) := by omega
        go_wp2
        go_ret
        refine ⟨_, rfl, ?_, Hb.out⟩
        rw [Hl.out, ← Hos.out]
        have := ownL_of HL.out.lns HO.out (by decide)
        simpa using this
      case pos =>
        have hlt' : (k : Int) < (L.length : Int) := by omega
        obtain ⟨g, cap', e1, c1, c2, ay, cy, e2⟩ := HL.out.at hlt
        simp only [Value.slice.injEq] at e1
        obtain ⟨rfl, -, -⟩ := e1
        have Hs := Lib.hid (show (L.take (k + 1)).map La.v = (L.take k).map La.v ++ [.slice ay L[k].os.length cy] by rw [List.take_succ_eq_append_getElem hlt, List.map_append, List.map_singleton, e2])
        rw [e2] at c2
        have hol : ((L.take k).map La.v).length ≤ 1048576 := by simp; omega
        have hB := Hb.out.size
        clear e2
        generalize L[k] = y at *
        obtain ⟨yl, yn, yo, yb, yv⟩ := y
        dsimp only at *
        generalize yo.length = yn' at *
        go_wp2_with (at_builtin; refine wpList_pushC Try.underlying30 rw_inf rfl (by decide) rfl (.tmp 20) (.tmp 25) rfl rfl HO.out rfl hol rfl hB ?_; intro v9 w9 ho9 hg9 hat9)
        go_roundw
        case rel => exact ⟨k + 1, by omega, by go_num, by rw [Hs.out]; exact ho9, HL.out.kept hg9 (fun g e => HO.out.typ e) (by decide) (by decide) (by decide), Hb.out.grown hg9 Hb.out.size (fun g e => (HO.out.lt g e).1)⟩
        case measure => simp [intOf]; omega

set_option maxRecDepth 8000 in
set_option maxHeartbeats 2000000 in
theorem impl_LanesDepth (xs : List Tx) (a : Option Addr) (cap : Nat) (fp : List Nat) (w : World) (hbig : xs.length ≤ 1099511627776) (h : Txs w xs (.slice a xs.length cap) fp) :
    Calls Try.prog 20 #[.slice a xs.length cap] w fun e w' => e = .returned (.int .i64 (dpZ xs)) ∧ Below w.heap.size w w' := by
  have HV := Lib.hid (impl_lanesOf xs a cap fp w hbig h); clear h
  have Hno := Lib.hid (lns_no (xs := xs))
  have Hyes := Lib.hid (lns_yes (xs := xs))
  generalize dpZ xs = D at *
  go_enter Try.func20, Try.ntmps20
  go_wp2_with fail
  refine HV.out.mono ?_
  rintro e w1 ⟨hb1, ⟨hv, rfl⟩ | ⟨hv, u, L, rfl, hl, hos, hz0⟩⟩
  · have Hd := Lib.hid (Hno.out hv).2
    have Hb := Lib.hid hb1; clear hb1 hv
    go_wp2
    go_ret
    exact ⟨ret_int (by rw [Hd.out]), Hb.out⟩
  · have Hd := Lib.hid (show (maxL (L.map La.os) : Int) = D by rw [hos]; exact (Hyes.out hv).2.symm)
    have HL := Lib.hid hl
    have Hb := Lib.hid hb1; clear hb1 hv hz0 hos hl HV
    obtain ⟨au, cu, rfl, hum⟩ := HL.out.own.slice
    rw [List.length_map] at HL hum
    unfold maxLen at hum
    go_wp2
    go_loopw [5, 17] (fun v i wr => ∃ k : Nat, k ≤ L.length ∧ i = .int .i64 k ∧ v = .int .i64 (maxL ((L.map La.os).take k) : Nat) ∧ wr = w1) (fun _ i _ => L.length - (intOf i).toNat)
    case atStart => exact ⟨0, Nat.zero_le _, rfl, rfl, by first | trivial | rfl⟩
    case round =>
      obtain ⟨k, hk, rfl, rfl, rfl⟩ := hrel
      by_cases hlt : k < L.length
      case neg =>
        have hke : k = L.length := by omega
        subst hke
        have hlt' : ¬ (L.length : Int) < (L.length : Int) := by omega
        rw [List.take_of_length_le (by simp)]
        have HD := Lib.hid Hd.out
        generalize ((maxL (L.map La.os) : Nat) : Int) = q at *
        go_wp2
        go_ret
        exact ⟨ret_int (by rw [HD.out]), Hb.out⟩
      case pos =>
        have hlt' : (k : Int) < (L.length : Int) := by omega
        obtain ⟨g, cap', e1, c1, c2, ay, cy, e2⟩ := HL.out.at hlt
        simp only [Value.slice.injEq] at e1
        obtain ⟨rfl, -, -⟩ := e1
        rw [e2] at c2
        have Hs := Lib.hid (show ((maxL ((L.map La.os).take (k + 1)) : Nat) : Int) = max ((maxL ((L.map La.os).take k) : Nat) : Int) (L[k].os.length : Int) by rw [maxL_step (by simpa using hlt), List.getElem_map]; omega)
        have hmx : ∀ (P : Program) ats ty W, (Builtin.max_ ats ty #[.int .i64 ((maxL ((L.map La.os).take k) : Nat) : Int), .int .i64 (L[k].os.length : Int)]).run P W = .ok (.int .i64 ((maxL ((L.map La.os).take (k + 1)) : Nat) : Int)) W := fun P ats ty W => by rw [Hs.out]; exact run_max2 ats ty _ _ W
        clear e2
        obtain ⟨q2, hq2⟩ : ∃ q, q = ((maxL ((L.map La.os).take (k + 1)) : Nat) : Int) := ⟨_, rfl⟩
        rw [← hq2] at hmx
        have Hq2 := Lib.hid hq2; clear hq2 Hs
        generalize ((maxL ((L.map La.os).take k) : Nat) : Int) = q at *
        generalize L[k] = y at *
        obtain ⟨yl, yn, yo, yb, yv⟩ := y
        dsimp only at *
        generalize yo.length = n at *
        go_wp2
        go_roundw
        case rel => exact ⟨k + 1, by omega, by go_num, by rw [Hq2.out], by first | trivial | rfl⟩
        case measure => simp [intOf]; omega

end Go.Proofs.Ytnjjbplocokdeab

/- The reference's test of a ledger with space for fees, by a walk of its text; conditions: the list is shorter than 2^40, at most a hundred transactions. -/
namespace Go.Proofs.Ytnjjbplocokdeab
open Go.RowKit

def roomB (l : List Int) (n m : Int) : Bool := ldB l n && decide (n ≤ 5994 - 9 * m)
set_option maxHeartbeats 1000000 in
theorem spec_l31Room (a : Option Addr) (cap : Nat) (l : List Int) (n m : Int) (w : World) (hbig : l.length ≤ 1099511627776) (hl : IntsAt w a l) (hm : 0 ≤ m ∧ m ≤ 100) :
    Calls Try.prog 40 #[.agg #[.slice a l.length cap, .int .i64 n], .int .i64 m] w fun e w' => e = .returned (.bool (roomB l n m)) ∧ Below w.heap.size w w' := by
  have hb0 : Below w.heap.size w (w.alloc (.cells #[.slice a l.length cap, .int .i64 n] 44)) := (Below.refl _ _).alloc (Nat.le_refl _) _
  have s0 := Str.new w 44 #[.slice a l.length cap, .int .i64 n]
  have k0 := s0.cell 0 (v := .slice a l.length cap) rfl
  have k1 := s0.cell 1 (v := .int .i64 n) rfl
  have Hl := Lib.hid (hl.below hb0); clear hl
  have Hb0 := Lib.hid hb0; clear hb0
  have Hs := Lib.hid s0; clear s0
  have HV := Lib.hid (fun W (h : IntsAt W a l) => spec_LedgerValid a cap l n W hbig h)
  have Hres := Lib.hid (show roomB l n m = (ldB l n && decide (n ≤ 5994 - 9 * m)) from rfl)
  have hw1 : IntKind.i64.wrap (9 * m) = 9 * m := IntWalk.i64_in _ (by omega)
  have hw2 : IntKind.i64.wrap (5994 - 9 * m) = 5994 - 9 * m := IntWalk.i64_in _ (by omega)
  generalize ldB l n = B at *
  go_enter Try.func40, Try.ntmps40
  go_wp2_with fail
  generalize w.alloc (.cells #[.slice a l.length cap, .int .i64 n] 44) = W0 at *
  refine (HV.out W0 Hl.out).mono ?_
  rintro e w1 ⟨rfl, hb1⟩
  have Hb1 := Lib.hid (below_step Hb0.out Hb0.out.size hb1)
  have Hs1 := Lib.hid (show Str w1 w.heap.size 44 #[.slice a l.length cap, .int .i64 n] from (hb1.block _ Hs.out.lt).trans Hs.out)
  clear hb1 k0 k1
  cases B with
  | false =>
    go_wp2
    go_ret
    exact ⟨ret_bool (by rw [Hres.out]; rfl), Hb1.out⟩
  | true =>
  have k1 := Hs1.out.cell 1 (v := .int .i64 n) rfl
  go_wp2
  go_ret
  exact ⟨ret_bool (by rw [Hres.out]; rfl), Hb1.out⟩

end Go.Proofs.Ytnjjbplocokdeab

/- Plain arithmetic of sets of members and their weights; no walk and no condition of our own. -/
namespace Go.Proofs.Ytnjjbplocokdeab

/-- Ascending members below n. -/
def AscP (n : Nat) (ms : List Int) : Prop := ms.Pairwise (· < ·) ∧ ∀ m ∈ ms, 0 ≤ m ∧ m < n
theorem ascP_of {n : Nat} {ms : List Int} (h : membersB n ms = true) : AscP n ms := by
  have step : ∀ d i (hi : i + 1 + d < ms.length), ms[i] < ms[i + 1 + d] := by
    intro d
    induction d with
    | zero =>
      intro i hi
      have := okAt_bd hi (allB_upto h (i + 1) hi)
      rcases this.2.2 with h0 | h0
      · omega
      · rw [show i + 1 + 0 - 1 = i by omega, getD_get (by omega)] at h0; exact h0
    | succ d ih =>
      intro i hi
      have h1 := ih i (by omega)
      have := okAt_bd hi (allB_upto h (i + 1 + (d + 1)) hi)
      rcases this.2.2 with h0 | h0
      · omega
      · rw [show i + 1 + (d + 1) - 1 = i + 1 + d by omega, getD_get (by omega)] at h0
        exact Int.lt_trans h1 h0
  refine ⟨List.pairwise_iff_getElem.2 fun i j hi hj hij => ?_, fun m hm => ?_⟩
  · have := step (j - i - 1) i (by omega)
    simpa [show i + 1 + (j - i - 1) = j by omega] using this
  · obtain ⟨j, hj, rfl⟩ := List.mem_iff_getElem.1 hm
    exact membersB_at h j hj
theorem of_ascP {n : Nat} {ms : List Int} (h : AscP n ms) : membersB n ms = true := by
  unfold membersB
  refine allB_yes (k := ms.length) (fun j hj => ?_) (Nat.le_refl _)
  have hb := h.2 ms[j] (List.getElem_mem hj)
  refine okAt_yes hj hb.1 hb.2 ?_
  by_cases h0 : j = 0
  · exact .inl h0
  · refine .inr ?_
    rw [getD_get (by omega)]
    exact List.pairwise_iff_getElem.1 h.1 (j - 1) j (by omega) hj (by omega)
theorem ascP_filter {n : Nat} {ms : List Int} (p : Int → Bool) (h : AscP n ms) : AscP n (ms.filter p) :=
  ⟨h.1.filter p, fun m hm => h.2 m (List.mem_filter.1 hm).1⟩
theorem ascP_rangeF (p : Nat → Bool) (n : Nat) : AscP n (rangeF p n) := by
  induction n with
  | zero => exact ⟨by simp [rangeF], by simp [rangeF]⟩
  | succ n ih =>
    cases hp : p n with
    | false => rw [rangeF_no hp]; exact ⟨ih.1, fun m hm => by have := ih.2 m hm; omega⟩
    | true =>
      rw [rangeF_yes hp]
      refine ⟨List.pairwise_append.2 ⟨ih.1, by simp, fun a ha b hb => ?_⟩, fun m hm => ?_⟩
      · simp at hb; subst hb; exact (ih.2 a ha).2
      · rcases List.mem_append.1 hm with hm | hm
        · have := ih.2 m hm; omega
        · simp at hm; omega
theorem mem_rangeF {p : Nat → Bool} {n i : Nat} : (i : Int) ∈ rangeF p n ↔ i < n ∧ p i = true := by
  unfold rangeF
  simp only [List.mem_map, List.mem_filter, List.mem_range]
  constructor
  · rintro ⟨a, h, e⟩
    obtain rfl : a = i := by omega
    exact h
  · intro h; exact ⟨i, h, rfl⟩

/-- f 0 + .. + f (n - 1). -/
def isum (f : Nat → Int) : Nat → Int
  | 0 => 0
  | n + 1 => isum f n + f n
theorem isum_congr {f g : Nat → Int} {n : Nat} (h : ∀ i, i < n → f i = g i) : isum f n = isum g n := by
  induction n with
  | zero => rfl
  | succ n ih => simp only [isum]; rw [ih (fun i hi => h i (by omega)), h n (by omega)]
theorem isum_add (f g : Nat → Int) (n : Nat) : isum (fun i => f i + g i) n = isum f n + isum g n := by
  induction n with
  | zero => rfl
  | succ n ih => simp only [isum]; rw [ih]; omega
theorem isum_le {f g : Nat → Int} {n : Nat} (h : ∀ i, i < n → f i ≤ g i) : isum f n ≤ isum g n := by
  induction n with
  | zero => exact Int.le_refl _
  | succ n ih => simp only [isum]; have := ih (fun i hi => h i (by omega)); have := h n (by omega); omega
theorem isum_total (c : List Int) : isum (fun i => c.getD i 0) c.length = totalZ c := by
  have : ∀ k, k ≤ c.length → isum (fun i => c.getD i 0) k = sumTo c k := by
    intro k
    induction k with
    | zero => intro _; rfl
    | succ k ih => intro hk; simp only [isum]; rw [ih (by omega), sumTo_succ (by omega), getD_get (by omega)]
  exact this _ (Nat.le_refl _)

/-- The weight of i if it is among ms. -/
def wAt (c ms : List Int) (i : Nat) : Int := if hasB ms i = true then c.getD i 0 else 0
theorem weightTo_app (c ms : List Int) (x : Int) : weightZ c (ms ++ [x]) = weightZ c ms + c.getD x.toNat 0 := by
  unfold weightZ
  rw [List.length_append]
  simp only [List.length_cons, List.length_nil]
  rw [weightTo_succ (by simp)]
  congr 1
  · unfold weightTo; simp
  · simp
theorem weight_isum (c : List Int) : ∀ (n : Nat) (ms : List Int), AscP n ms → weightZ c ms = isum (wAt c ms) n := by
  intro n
  induction n with
  | zero =>
    intro ms h
    cases ms with
    | nil => rfl
    | cons m ms => have := h.2 m (by simp); omega
  | succ n ih =>
    intro ms h
    simp only [isum]
    rcases List.eq_nil_or_concat ms with rfl | ⟨l, x, rfl⟩
    · rw [← ih [] ⟨by simp, by simp⟩]; simp [wAt, hasB]
    · rw [List.concat_eq_append] at h ⊢
      have hp := List.pairwise_append.1 h.1
      have hx := h.2 x (by simp)
      have hl : ∀ m ∈ l, 0 ≤ m ∧ m < x := fun m hm => ⟨(h.2 m (by simp [hm])).1, hp.2.2 m hm x (by simp)⟩
      by_cases hxn : x = n
      · subst hxn
        have h1 := ih l ⟨hp.1, fun m hm => ⟨(hl m hm).1, by have := hl m hm; omega⟩⟩
        rw [weightTo_app, h1]
        congr 1
        · refine isum_congr fun i hi => ?_
          unfold wAt hasB
          have : ((i : Int) ∈ l ++ [(n : Int)]) = ((i : Int) ∈ l) := by
            rw [List.mem_append]; simp; omega
          simp only [this]
        · unfold wAt hasB; simp
      · have h1 := ih (l ++ [x]) ⟨h.1, fun m hm => by
          have := h.2 m hm
          rcases List.mem_append.1 hm with hm | hm
          · have := hl m hm; omega
          · simp at hm; omega⟩
        rw [h1]
        have : wAt c (l ++ [x]) n = 0 := by
          unfold wAt hasB
          rw [if_neg]
          rw [decide_eq_true_eq]
          intro hm
          rcases List.mem_append.1 hm with hm | hm
          · have := hl _ hm; omega
          · simp at hm; omega
        omega

theorem hasB_common (a b : List Int) (i : Int) : hasB (commonZ a b) i = (hasB a i && hasB b i) := by
  rw [commonZ_eq, Bool.eq_iff_iff]
  simp [hasB, List.mem_filter]
theorem c_nonneg {c : List Int} (h : validB c = true) (i : Nat) (hi : i < c.length) : 0 ≤ c.getD i 0 := by have := good_getD h hi; omega

/-- Two sets weigh no more together than all members and what is common. -/
theorem weights_meet {c a b : List Int} (h : validB c = true) (ha : AscP c.length a) (hb : AscP c.length b) : weightZ c a + weightZ c b ≤ totalZ c + weightZ c (commonZ a b) := by
  have hc : AscP c.length (commonZ a b) := by rw [commonZ_eq]; exact ascP_filter _ ha
  rw [weight_isum c _ a ha, weight_isum c _ b hb, weight_isum c _ _ hc, ← isum_total, ← isum_add, ← isum_add]
  refine isum_le fun i hi => ?_
  have := c_nonneg h i hi
  unfold wAt
  rw [hasB_common]
  generalize c.getD i 0 = x at *
  cases hasB a i <;> cases hasB b i <;> simp <;> omega
/-- Weights are added. -/
theorem weights_add {c a b : List Int} (ha : AscP c.length a) (hb : AscP c.length b) :
    weightZ c a + weightZ c b = weightZ c (rangeF (fun i => hasB a i || hasB b i) c.length) + weightZ c (commonZ a b) := by
  have hc : AscP c.length (commonZ a b) := by rw [commonZ_eq]; exact ascP_filter _ ha
  have hu := ascP_rangeF (fun i => hasB a i || hasB b i) c.length
  rw [weight_isum c _ a ha, weight_isum c _ b hb, weight_isum c _ _ hc, weight_isum c _ _ hu, ← isum_add, ← isum_add]
  refine isum_congr fun i hi => ?_
  unfold wAt
  rw [hasB_common]
  have : hasB (rangeF (fun i => hasB a i || hasB b i) c.length) i = (hasB a i || hasB b i) := by
    rw [Bool.eq_iff_iff]; unfold hasB; rw [decide_eq_true_eq, mem_rangeF]; simp [hi]
  rw [this]
  cases hasB a i <;> cases hasB b i <;> simp

/-- The weight of all members. -/
theorem weight_all {c : List Int} (h : validB c = true) : weightZ c (rangeF (bitB 127) c.length) = totalZ c := by
  rw [weight_isum c _ _ (ascP_rangeF _ _), ← isum_total]
  refine isum_congr fun i hi => ?_
  have hl := validB_len h
  have h7 : bitB 127 i = true := by
    have : i < 7 := by omega
    match i, this with
    | 0, _ => rfl
    | 1, _ => rfl
    | 2, _ => rfl
    | 3, _ => rfl
    | 4, _ => rfl
    | 5, _ => rfl
    | 6, _ => rfl
  have : hasB (rangeF (bitB 127) c.length) i = true := decide_eq_true (mem_rangeF.2 ⟨hi, h7⟩)
  unfold wAt
  rw [if_pos this]

theorem mwZ_of {c ms : List Int} (h : validB c = true) (hm : AscP c.length ms) : mwZ c ms = weightZ c ms := mwZ_yes (by rw [mvB_yes h]; exact of_ascP hm)
theorem mwZ_rangeF {c : List Int} (h : validB c = true) (p : Nat → Bool) : mwZ c (rangeF p c.length) = weightZ c (rangeF p c.length) := mwZ_of h (ascP_rangeF p _)

theorem weight_bd {c a : List Int} (h : validB c = true) (ha : AscP c.length a) : 0 ≤ weightZ c a ∧ weightZ c a ≤ totalZ c := by
  have h0 : isum (fun _ => 0) c.length = 0 := by
    generalize c.length = n
    induction n with
    | zero => rfl
    | succ n ih => simp only [isum]; rw [ih]; rfl
  rw [weight_isum c _ a ha, ← isum_total]
  refine ⟨Int.le_trans (Int.le_of_eq h0.symm) (isum_le fun i hi => ?_), isum_le fun i hi => ?_⟩ <;> (have := c_nonneg h i hi; unfold wAt; split <;> omega)
theorem ascP_common {n : Nat} {a b : List Int} (ha : AscP n a) : AscP n (commonZ a b) := by rw [commonZ_eq]; exact ascP_filter _ ha
theorem common_pos {c a b : List Int} (h : 0 < weightZ c (commonZ a b)) : 0 < (commonZ a b).length := by
  rcases Nat.eq_zero_or_pos (commonZ a b).length with h0 | h0
  · rw [List.eq_nil_of_length_eq_zero h0] at h; exact absurd h (by simp [weightZ, weightTo])
  · exact h0

theorem validB_iff (c : List Int) : validB c = true ↔ (1 ≤ c.length ∧ c.length ≤ 7) ∧ ∀ x ∈ c, 1 ≤ x ∧ x ≤ 9 := by
  unfold validB goodB
  rw [Bool.and_eq_true, decide_eq_true_eq, List.all_eq_true]
  simp
theorem valid_less {c : List Int} {k : Nat} (h : validB c = true) (hk : k < c.length) (h1 : c.length ≠ 1) : validB (c.take k ++ c.drop (k + 1)) = true := by
  rw [validB_iff] at h ⊢
  refine ⟨?_, fun x hx => h.2 x ?_⟩
  · rw [List.length_append, List.length_take, List.length_drop]; omega
  · rcases List.mem_append.1 hx with hx | hx
    · exact List.mem_of_mem_take hx
    · exact List.mem_of_mem_drop hx
theorem valid_zero {c : List Int} {k : Nat} (hk : k < c.length) : validB (c.set k 0) = false := by
  rw [Bool.eq_false_iff]
  intro h
  rw [validB_iff] at h
  have := h.2 0 (List.mem_set hk 0)
  omega

theorem members_less {n : Nat} {ms : List Int} {k : Nat} (h : AscP n ms) : AscP n (ms.take k ++ ms.drop (k + 1)) := by
  have hsub : (ms.take k ++ ms.drop (k + 1)).Sublist ms := by rw [← List.eraseIdx_eq_take_drop_succ]; exact List.eraseIdx_sublist ms k
  exact ⟨h.1.sublist hsub, fun m hm => h.2 m (hsub.subset hm)⟩
theorem members_twice {n : Nat} {ms : List Int} {k : Nat} (hk : k < ms.length) : membersB n (ms.take (k + 1) ++ ms.drop k) = false := by
  rw [Bool.eq_false_iff]
  intro h
  have hp := (List.pairwise_append.1 (ascP_of h).1).2.2 ms[k] (by rw [List.mem_take_iff_getElem]; exact ⟨k, by omega, rfl⟩) ms[k] (by rw [List.mem_drop_iff_getElem]; exact ⟨0, by omega, by simp⟩)
  omega

end Go.Proofs.Ytnjjbplocokdeab

/- A number put into an ascending list; plain facts and slices of a source; nothing here speaks of the program's text. -/
namespace Go.Proofs.Ytnjjbplocokdeab
open Go.RowKit

/-- x put in its place, where it is lacking. -/
def addZ (ms : List Int) (x : Int) : List Int := if hasB ms x then ms else ms.takeWhile (fun m => decide (m < x)) ++ x :: ms.dropWhile (fun m => decide (m < x))
theorem asc_at {ms : List Int} (hs : ms.Pairwise (· < ·)) {i j : Nat} (hi : i < ms.length) (hj : j < ms.length) (h : i < j) : ms[i] < ms[j] := List.pairwise_iff_getElem.1 hs i j hi hj h
theorem place_ex (ms : List Int) (x : Int) : ∃ k, k ≤ ms.length ∧ (∀ m ∈ ms.take k, m < x) ∧ ∀ hk : k < ms.length, x ≤ ms[k] := by
  induction ms with
  | nil => exact ⟨0, Nat.le_refl _, by simp, fun hk => absurd hk (by simp)⟩
  | cons y ys ih =>
    by_cases hy : y < x
    · obtain ⟨k, h1, h2, h3⟩ := ih
      refine ⟨k + 1, by simpa using h1, ?_, fun hk => ?_⟩
      · intro m hm
        rw [List.take_succ_cons] at hm
        rcases List.mem_cons.1 hm with e | hm
        · rw [e]; exact hy
        · exact h2 m hm
      · rw [List.getElem_cons_succ]
        exact h3 (by simpa using hk)
    · exact ⟨0, Nat.zero_le _, by simp, fun hk => by rw [List.getElem_cons_zero]; omega⟩
theorem rest_ge {ms : List Int} (hs : ms.Pairwise (· < ·)) {x : Int} {k : Nat} (h' : ∀ hk : k < ms.length, x ≤ ms[k]) : ∀ m ∈ ms.drop k, x ≤ m := by
  intro m hm
  obtain ⟨j, hj, rfl⟩ := List.mem_iff_getElem.1 hm
  rw [List.length_drop] at hj
  rw [List.getElem_drop]
  have hk : k < ms.length := by omega
  have h0 := h' hk
  rcases Nat.eq_zero_or_pos j with e | e
  · subst e; exact h0
  · have := asc_at hs hk (j := k + j) (by omega) (by omega)
    omega
theorem count_at {ms : List Int} (hs : ms.Pairwise (· < ·)) {x : Int} {k : Nat} (hk : k ≤ ms.length) (h : ∀ m ∈ ms.take k, m < x) (h' : ∀ hk : k < ms.length, x ≤ ms[k]) : ms.countP (fun m => decide (m < x)) = k := by
  have e : ms.countP (fun m => decide (m < x)) = (ms.take k ++ ms.drop k).countP (fun m => decide (m < x)) := by rw [List.take_append_drop]
  rw [e, List.countP_append, List.countP_eq_length.2 (fun m hm => decide_eq_true (h m hm)), List.countP_eq_zero.2 (fun m hm => by have := rest_ge hs h' m hm; simp; omega), List.length_take]
  omega
theorem ins_hit {ms : List Int} {x : Int} {k : Nat} (hk : k < ms.length) (e : ms[k] = x) : hasB ms x = true ∧ addZ ms x = ms := by
  have h := hasB_yes hk
  rw [e] at h
  exact ⟨h, by unfold addZ; rw [if_pos h]⟩
theorem ins_no {ms : List Int} (hs : ms.Pairwise (· < ·)) {x : Int} {k : Nat} (_hk : k ≤ ms.length) (h : ∀ m ∈ ms.take k, m < x) (h' : ∀ hk : k < ms.length, x < ms[k]) : hasB ms x = false ∧ addZ ms x = ms.take k ++ x :: ms.drop k := by
  have hn : hasB ms x = false := by
    refine decide_eq_false fun hm => ?_
    have : x ∈ ms.take k ++ ms.drop k := by rw [List.take_append_drop]; exact hm
    rcases List.mem_append.1 this with hm | hm
    · exact absurd (h x hm) (by omega)
    · obtain ⟨j, hj, e⟩ := List.mem_iff_getElem.1 hm
      rw [List.length_drop] at hj
      rw [List.getElem_drop] at e
      have hk : k < ms.length := by omega
      have h0 := h' hk
      rcases Nat.eq_zero_or_pos j with e0 | e0
      · subst e0; simp only [Nat.add_zero] at e; omega
      · have := asc_at hs hk (j := k + j) (by omega) (by omega)
        omega
  refine ⟨hn, ?_⟩
  unfold addZ
  rw [hn, if_neg (by simp)]
  have h2 : (ms.drop k).takeWhile (fun m => decide (m < x)) = [] ∧ (ms.drop k).dropWhile (fun m => decide (m < x)) = ms.drop k := by
    by_cases hk : k < ms.length
    · have h0 := h' hk
      rw [List.drop_eq_getElem_cons hk]
      exact ⟨List.takeWhile_cons_of_neg (by simp; omega), List.dropWhile_cons_of_neg (by simp; omega)⟩
    · rw [List.drop_of_length_le (by omega)]; exact ⟨rfl, rfl⟩
  have e := List.take_append_drop k ms
  have hp : ∀ m ∈ ms.take k, (fun m => decide (m < x)) m = true := fun m hm => decide_eq_true (h m hm)
  rw [show ms.takeWhile (fun m => decide (m < x)) = (ms.take k ++ ms.drop k).takeWhile (fun m => decide (m < x)) by rw [e], List.takeWhile_append_of_pos hp, h2.1, List.append_nil,
    show ms.dropWhile (fun m => decide (m < x)) = (ms.take k ++ ms.drop k).dropWhile (fun m => decide (m < x)) by rw [e], List.dropWhile_append_of_pos hp, h2.2]
theorem ins_len (ms : List Int) (x : Int) : (addZ ms x).length ≤ ms.length + 1 := by
  unfold addZ
  split
  · omega
  · have e := congrArg List.length (List.takeWhile_append_dropWhile (p := fun m => decide (m < x)) (l := ms))
    rw [List.length_append] at e
    rw [List.length_append, List.length_cons]
    omega
theorem take_step {ms : List Int} {x : Int} {k : Nat} (hk : k < ms.length) (h : ∀ m ∈ ms.take k, m < x) (h' : ms[k] < x) : ∀ m ∈ ms.take (k + 1), m < x := by
  intro m hm
  rw [List.take_succ_eq_append_getElem hk, List.mem_append] at hm
  rcases hm with hm | hm
  · exact h m hm
  · rw [List.mem_singleton] at hm; rw [hm]; exact h'

theorem SrcAt.takeI {w : World} {a : Option Addr} {c : Nat} {g : List Int} (h : SrcAt w a c g) (k : Nat) : SrcAt w a c (g.take k) := by
  rcases h with ⟨rfl, rfl, rfl⟩ | ⟨q, rfl, hq⟩
  · exact .inl ⟨rfl, by simp, rfl⟩
  · refine .inr ⟨q, rfl, fun j hj => ?_⟩
    rw [List.length_take] at hj
    rw [List.getElem_take]
    exact hq j (by omega)
theorem add_add (q : Addr) (k j : Nat) : (q.add k).add j = q.add (k + j) := by
  unfold Addr.add
  by_cases hj : j = 0
  · subst hj; simp
  · by_cases hk : k = 0
    · subst hk; simp [hj]
    · have : k + j ≠ 0 := by omega
      simp [hj, hk, Nat.add_assoc]
theorem SrcAt.dropI {w : World} {a : Option Addr} {c : Nat} {g : List Int} (h : SrcAt w a c g) (hc : g.length ≤ c) {k : Nat} (hk : k ≤ g.length) : SrcAt w (if c = k then a else a.map (·.add (k * 1))) (c - k) (g.drop k) := by
  rcases h with ⟨rfl, rfl, rfl⟩ | ⟨q, rfl, hq⟩
  · exact .inl ⟨by split <;> rfl, by simp, by simp⟩
  · by_cases e : c = k
    · rw [if_pos e, List.drop_of_length_le (by omega)]; exact .inr ⟨q, rfl, fun j hj => by simp at hj⟩
    · rw [if_neg e]
      refine .inr ⟨_, rfl, fun j hj => ?_⟩
      rw [List.length_drop] at hj
      rw [List.getElem_drop, add_add, Nat.mul_one]
      exact hq (k + j) (by omega)
theorem SrcAt.parts {w : World} {va : Option Addr} {vc : Nat} {g : List Int} (h : SrcAt w va vc g) (hc : g.length ≤ vc) {k : Nat} (hk : k ≤ g.length) :
    (∀ W, (Instr.slice 40 (.slice va g.length vc) none (some (.int .i64 k)) none).run Try.prog W = .ok (.slice va (g.take k).length vc) W) ∧ SrcAt w va vc (g.take k) ∧
    ∃ ad ac, (∀ W, (Instr.slice 40 (.slice va g.length vc) (some (.int .i64 k)) none none).run Try.prog W = .ok (.slice ad (g.drop k).length ac) W) ∧ SrcAt w ad ac (g.drop k) := by
  have ht : Try.prog.underlying 40 = some (.slice (Try.prog.elem 40)) := by kernel_rfl
  have hs : ∀ W, (sizeOf (Try.prog.elem 40)).run Try.prog W = .ok 1 W := fun W => by kernel_rfl
  refine ⟨fun W => ?_, h.takeI k, _, _, fun W => ?_, h.dropI hc hk⟩
  · rw [run_slice_h (ht := ht) (h0 := by omega) (h2 := by omega), hs]
    simp only [Result.andThen, sliced, Int.toNat_natCast, List.length_take, Nat.min_eq_left hk, Nat.sub_zero]
    have e : (if vc = 0 then va else va.map (·.add (0 * 1))) = va := by
      split
      · rfl
      · cases va <;> simp [Addr.add]
    rw [e]
  · rw [run_slice_l (ht := ht) (h0 := by omega) (h1 := by omega), hs]
    simp only [Result.andThen, sliced, Int.toNat_natCast, List.length_drop]
theorem SrcAt.lies {w w' : World} {a : Option Addr} {c : Nat} {xs : List Int} (h : SrcAt w a c xs) (hi : IntsAt w a xs) (hb : Below w.heap.size w w') : SrcAt w' a c xs := by
  rcases h with h | ⟨ad, rfl, hc⟩
  · exact .inl h
  · refine .inr ⟨ad, rfl, fun j hj => ?_⟩
    obtain ⟨b, off, e, hlt, _⟩ := hi.cell (by omega)
    cases e
    have := hc j hj
    rw [addr_add'] at this ⊢
    exact (hb.cell (p := ⟨b, off + j, none⟩) hlt).trans this
theorem src_one {w : World} {E : TypeId} {B : Nat} {x : Int} (h : Str w B E #[.int .i64 x]) : SrcAt w (some ⟨B, 0, none⟩) 1 [x] := by
  refine .inr ⟨_, rfl, fun j hj => ?_⟩
  have h0 : j = 0 := by simpa using hj
  subst h0
  rw [addr_add]
  exact h.cell 0 rfl
/-- 'append(s, t...)' as an operation of a region. -/
theorem op_appI {P : Program} {T E : TypeId} (hT : IntT P T E) {w : World} {o : Oper} {a : Act} {K : Act → World → Prop} {Q : Exit → Act → World → Prop} (s x : Operand)
    (ho : o.op = .call { callee := .builtin .append, args := #[s, x], argTypes := #[T, T] }) (B : Nat) (v : Value) (xs zs : List Int) (ax : Option Addr) (c : Nat) (hs : a.eval s = v) (hown : Own E w B v xs)
    (hx : a.eval x = .slice ax zs.length c) (hz : SrcAt w ax c zs) (hlen : xs.length + zs.length ≤ 1099511627776) (hB : B ≤ w.heap.size)
    (h : ∀ v' w', Own E w' B v' (xs ++ zs) → w.grownBy w' v.ownBlock → K (a.put o.dst v') w') : Oper.wp P o a w K Q := by
  obtain ⟨v', w', hr, h1, h2⟩ := run_appI hT o.type hown hz hlen hB
  unfold Oper.wp execOp
  simp only [ho, resolve, invoke, builtin, Sem.run_bind, Sem.run_pure, Result.andThen_ok, List.map_toArray, List.map_cons, List.map_nil, hs, hx, hr]
  exact h v' w' h1 h2

end Go.Proofs.Ytnjjbplocokdeab

/- An owned list as the source of an append; a general step, nothing here speaks of the program. -/
namespace Go.Proofs.Ytnjjbplocokdeab
open Go.RowKit

theorem own_src {E : TypeId} {w : World} {B n c : Nat} {a : Option Addr} {xs : List Int} (h : Own E w B (.slice a n c) xs) : SrcAt w a c xs := by
  obtain ⟨a', c', e, _, hs, _⟩ := h.src
  cases e
  exact hs

end Go.Proofs.Ytnjjbplocokdeab

/- The reference's copy of a ledger, by a walk of its text; condition: the list has at most 2^20 numbers. -/
namespace Go.Proofs.Ytnjjbplocokdeab
open Go.RowKit

theorem TIl : IntT Try.prog 40 3 := ⟨Try.underlying40, by kernel_rfl⟩
set_option maxHeartbeats 2000000 in
theorem spec_l31Copy (a : Option Addr) (cap : Nat) (l : List Int) (n : Int) (w : World) (hbig : l.length ≤ 1048576) (hi : IntsAt w a l) (hsrc : SrcAt w a cap l) :
    Calls Try.prog 41 #[.agg #[.slice a l.length cap, .int .i64 n]] w fun e w' => ∃ v, e = .returned (.agg #[v, .int .i64 n]) ∧ Own 3 w' w.heap.size v l ∧ Below w.heap.size w w' := by
  have hb0 : Below w.heap.size w ((w.alloc (.cells #[.slice a l.length cap, .int .i64 n] 44)).alloc (.cells #[.slice none 0 0, .int .i64 0] 44)) := ((Below.refl _ _).alloc (Nat.le_refl _) _).alloc (by simp) _
  have hsrc0 := hsrc.lies hi hb0
  have hi0 := hi.below hb0
  have s1 := (Str.new w 44 #[.slice a l.length cap, .int .i64 n]).alloc (.cells #[.slice none 0 0, .int .i64 0] 44)
  have s2 := Str.new (w.alloc (.cells #[.slice a l.length cap, .int .i64 n] 44)) 44 #[.slice none 0 0, .int .i64 0]
  simp only [World.size_alloc] at s2
  have hz : ((w.alloc (.cells #[.slice a l.length cap, .int .i64 n] 44)).alloc (.cells #[.slice none 0 0, .int .i64 0] 44)).heap.size = w.heap.size + 2 := by simp
  have Hi := Lib.hid hi0; have Hsrc := Lib.hid hsrc0; have Hb := Lib.hid hb0; have S1 := Lib.hid s1; have S2 := Lib.hid s2; clear hi0 hsrc0 hb0 s1 s2 hi hsrc
  go_enter Try.func41, Try.ntmps41
  have k0 := S1.out.cell 0 (v := .slice a l.length cap) rfl
  have k1 := S1.out.cell 1 (v := .int .i64 n) rfl
  go_wp2_with fail
  generalize ((w.alloc (.cells #[.slice a l.length cap, .int .i64 n] 44)).alloc (.cells #[.slice none 0 0, .int .i64 0] 44)) = W0 at *
  clear k0 k1
  refine wp_region_held_drew (S := fun w' => w'.cell? ⟨w.heap.size, 0, none⟩ = some (.slice a l.length cap) ∧ w'.cell? ⟨w.heap.size, 1, none⟩ = some (.int .i64 n)) (by kernel_rfl) ⟨S1.out.cell 0 (v := .slice a l.length cap) rfl, S1.out.cell 1 (v := .int .i64 n) rfl⟩ (fun hH => ?_)
  have hdr : Below W0.heap.size W0 W0.drew := (Below.refl _ _).drew
  have Hsrc := Lib.hid (Hsrc.out.lies Hi.out hdr)
  have Hi := Lib.hid (Hi.out.below hdr)
  have S1 := Lib.hid (show Str W0.drew (w.heap.size) 44 #[.slice a l.length cap, .int .i64 n] from (hdr.block _ S1.out.lt).trans S1.out)
  have S2 := Lib.hid (show Str W0.drew (w.heap.size + 1) 44 #[.slice none 0 0, .int .i64 0] from (hdr.block _ S2.out.lt).trans S2.out)
  have hsx := hdr.size
  have Hb := Lib.hid (below_step Hb.out Hb.out.size hdr)
  clear hdr
  generalize W0.drew = wd at *
  refine takeH 1 (v := ?vlc1) rfl (by kernel_rfl) (by kernel_rfl) (by kernel_rfl) (fun _ _ _ h => h) hH rfl ?ylc1 ?rlc1
  case ylc1 => intro W hSw; go_simp; try with_reducible rfl
  try simp only [Act.put, List.setIfInBounds_toArray, List.set_cons_zero, List.set_cons_succ]
  refine takeH 2 (v := ?vlc2) rfl (by kernel_rfl) (by kernel_rfl) (by kernel_rfl) (fun _ _ _ h => h) hH rfl ?ylc2 ?rlc2
  case ylc2 => intro W hSw; go_simp; try with_reducible rfl
  try simp only [Act.put, List.setIfInBounds_toArray, List.set_cons_zero, List.set_cons_succ]
  refine takeH 4 (v := ?vlc3) rfl (by kernel_rfl) (by kernel_rfl) (by kernel_rfl) (fun _ _ _ h => h) hH rfl ?ylc3 ?rlc3
  case ylc3 => intro W hSw; go_simp; try with_reducible rfl
  try simp only [Act.put, List.setIfInBounds_toArray, List.set_cons_zero, List.set_cons_succ]
  refine takeH 5 (v := ?vlc4) rfl (by kernel_rfl) (by kernel_rfl) (by kernel_rfl) (fun _ _ _ h => h) hH rfl ?ylc4 ?rlc4
  case ylc4 => intro W hSw; go_simp; try with_reducible rfl
  try simp only [Act.put, List.setIfInBounds_toArray, List.set_cons_zero, List.set_cons_succ]
  refine callH 0 rfl (by kernel_rfl) rfl (fun K hK => ?_)
  go_simp
  have hal : Below wd.heap.size wd (wd.alloc (.cells #[] 3)) := (Below.refl _ _).alloc (Nat.le_refl _) _
  have oM := own_empty 3 wd (Nat.le_refl _)
  have OM := Lib.hid oM; clear oM
  have hzw : wd.heap.size < (wd.alloc (.cells #[] 3)).heap.size := by simp
  have Hsrc := Lib.hid (Hsrc.out.lies Hi.out hal)
  have Hi := Lib.hid (Hi.out.below hal)
  have S1 := Lib.hid (show Str (wd.alloc (.cells #[] 3)) (w.heap.size) 44 #[.slice a l.length cap, .int .i64 n] from (hal.block _ S1.out.lt).trans S1.out)
  have S2 := Lib.hid (show Str (wd.alloc (.cells #[] 3)) (w.heap.size + 1) 44 #[.slice none 0 0, .int .i64 0] from (hal.block _ S2.out.lt).trans S2.out)
  have hsx := hal.size
  have Hb := Lib.hid (below_step Hb.out Hb.out.size hal)
  refine hK.out _ _ ⟨S1.out.cell 0 (v := .slice a l.length cap) rfl, S1.out.cell 1 (v := .int .i64 n) rfl⟩ (fun hH => ?_)
  clear hK K hal
  try simp only [Act.put, List.setIfInBounds_toArray, List.set_cons_zero, List.set_cons_succ]
  generalize wd.alloc (.cells #[] 3) = w2 at *
  generalize hNB : wd.heap.size = NB at *
  refine callH 3 rfl (by kernel_rfl) rfl (fun K hK => ?_)
  refine op_appI TIl _ _ rfl NB (Value.slice (some ⟨NB, 0, none⟩) 0 0) [] l a cap rfl OM.out rfl Hsrc.out (by simp; omega) (by omega) (fun u w3 ho9 hg9 => ?_)
  rw [List.nil_append] at ho9
  obtain ⟨ua, uc, rfl, _, _⟩ := ho9.ints
  have hs3 := hg9.size
  have hlt9 : ∀ q, (Value.slice (some ⟨NB, 0, none⟩) 0 0).ownBlock = some q → NB ≤ q := fun q e => (OM.out.lt q e).1
  have S1 := Lib.hid (show Str w3 (w.heap.size) 44 #[.slice a l.length cap, .int .i64 n] from S1.out.kept hg9 (fun e => by have := hlt9 _ e.symm; omega))
  have S2 := Lib.hid (show Str w3 (w.heap.size + 1) 44 #[.slice none 0 0, .int .i64 0] from S2.out.kept hg9 (fun e => by have := hlt9 _ e.symm; omega))
  have Hb := Lib.hid (Hb.out.grown hg9 Hb.out.size (fun q e => by have := hlt9 q e; omega))
  have OL := Lib.hid ho9
  clear ho9 hg9 hlt9 OM Hi Hsrc
  refine hK.out _ _ ⟨S1.out.cell 0 (v := .slice a l.length cap) rfl, S1.out.cell 1 (v := .int .i64 n) rfl⟩ (fun hH => ?_)
  clear hK K
  try simp only [Act.put, List.setIfInBounds_toArray, List.set_cons_zero, List.set_cons_succ]
  refine takeH 6 (v := ?vlc5) rfl (by kernel_rfl) (by kernel_rfl) (by kernel_rfl) (fun _ _ _ h => h) hH rfl ?ylc5 ?rlc5
  case ylc5 => intro W hSw; go_simp; try with_reducible rfl
  try simp only [Act.put, List.setIfInBounds_toArray, List.set_cons_zero, List.set_cons_succ]
  refine callH 7 rfl (by kernel_rfl) rfl (fun K hK => ?_)
  have y0 := S2.out.frozen 0
  have y1 := S2.out.frozen 1
  have v0 := S2.out.cell 0 (v := .slice none 0 0) rfl
  have v1 := S2.out.cell 1 (v := .int .i64 0) rfl
  go_simp
  clear y0 y1 v0 v1
  have hne : (Value.slice ua l.length uc).ownBlock ≠ some (w.heap.size + 1) := fun e => by have := (OL.out.lt _ e).1; omega
  have sF := (S2.out.set 0 (.slice ua l.length uc)).set 1 (.int .i64 n)
  have SF := Lib.hid sF; clear sF
  have S1 := Lib.hid ((S1.out.other (B' := w.heap.size + 1) (by omega) 0 (.slice ua l.length uc)).other (B' := w.heap.size + 1) (by omega) 1 (.int .i64 n))
  have OL := Lib.hid ((OL.out.set_other hne 0 (.slice ua l.length uc)).set_other hne 1 (.int .i64 n))
  have Hb := Lib.hid ((Hb.out.setCell (p := ⟨w.heap.size + 1, 0, none⟩) (by simp only; omega) (.slice ua l.length uc)).setCell (p := ⟨w.heap.size + 1, 1, none⟩) (by simp only; omega) (.int .i64 n))
  refine hK.out _ _ ⟨S1.out.cell 0 rfl, S1.out.cell 1 rfl⟩ (fun hH => ?_)
  clear hK K hne
  try simp only [Act.put, List.setIfInBounds_toArray, List.set_cons_zero, List.set_cons_succ]
  generalize ((w3.setCell ⟨w.heap.size + 1, 0, none⟩ (.slice ua l.length uc)).setCell ⟨w.heap.size + 1, 1, none⟩ (.int .i64 n)) = we at *
  refine wpAnyH_done (by kernel_rfl) ?_ _
  try simp only [Act.put]
  clear hH
  have e0 := SF.out.cell 0 (v := .slice ua l.length uc) rfl
  have e1 := SF.out.cell 1 (v := .int .i64 n) rfl
  go_wp2
  refine bodyPost_ret (v := .agg #[.slice ua l.length uc, .int .i64 n]) (by simp [results, Try.f41, go_sem, e0, e1]) rfl ?_
  exact ⟨_, rfl, OL.out.mono (by omega), Hb.out⟩

end Go.Proofs.Ytnjjbplocokdeab

/- The reference's execution of a transaction on a valid ledger, by a walk of its text; condition: the ledger is valid. -/
namespace Go.Proofs.Ytnjjbplocokdeab
open Go.RowKit

/-- What executing a transaction answers. -/
def ApP (E : TypeId) (w : World) (l : List Int) (n : Int) (x : Tx) (e : Ending) (w' : World) : Prop := ∃ v, e = .returned (.tuple #[.agg #[v, .int .i64 (apF l n x)], .bool (okT l x)]) ∧ Own E w' w.heap.size v (apL l x) ∧ Below w.heap.size w w'
/-- While it is executed: l the argument, t the transaction, the answer, out with its own list c and fees m. -/
structure Apw (TL TX E : TypeId) (w : World) (a : Option Addr) (cap : Nat) (l : List Int) (n : Int) (x : Tx) (O g vc : Nat) (c : List Int) (m : Int) (W : World) : Prop where
  s1 : Str W w.heap.size TL #[.slice a l.length cap, .int .i64 n]
  s2 : Str W (w.heap.size + 1) TX #[.int .i64 x.f, .int .i64 x.t, .int .i64 x.s, .int .i64 x.e]
  s3 : Str W (w.heap.size + 2) TL #[.slice none 0 0, .int .i64 0]
  s4 : Str W O TL #[.slice (some ⟨g, 0, none⟩) l.length vc, .int .i64 m]
  own : Own E W (w.heap.size + 3) (.slice (some ⟨g, 0, none⟩) l.length vc) c
  len : c.length = l.length
  bel : Below w.heap.size w W
  dO : w.heap.size + 3 ≤ O
  dg : w.heap.size + 3 ≤ g ∧ g ≠ O
section
variable {TL TX E : TypeId} {w : World} {a : Option Addr} {cap : Nat} {l : List Int} {n : Int} {x : Tx} {O g vc : Nat} {c : List Int} {m : Int} {W W' : World}
theorem Apw.drew (h : Apw TL TX E w a cap l n x O g vc c m W) : Apw TL TX E w a cap l n x O g vc c m W.drew := ⟨h.s1, h.s2, h.s3, h.s4, h.own.drewN 1, h.len, h.bel.drew, h.dO, h.dg⟩
theorem Apw.below (h : Apw TL TX E w a cap l n x O g vc c m W) (hb : Below W.heap.size W W') : Apw TL TX E w a cap l n x O g vc c m W' :=
  ⟨(hb.block _ h.s1.lt).trans h.s1, (hb.block _ h.s2.lt).trans h.s2, (hb.block _ h.s3.lt).trans h.s3, (hb.block _ h.s4.lt).trans h.s4, h.own.below hb, h.len, below_step h.bel h.bel.size hb, h.dO, h.dg⟩
theorem Apw.store (h : Apw TL TX E w a cap l n x O g vc c m W) (k : Nat) (z : Int) : Apw TL TX E w a cap l n x O g vc (c.set k z) m (W.setCell ⟨g, k, none⟩ (.int .i64 z)) := by
  obtain ⟨d1, d2⟩ := h.dg
  have d3 := h.dO
  exact ⟨h.s1.other (by omega) _ _, h.s2.other (by omega) _ _, h.s3.other (by omega) _ _, h.s4.other (by omega) _ _, (h.own.store h.len.symm k z).1, by rw [List.length_set]; exact h.len, h.bel.setCell (p := ⟨g, k, none⟩) (by simp only; omega) _, h.dO, h.dg⟩
theorem Apw.fee (h : Apw TL TX E w a cap l n x O g vc c m W) (z : Int) : Apw TL TX E w a cap l n x O g vc c z (W.setCell ⟨O, 1, none⟩ (.int .i64 z)) := by
  obtain ⟨d1, d2⟩ := h.dg
  have d3 := h.dO
  exact ⟨h.s1.other (by omega) _ _, h.s2.other (by omega) _ _, h.s3.other (by omega) _ _, h.s4.set 1 _, h.own.set_other (by simp [Value.ownBlock]; exact d2) _ _, h.len, h.bel.setCell (p := ⟨O, 1, none⟩) (by simp only; omega) _, h.dO, h.dg⟩
theorem Apw.frozen (h : Apw TL TX E w a cap l n x O g vc c m W) (hl : 0 < l.length) (j : Nat) : W.frozen? ⟨g, j, none⟩ = false := by
  obtain ⟨g', cap', e, _, _, _, _, hf⟩ := h.own.row (by rw [h.len]; exact hl)
  simp only [Value.slice.injEq, Option.some.injEq, Addr.mk.injEq, and_true] at e
  rw [e.1]; exact hf j
theorem Apw.at (h : Apw TL TX E w a cap l n x O g vc c m W) (hl : 0 < l.length) {j : Nat} (hj : j < c.length) : W.cell? ⟨g, j, none⟩ = some (.int .i64 c[j]) := by
  obtain ⟨g', cap', e, _, _, _, hc, _⟩ := h.own.row (by rw [h.len]; exact hl)
  simp only [Value.slice.injEq, Option.some.injEq, Addr.mk.injEq, and_true] at e
  rw [e.1]; exact hc j hj
/-- The answer is set. -/
theorem Apw.fin (h : Apw TL TX E w a cap l n x O g vc c m W) : Str ((W.setCell ⟨w.heap.size + 2, 0, none⟩ (.slice (some ⟨g, 0, none⟩) l.length vc)).setCell ⟨w.heap.size + 2, 1, none⟩ (.int .i64 m)) (w.heap.size + 2) TL #[.slice (some ⟨g, 0, none⟩) l.length vc, .int .i64 m] ∧
    Own E ((W.setCell ⟨w.heap.size + 2, 0, none⟩ (.slice (some ⟨g, 0, none⟩) l.length vc)).setCell ⟨w.heap.size + 2, 1, none⟩ (.int .i64 m)) w.heap.size (.slice (some ⟨g, 0, none⟩) l.length vc) c ∧
    Below w.heap.size w ((W.setCell ⟨w.heap.size + 2, 0, none⟩ (.slice (some ⟨g, 0, none⟩) l.length vc)).setCell ⟨w.heap.size + 2, 1, none⟩ (.int .i64 m)) := by
  obtain ⟨d1, d2⟩ := h.dg
  have hne : (Value.slice (some ⟨g, 0, none⟩) l.length vc).ownBlock ≠ some (w.heap.size + 2) := by simp [Value.ownBlock]; omega
  exact ⟨(h.s3.set 0 _).set 1 _, ((h.own.set_other hne _ _).set_other hne _ _).mono (by omega), (h.bel.setCell (p := ⟨w.heap.size + 2, 0, none⟩) (by simp only; omega) _).setCell (p := ⟨w.heap.size + 2, 1, none⟩) (by simp only; omega) _⟩
end
set_option maxHeartbeats 4000000 in
theorem spec_l31Apply (a : Option Addr) (cap : Nat) (l : List Int) (n : Int) (x : Tx) (w : World) (hv : ldB l n = true) (hi : IntsAt w a l) (hsrc : SrcAt w a cap l) :
    Calls Try.prog 42 #[.agg #[.slice a l.length cap, .int .i64 n], agT x] w (ApP 3 w l n x) := by
  have hpost : ∀ (e : Ending) (w' : World) (v : Value) (c : List Int) (m : Int) (b : Bool), e = .returned (.tuple #[.agg #[v, .int .i64 m], .bool b]) → Own 3 w' w.heap.size v c → Below w.heap.size w w' → c = apL l x → m = apF l n x → b = okT l x → ApP 3 w l n x e w' := by
    rintro e w' v c m b rfl ho hb rfl rfl rfl
    exact ⟨v, rfl, ho, hb⟩
  have Hpost := Lib.hid hpost; clear hpost
  generalize ApP 3 w l n x = POST at *
  obtain ⟨hv1, hv2, hv3, hv4⟩ := ldB_iff.1 hv
  have h6 : 0 < l.length := by omega
  obtain ⟨b, off, rfl, hbw, hc⟩ : ∃ b off, a = some ⟨b, off, none⟩ ∧ b < w.heap.size ∧ ∀ j (h : j < l.length), w.cell? ⟨b, off + j, none⟩ = some (.int .i64 l[j]) := hi.cell h6
  have hb0 : Below w.heap.size w (((w.alloc (.cells #[.slice (some ⟨b, off, none⟩) l.length cap, .int .i64 n] 44)).alloc (.cells #[.int .i64 x.f, .int .i64 x.t, .int .i64 x.s, .int .i64 x.e] 25)).alloc (.cells #[.slice none 0 0, .int .i64 0] 44)) := (((Below.refl _ _).alloc (Nat.le_refl _) _).alloc (by simp only [World.size_alloc]; omega) _).alloc (by simp only [World.size_alloc]; omega) _
  have s1 := ((Str.new w 44 #[.slice (some ⟨b, off, none⟩) l.length cap, .int .i64 n]).alloc (.cells #[.int .i64 x.f, .int .i64 x.t, .int .i64 x.s, .int .i64 x.e] 25)).alloc (.cells #[.slice none 0 0, .int .i64 0] 44)
  have s2 := (Str.new (w.alloc (.cells #[.slice (some ⟨b, off, none⟩) l.length cap, .int .i64 n] 44)) 25 #[.int .i64 x.f, .int .i64 x.t, .int .i64 x.s, .int .i64 x.e]).alloc (.cells #[.slice none 0 0, .int .i64 0] 44)
  have s3 := Str.new ((w.alloc (.cells #[.slice (some ⟨b, off, none⟩) l.length cap, .int .i64 n] 44)).alloc (.cells #[.int .i64 x.f, .int .i64 x.t, .int .i64 x.s, .int .i64 x.e] 25)) 44 #[.slice none 0 0, .int .i64 0]
  simp only [World.size_alloc] at s2 s3
  have hi0 := hi.below hb0
  have hsrc0 := hsrc.lies hi hb0
  have hz : (((w.alloc (.cells #[.slice (some ⟨b, off, none⟩) l.length cap, .int .i64 n] 44)).alloc (.cells #[.int .i64 x.f, .int .i64 x.t, .int .i64 x.s, .int .i64 x.e] 25)).alloc (.cells #[.slice none 0 0, .int .i64 0] 44)).heap.size = w.heap.size + 3 := by simp
  have S1 := Lib.hid s1; have S2 := Lib.hid s2; have S3 := Lib.hid s3; have Hi := Lib.hid hi0; have Hsrc := Lib.hid hsrc0; have Hb := Lib.hid hb0; have Hc := Lib.hid hc; have Hv1 := Lib.hid hv1; have Hv2 := Lib.hid hv2; have Hv := Lib.hid hv; clear s1 s2 s3 hi0 hsrc0 hb0 hi hsrc hc hv1 hv2 hv
  have hv6 : l.length ≤ 1048576 := by have := Hv2.out; omega
  unfold agT
  go_enter Try.func42, Try.ntmps42
  have k0 := S1.out.cell 0 (v := .slice (some ⟨b, off, none⟩) l.length cap) rfl
  have k1 := S1.out.cell 1 (v := .int .i64 n) rfl
  go_wp2_with fail
  generalize (((w.alloc (.cells #[.slice (some ⟨b, off, none⟩) l.length cap, .int .i64 n] 44)).alloc (.cells #[.int .i64 x.f, .int .i64 x.t, .int .i64 x.s, .int .i64 x.e] 25)).alloc (.cells #[.slice none 0 0, .int .i64 0] 44)) = W0 at *
  clear k0 k1
  refine (spec_l31Copy (some ⟨b, off, none⟩) cap l n W0 hv6 Hi.out Hsrc.out).mono ?_
  rintro e w1 ⟨v, rfl, ho, hb1⟩
  obtain ⟨g, vc, rfl, hg1, hg2, hvc, _, _⟩ := ho.row h6
  have HA := Lib.hid (show Apw 44 25 3 w (some ⟨b, off, none⟩) cap l n x w1.heap.size g vc l n (w1.alloc (.cells #[.slice (some ⟨g, 0, none⟩) l.length vc, .int .i64 n] 44)) from ⟨Str.alloc ((hb1.block _ S1.out.lt).trans S1.out) _, Str.alloc ((hb1.block _ S2.out.lt).trans S2.out) _, Str.alloc ((hb1.block _ S3.out.lt).trans S3.out) _, Str.new _ _ _, (ho.mono (by omega)).alloc _, rfl, below_step (below_step Hb.out Hb.out.size hb1) (by have := Hb.out.size; have := hb1.size; omega) ((Below.refl _ _).alloc (Nat.le_refl _) _), by have := hb1.size; omega, by omega, by omega⟩)
  obtain ⟨O, hO⟩ : ∃ O, O = w1.heap.size := ⟨_, rfl⟩
  rw [← hO] at HA
  have hzO : (w1.alloc (.cells #[.slice (some ⟨g, 0, none⟩) l.length vc, .int .i64 n] 44)).heap.size = O + 1 := by rw [hO]; simp
  clear ho hb1 S1 S2 S3 Hi Hsrc Hb
  have HV := Lib.hid (fun W => spec_TxnValid x W)
  unfold agT at HV
  have x0 := HA.out.s2.cell 0 (v := .int .i64 x.f) rfl
  have x1 := HA.out.s2.cell 1 (v := .int .i64 x.t) rfl
  have x2 := HA.out.s2.cell 2 (v := .int .i64 x.s) rfl
  have x3 := HA.out.s2.cell 3 (v := .int .i64 x.e) rfl
  go_wp2_with fail
  generalize (w1.alloc (.cells #[.slice (some ⟨g, 0, none⟩) l.length vc, .int .i64 n] 44)) = W4 at *
  try rw [← hO]
  clear hO
  clear x0 x1 x2 x3
  have hbt : txB x = true ∨ txB x = false := by cases txB x <;> simp
  rcases hbt with hbt | hbt
  case inr =>
    have hV := HV.out
    rw [hbt] at hV
    have HV := Lib.hid hV; clear hV
    have Hbt := Lib.hid hbt; clear hbt
    refine wp_region_held_drew (S := fun w' => w'.cell? ⟨w.heap.size + 1, 0, none⟩ = some (.int .i64 x.f) ∧ w'.cell? ⟨w.heap.size + 1, 1, none⟩ = some (.int .i64 x.t) ∧ w'.cell? ⟨w.heap.size + 1, 2, none⟩ = some (.int .i64 x.s) ∧ w'.cell? ⟨w.heap.size + 1, 3, none⟩ = some (.int .i64 x.e)) (by kernel_rfl) ⟨HA.out.s2.cell 0 (v := .int .i64 x.f) rfl, HA.out.s2.cell 1 (v := .int .i64 x.t) rfl, HA.out.s2.cell 2 (v := .int .i64 x.s) rfl, HA.out.s2.cell 3 (v := .int .i64 x.e) rfl⟩ (fun hH => ?_)
    have HA := Lib.hid HA.out.drew
    generalize W4.drew = wd at *
    refine takeH 0 (v := ?vla1) rfl (by kernel_rfl) (by kernel_rfl) (by kernel_rfl) (fun _ _ _ h => h) hH rfl ?yla1 ?rla1
    case yla1 => intro W hSw; go_simp; try with_reducible rfl
    try simp only [Act.put, List.setIfInBounds_toArray, List.set_cons_zero, List.set_cons_succ]
    refine callH 1 rfl (by kernel_rfl) rfl (fun K hK => ?_)
    go_simp
    refine (HV.out _).mono ?_
    rintro e w5 ⟨rfl, hb⟩
    have HA := Lib.hid (HA.out.below hb)
    clear hb
    refine hK.out _ _ ⟨HA.out.s2.cell 0 (v := .int .i64 x.f) rfl, HA.out.s2.cell 1 (v := .int .i64 x.t) rfl, HA.out.s2.cell 2 (v := .int .i64 x.s) rfl, HA.out.s2.cell 3 (v := .int .i64 x.e) rfl⟩ (fun hH => ?_)
    clear hK K
    try simp only [Act.put, List.setIfInBounds_toArray, List.set_cons_zero, List.set_cons_succ]
    refine takeH 2 (v := ?vla2) rfl (by kernel_rfl) (by kernel_rfl) (by kernel_rfl) (fun _ _ _ h => h) hH rfl ?yla2 ?rla2
    case yla2 => intro W hSw; go_simp; try with_reducible rfl
    try simp only [Act.put, List.setIfInBounds_toArray, List.set_cons_zero, List.set_cons_succ]
    refine takeH 3 (v := ?vla3) rfl (by kernel_rfl) (by kernel_rfl) (by kernel_rfl) (fun _ _ _ h => h) hH rfl ?yla3 ?rla3
    case yla3 => intro W hSw; go_simp; try with_reducible rfl
    try simp only [Act.put, List.setIfInBounds_toArray, List.set_cons_zero, List.set_cons_succ]
    refine skipH 4 rfl (by kernel_rfl) (by kernel_rfl) (by kernel_rfl) (fun _ _ _ h => h) hH rfl ?_
    try simp only [Act.put, List.setIfInBounds_toArray, List.set_cons_zero, List.set_cons_succ]
    refine skipH 5 rfl (by kernel_rfl) (by kernel_rfl) (by kernel_rfl) (fun _ _ _ h => h) hH rfl ?_
    try simp only [Act.put, List.setIfInBounds_toArray, List.set_cons_zero, List.set_cons_succ]
    refine skipH 6 rfl (by kernel_rfl) (by kernel_rfl) (by kernel_rfl) (fun _ _ _ h => h) hH rfl ?_
    try simp only [Act.put, List.setIfInBounds_toArray, List.set_cons_zero, List.set_cons_succ]
    refine skipH 7 rfl (by kernel_rfl) (by kernel_rfl) (by kernel_rfl) (fun _ _ _ h => h) hH rfl ?_
    try simp only [Act.put, List.setIfInBounds_toArray, List.set_cons_zero, List.set_cons_succ]
    refine skipH 8 rfl (by kernel_rfl) (by kernel_rfl) (by kernel_rfl) (fun _ _ _ h => h) hH rfl ?_
    try simp only [Act.put, List.setIfInBounds_toArray, List.set_cons_zero, List.set_cons_succ]
    refine skipH 9 rfl (by kernel_rfl) (by kernel_rfl) (by kernel_rfl) (fun _ _ _ h => h) hH rfl ?_
    try simp only [Act.put, List.setIfInBounds_toArray, List.set_cons_zero, List.set_cons_succ]
    refine skipH 10 rfl (by kernel_rfl) (by kernel_rfl) (by kernel_rfl) (fun _ _ _ h => h) hH rfl ?_
    try simp only [Act.put, List.setIfInBounds_toArray, List.set_cons_zero, List.set_cons_succ]
    refine skipH 11 rfl (by kernel_rfl) (by kernel_rfl) (by kernel_rfl) (fun _ _ _ h => h) hH rfl ?_
    try simp only [Act.put, List.setIfInBounds_toArray, List.set_cons_zero, List.set_cons_succ]
    refine skipH 12 rfl (by kernel_rfl) (by kernel_rfl) (by kernel_rfl) (fun _ _ _ h => h) hH rfl ?_
    try simp only [Act.put, List.setIfInBounds_toArray, List.set_cons_zero, List.set_cons_succ]
    refine skipH 13 rfl (by kernel_rfl) (by kernel_rfl) (by kernel_rfl) (fun _ _ _ h => h) hH rfl ?_
    try simp only [Act.put, List.setIfInBounds_toArray, List.set_cons_zero, List.set_cons_succ]
    refine skipH 14 rfl (by kernel_rfl) (by kernel_rfl) (by kernel_rfl) (fun _ _ _ h => h) hH rfl ?_
    try simp only [Act.put, List.setIfInBounds_toArray, List.set_cons_zero, List.set_cons_succ]
    refine skipH 15 rfl (by kernel_rfl) (by kernel_rfl) (by kernel_rfl) (fun _ _ _ h => h) hH rfl ?_
    try simp only [Act.put, List.setIfInBounds_toArray, List.set_cons_zero, List.set_cons_succ]
    refine takeH 16 (v := ?vla4) rfl (by kernel_rfl) (by kernel_rfl) (by kernel_rfl) (fun _ _ _ h => h) hH rfl ?yla4 ?rla4
    case yla4 => intro W hSw; go_simp; try with_reducible rfl
    try simp only [Act.put, List.setIfInBounds_toArray, List.set_cons_zero, List.set_cons_succ]
    refine takeH 17 (v := ?vla5) rfl (by kernel_rfl) (by kernel_rfl) (by kernel_rfl) (fun _ _ _ h => h) hH rfl ?yla5 ?rla5
    case yla5 => intro W hSw; go_simp; try with_reducible rfl
    try simp only [Act.put, List.setIfInBounds_toArray, List.set_cons_zero, List.set_cons_succ]
    refine skipH 18 rfl (by kernel_rfl) (by kernel_rfl) (by kernel_rfl) (fun _ _ _ h => h) hH rfl ?_
    try simp only [Act.put, List.setIfInBounds_toArray, List.set_cons_zero, List.set_cons_succ]
    refine skipH 19 rfl (by kernel_rfl) (by kernel_rfl) (by kernel_rfl) (fun _ _ _ h => h) hH rfl ?_
    try simp only [Act.put, List.setIfInBounds_toArray, List.set_cons_zero, List.set_cons_succ]
    refine skipH 20 rfl (by kernel_rfl) (by kernel_rfl) (by kernel_rfl) (fun _ _ _ h => h) hH rfl ?_
    try simp only [Act.put, List.setIfInBounds_toArray, List.set_cons_zero, List.set_cons_succ]
    refine skipH 21 rfl (by kernel_rfl) (by kernel_rfl) (by kernel_rfl) (fun _ _ _ h => h) hH rfl ?_
    try simp only [Act.put, List.setIfInBounds_toArray, List.set_cons_zero, List.set_cons_succ]
    refine skipH 22 rfl (by kernel_rfl) (by kernel_rfl) (by kernel_rfl) (fun _ _ _ h => h) hH rfl ?_
    try simp only [Act.put, List.setIfInBounds_toArray, List.set_cons_zero, List.set_cons_succ]
    refine skipH 23 rfl (by kernel_rfl) (by kernel_rfl) (by kernel_rfl) (fun _ _ _ h => h) hH rfl ?_
    try simp only [Act.put, List.setIfInBounds_toArray, List.set_cons_zero, List.set_cons_succ]
    refine skipH 24 rfl (by kernel_rfl) (by kernel_rfl) (by kernel_rfl) (fun _ _ _ h => h) hH rfl ?_
    try simp only [Act.put, List.setIfInBounds_toArray, List.set_cons_zero, List.set_cons_succ]
    refine skipH 25 rfl (by kernel_rfl) (by kernel_rfl) (by kernel_rfl) (fun _ _ _ h => h) hH rfl ?_
    try simp only [Act.put, List.setIfInBounds_toArray, List.set_cons_zero, List.set_cons_succ]
    refine skipH 26 rfl (by kernel_rfl) (by kernel_rfl) (by kernel_rfl) (fun _ _ _ h => h) hH rfl ?_
    try simp only [Act.put, List.setIfInBounds_toArray, List.set_cons_zero, List.set_cons_succ]
    refine skipH 27 rfl (by kernel_rfl) (by kernel_rfl) (by kernel_rfl) (fun _ _ _ h => h) hH rfl ?_
    try simp only [Act.put, List.setIfInBounds_toArray, List.set_cons_zero, List.set_cons_succ]
    refine takeH 28 (v := ?vla6) rfl (by kernel_rfl) (by kernel_rfl) (by kernel_rfl) (fun _ _ _ h => h) hH rfl ?yla6 ?rla6
    case yla6 => intro W hSw; go_simp; try with_reducible rfl
    try simp only [Act.put, List.setIfInBounds_toArray, List.set_cons_zero, List.set_cons_succ]
    refine wpAnyH_done (by kernel_rfl) ?_ _
    try simp only [Act.put]
    clear hH
    have hok : okT l x = false := by unfold okT; rw [Hbt.out]; rfl
    have Hok := Lib.hid hok; clear hok
    have sF := HA.out.fin
    obtain ⟨sf, oF, bF⟩ := sF
    have y0 := HA.out.s3.frozen 0
    have y1 := HA.out.s3.frozen 1
    have q0 := HA.out.s3.cell 0 (v := .slice none 0 0) rfl
    have q1 := HA.out.s3.cell 1 (v := .int .i64 0) rfl
    have o0 := HA.out.s4.cell 0 (v := .slice (some ⟨g, 0, none⟩) l.length vc) rfl
    have o1 := HA.out.s4.cell 1 (v := .int .i64 (n)) rfl
    have e0 := sf.cell 0 (v := .slice (some ⟨g, 0, none⟩) l.length vc) rfl
    have e1 := sf.cell 1 (v := .int .i64 (n)) rfl
    have OF := Lib.hid oF; have BF := Lib.hid bF; clear oF bF sf
    go_wp2
    skip
    refine bodyPost_ret (v := .tuple #[.agg #[.slice (some ⟨g, 0, none⟩) l.length vc, .int .i64 (n)], .bool false]) (by simp [results, Try.f42, go_sem, e0, e1]) rfl ?_
    exact Hpost.out _ _ _ _ _ _ rfl OF.out BF.out (ap_no (n := n) Hok.out).1.symm (ap_no (l := l) Hok.out).2.symm Hok.out.symm
  have hV := HV.out
  rw [hbt] at hV
  have HV := Lib.hid hV; clear hV
  obtain ⟨hx1, hx2, hx3, hx4, hx5⟩ := txB_iff.1 hbt
  obtain ⟨f, t, s, ee⟩ := x
  dsimp only at *
  obtain ⟨i, rfl⟩ : ∃ i : Nat, f = i := ⟨f.toNat, by omega⟩
  obtain ⟨j, rfl⟩ : ∃ j : Nat, t = j := ⟨t.toNat, by omega⟩
  have hl6 := Hv2.out
  have hil : i < l.length := by omega
  have hjl : j < l.length := by omega
  have hij : i ≠ j := by omega
  clear hl6
  obtain ⟨bi, hbi⟩ : ∃ z, z = l[i] := ⟨_, rfl⟩
  obtain ⟨bj, hbj⟩ : ∃ z, z = l[j] := ⟨_, rfl⟩
  have hr1 := Hv1.out _ (List.getElem_mem hil)
  have hr2 := Hv1.out _ (List.getElem_mem hjl)
  rw [← hbi] at hr1
  rw [← hbj] at hr2
  have HCI := Lib.hid (show ∀ W, Below w.heap.size w W → W.cell? ⟨b, off + i, none⟩ = some (.int .i64 bi) from fun W hb => by rw [hbi]; exact (hb.cell (p := ⟨b, off + i, none⟩) hbw).trans (Hc.out i hil))
  have HCJ := Lib.hid (show ∀ W, Below w.heap.size w W → W.cell? ⟨b, off + j, none⟩ = some (.int .i64 bj) from fun W hb => by rw [hbj]; exact (hb.cell (p := ⟨b, off + j, none⟩) hbw).trans (Hc.out j hjl))
  have HX := Lib.hid (show okT l ⟨i, j, s, ee⟩ = (decide (s + ee ≤ bi) && decide (bj + s ≤ 999)) from by unfold okT; rw [hbt, bal_at (by simpa using hil), bal_at (by simpa using hjl), hbi, hbj]; rfl)
  have HY := Lib.hid (show okT l ⟨i, j, s, ee⟩ = true → (l.set i (bi - s - ee)).set j (bj + s) = apL l ⟨i, j, s, ee⟩ from fun h => by rw [(ap_yes (n := n) h).1, bal_at (by simpa using hil), bal_at (by simpa using hjl), hbi, hbj]; simp only [Int.toNat_natCast])
  clear hbi hbj
  have w1' : IntKind.i64.wrap (s + ee) = s + ee := IntWalk.i64_in _ (by omega)
  have w2' : IntKind.i64.wrap (bj + s) = bj + s := IntWalk.i64_in _ (by omega)
  have w3' : IntKind.i64.wrap (bi - s) = bi - s := IntWalk.i64_in _ (by omega)
  have w4' : IntKind.i64.wrap (bi - s - ee) = bi - s - ee := IntWalk.i64_in _ (by omega)
  have w5' : IntKind.i64.wrap (n + ee) = n + ee := IntWalk.i64_in _ (by omega)
  have Hbt := Lib.hid hbt; have Hx3 := Lib.hid hx3; clear hbt hx3
  refine wp_region_held_drew (S := fun w' => w'.cell? ⟨w.heap.size + 1, 0, none⟩ = some (.int .i64 i) ∧ w'.cell? ⟨w.heap.size + 1, 1, none⟩ = some (.int .i64 j) ∧ w'.cell? ⟨w.heap.size + 1, 2, none⟩ = some (.int .i64 s) ∧ w'.cell? ⟨w.heap.size + 1, 3, none⟩ = some (.int .i64 ee) ∧ w'.cell? ⟨w.heap.size, 0, none⟩ = some (.slice (some ⟨b, off, none⟩) l.length cap) ∧ w'.cell? ⟨b, off + i, none⟩ = some (.int .i64 bi) ∧ w'.cell? ⟨b, off + j, none⟩ = some (.int .i64 bj)) (by kernel_rfl) ⟨HA.out.s2.cell 0 (v := .int .i64 i) rfl, HA.out.s2.cell 1 (v := .int .i64 j) rfl, HA.out.s2.cell 2 (v := .int .i64 s) rfl, HA.out.s2.cell 3 (v := .int .i64 ee) rfl, HA.out.s1.cell 0 (v := .slice (some ⟨b, off, none⟩) l.length cap) rfl, HCI.out _ HA.out.bel.drew, HCJ.out _ HA.out.bel.drew⟩ (fun hH => ?_)
  have HA := Lib.hid HA.out.drew
  generalize W4.drew = wd at *
  refine takeH 0 (v := ?vla7) rfl (by kernel_rfl) (by kernel_rfl) (by kernel_rfl) (fun _ _ _ h => h) hH rfl ?yla7 ?rla7
  case yla7 => intro W hSw; go_simp; try with_reducible rfl
  try simp only [Act.put, List.setIfInBounds_toArray, List.set_cons_zero, List.set_cons_succ]
  refine callH 1 rfl (by kernel_rfl) rfl (fun K hK => ?_)
  go_simp
  refine (HV.out _).mono ?_
  rintro e w5 ⟨rfl, hb⟩
  have HA := Lib.hid (HA.out.below hb)
  clear hb
  refine hK.out _ _ ⟨HA.out.s2.cell 0 (v := .int .i64 i) rfl, HA.out.s2.cell 1 (v := .int .i64 j) rfl, HA.out.s2.cell 2 (v := .int .i64 s) rfl, HA.out.s2.cell 3 (v := .int .i64 ee) rfl, HA.out.s1.cell 0 (v := .slice (some ⟨b, off, none⟩) l.length cap) rfl, HCI.out _ HA.out.bel, HCJ.out _ HA.out.bel⟩ (fun hH => ?_)
  clear hK K
  try simp only [Act.put, List.setIfInBounds_toArray, List.set_cons_zero, List.set_cons_succ]
  refine takeH 2 (v := ?vla8) rfl (by kernel_rfl) (by kernel_rfl) (by kernel_rfl) (fun _ _ _ h => h) hH rfl ?yla8 ?rla8
  case yla8 => intro W hSw; go_simp; try with_reducible rfl
  try simp only [Act.put, List.setIfInBounds_toArray, List.set_cons_zero, List.set_cons_succ]
  refine takeH 3 (v := ?vla9) rfl (by kernel_rfl) (by kernel_rfl) (by kernel_rfl) (fun _ _ _ h => h) hH rfl ?yla9 ?rla9
  case yla9 => intro W hSw; go_simp; try with_reducible rfl
  try simp only [Act.put, List.setIfInBounds_toArray, List.set_cons_zero, List.set_cons_succ]
  refine takeH 4 (v := ?vla10) rfl (by kernel_rfl) (by kernel_rfl) (by kernel_rfl) (fun _ _ _ h => h) hH rfl ?yla10 ?rla10
  case yla10 => intro W hSw; go_simp; try with_reducible rfl
  try simp only [Act.put, List.setIfInBounds_toArray, List.set_cons_zero, List.set_cons_succ]
  refine takeH 5 (v := ?vla11) rfl (by kernel_rfl) (by kernel_rfl) (by kernel_rfl) (fun _ _ _ h => h) hH rfl ?yla11 ?rla11
  case yla11 => intro W hSw; go_simp; try with_reducible rfl
  try simp only [Act.put, List.setIfInBounds_toArray, List.set_cons_zero, List.set_cons_succ]
  refine takeH 6 (v := ?vla12) rfl (by kernel_rfl) (by kernel_rfl) (by kernel_rfl) (fun _ _ _ h => h) hH rfl ?yla12 ?rla12
  case yla12 => intro W hSw; go_simp; try with_reducible rfl
  try simp only [Act.put, List.setIfInBounds_toArray, List.set_cons_zero, List.set_cons_succ]
  refine takeH 7 (v := ?vla13) rfl (by kernel_rfl) (by kernel_rfl) (by kernel_rfl) (fun _ _ _ h => h) hH rfl ?yla13 ?rla13
  case yla13 => intro W hSw; go_simp; try with_reducible rfl
  try simp only [Act.put, List.setIfInBounds_toArray, List.set_cons_zero, List.set_cons_succ]
  refine takeH 8 (v := ?vla14) rfl (by kernel_rfl) (by kernel_rfl) (by kernel_rfl) (fun _ _ _ h => h) hH rfl ?yla14 ?rla14
  case yla14 => intro W hSw; go_simp; try with_reducible rfl
  try simp only [Act.put, List.setIfInBounds_toArray, List.set_cons_zero, List.set_cons_succ]
  refine takeH 9 (v := ?vla15) rfl (by kernel_rfl) (by kernel_rfl) (by kernel_rfl) (fun _ _ _ h => h) hH rfl ?yla15 ?rla15
  case yla15 => intro W hSw; go_simp; try with_reducible rfl
  try simp only [Act.put, List.setIfInBounds_toArray, List.set_cons_zero, List.set_cons_succ]
  refine takeH 10 (v := ?vla16) rfl (by kernel_rfl) (by kernel_rfl) (by kernel_rfl) (fun _ _ _ h => h) hH rfl ?yla16 ?rla16
  case yla16 => intro W hSw; go_simp; try with_reducible rfl
  try simp only [Act.put, List.setIfInBounds_toArray, List.set_cons_zero, List.set_cons_succ]
  refine takeH 11 (v := ?vla17) rfl (by kernel_rfl) (by kernel_rfl) (by kernel_rfl) (fun _ _ _ h => h) hH rfl ?yla17 ?rla17
  case yla17 => intro W hSw; go_simp; try with_reducible rfl
  try simp only [Act.put, List.setIfInBounds_toArray, List.set_cons_zero, List.set_cons_succ]
  refine takeH 12 (v := ?vla18) rfl (by kernel_rfl) (by kernel_rfl) (by kernel_rfl) (fun _ _ _ h => h) hH rfl ?yla18 ?rla18
  case yla18 => intro W hSw; go_simp; try with_reducible rfl
  try simp only [Act.put, List.setIfInBounds_toArray, List.set_cons_zero, List.set_cons_succ]
  refine takeH 13 (v := ?vla19) rfl (by kernel_rfl) (by kernel_rfl) (by kernel_rfl) (fun _ _ _ h => h) hH rfl ?yla19 ?rla19
  case yla19 => intro W hSw; go_simp; try with_reducible rfl
  try simp only [Act.put, List.setIfInBounds_toArray, List.set_cons_zero, List.set_cons_succ]
  refine takeH 14 (v := .int .i64 (s + ee)) rfl (by kernel_rfl) (by kernel_rfl) (by kernel_rfl) (fun _ _ _ h => h) hH rfl ?yla20 ?rla20
  case yla20 => intro W hSw; go_simp; first | done | (simp [w1'])
  try simp only [Act.put, List.setIfInBounds_toArray, List.set_cons_zero, List.set_cons_succ]
  refine takeH 15 (v := ?vla21) rfl (by kernel_rfl) (by kernel_rfl) (by kernel_rfl) (fun _ _ _ h => h) hH rfl ?yla21 ?rla21
  case yla21 => intro W hSw; go_simp; try with_reducible rfl
  try simp only [Act.put, List.setIfInBounds_toArray, List.set_cons_zero, List.set_cons_succ]
  by_cases hlow : bi < s + ee
  case pos =>
    have d1 : decide (bi < s + ee) = true := decide_eq_true (by omega)
    rw [d1]
    refine takeH 16 (v := ?vla22) rfl (by kernel_rfl) (by kernel_rfl) (by kernel_rfl) (fun _ _ _ h => h) hH rfl ?yla22 ?rla22
    case yla22 => intro W hSw; go_simp; try with_reducible rfl
    try simp only [Act.put, List.setIfInBounds_toArray, List.set_cons_zero, List.set_cons_succ]
    refine takeH 17 (v := ?vla23) rfl (by kernel_rfl) (by kernel_rfl) (by kernel_rfl) (fun _ _ _ h => h) hH rfl ?yla23 ?rla23
    case yla23 => intro W hSw; go_simp; try with_reducible rfl
    try simp only [Act.put, List.setIfInBounds_toArray, List.set_cons_zero, List.set_cons_succ]
    refine skipH 18 rfl (by kernel_rfl) (by kernel_rfl) (by kernel_rfl) (fun _ _ _ h => h) hH rfl ?_
    try simp only [Act.put, List.setIfInBounds_toArray, List.set_cons_zero, List.set_cons_succ]
    refine skipH 19 rfl (by kernel_rfl) (by kernel_rfl) (by kernel_rfl) (fun _ _ _ h => h) hH rfl ?_
    try simp only [Act.put, List.setIfInBounds_toArray, List.set_cons_zero, List.set_cons_succ]
    refine skipH 20 rfl (by kernel_rfl) (by kernel_rfl) (by kernel_rfl) (fun _ _ _ h => h) hH rfl ?_
    try simp only [Act.put, List.setIfInBounds_toArray, List.set_cons_zero, List.set_cons_succ]
    refine skipH 21 rfl (by kernel_rfl) (by kernel_rfl) (by kernel_rfl) (fun _ _ _ h => h) hH rfl ?_
    try simp only [Act.put, List.setIfInBounds_toArray, List.set_cons_zero, List.set_cons_succ]
    refine skipH 22 rfl (by kernel_rfl) (by kernel_rfl) (by kernel_rfl) (fun _ _ _ h => h) hH rfl ?_
    try simp only [Act.put, List.setIfInBounds_toArray, List.set_cons_zero, List.set_cons_succ]
    refine skipH 23 rfl (by kernel_rfl) (by kernel_rfl) (by kernel_rfl) (fun _ _ _ h => h) hH rfl ?_
    try simp only [Act.put, List.setIfInBounds_toArray, List.set_cons_zero, List.set_cons_succ]
    refine skipH 24 rfl (by kernel_rfl) (by kernel_rfl) (by kernel_rfl) (fun _ _ _ h => h) hH rfl ?_
    try simp only [Act.put, List.setIfInBounds_toArray, List.set_cons_zero, List.set_cons_succ]
    refine skipH 25 rfl (by kernel_rfl) (by kernel_rfl) (by kernel_rfl) (fun _ _ _ h => h) hH rfl ?_
    try simp only [Act.put, List.setIfInBounds_toArray, List.set_cons_zero, List.set_cons_succ]
    refine skipH 26 rfl (by kernel_rfl) (by kernel_rfl) (by kernel_rfl) (fun _ _ _ h => h) hH rfl ?_
    try simp only [Act.put, List.setIfInBounds_toArray, List.set_cons_zero, List.set_cons_succ]
    refine skipH 27 rfl (by kernel_rfl) (by kernel_rfl) (by kernel_rfl) (fun _ _ _ h => h) hH rfl ?_
    try simp only [Act.put, List.setIfInBounds_toArray, List.set_cons_zero, List.set_cons_succ]
    refine takeH 28 (v := ?vla24) rfl (by kernel_rfl) (by kernel_rfl) (by kernel_rfl) (fun _ _ _ h => h) hH rfl ?yla24 ?rla24
    case yla24 => intro W hSw; go_simp; try with_reducible rfl
    try simp only [Act.put, List.setIfInBounds_toArray, List.set_cons_zero, List.set_cons_succ]
    refine wpAnyH_done (by kernel_rfl) ?_ _
    try simp only [Act.put]
    clear hH d1
    have hok : okT l ⟨i, j, s, ee⟩ = false := by rw [HX.out, decide_eq_false (by omega)]; rfl
    have Hok := Lib.hid hok; clear hok
    have sF := HA.out.fin
    obtain ⟨sf, oF, bF⟩ := sF
    have y0 := HA.out.s3.frozen 0
    have y1 := HA.out.s3.frozen 1
    have q0 := HA.out.s3.cell 0 (v := .slice none 0 0) rfl
    have q1 := HA.out.s3.cell 1 (v := .int .i64 0) rfl
    have o0 := HA.out.s4.cell 0 (v := .slice (some ⟨g, 0, none⟩) l.length vc) rfl
    have o1 := HA.out.s4.cell 1 (v := .int .i64 (n)) rfl
    have e0 := sf.cell 0 (v := .slice (some ⟨g, 0, none⟩) l.length vc) rfl
    have e1 := sf.cell 1 (v := .int .i64 (n)) rfl
    have OF := Lib.hid oF; have BF := Lib.hid bF; clear oF bF sf
    go_wp2
    skip
    refine bodyPost_ret (v := .tuple #[.agg #[.slice (some ⟨g, 0, none⟩) l.length vc, .int .i64 (n)], .bool false]) (by simp [results, Try.f42, go_sem, e0, e1]) rfl ?_
    exact Hpost.out _ _ _ _ _ _ rfl OF.out BF.out (ap_no (n := n) Hok.out).1.symm (ap_no (l := l) Hok.out).2.symm Hok.out.symm
  have d1 : decide (bi < s + ee) = false := decide_eq_false (by omega)
  rw [d1]
  refine takeH 16 (v := ?vla25) rfl (by kernel_rfl) (by kernel_rfl) (by kernel_rfl) (fun _ _ _ h => h) hH rfl ?yla25 ?rla25
  case yla25 => intro W hSw; go_simp; try with_reducible rfl
  try simp only [Act.put, List.setIfInBounds_toArray, List.set_cons_zero, List.set_cons_succ]
  refine takeH 17 (v := ?vla26) rfl (by kernel_rfl) (by kernel_rfl) (by kernel_rfl) (fun _ _ _ h => h) hH rfl ?yla26 ?rla26
  case yla26 => intro W hSw; go_simp; try with_reducible rfl
  try simp only [Act.put, List.setIfInBounds_toArray, List.set_cons_zero, List.set_cons_succ]
  refine takeH 18 (v := ?vla27) rfl (by kernel_rfl) (by kernel_rfl) (by kernel_rfl) (fun _ _ _ h => h) hH rfl ?yla27 ?rla27
  case yla27 => intro W hSw; go_simp; try with_reducible rfl
  try simp only [Act.put, List.setIfInBounds_toArray, List.set_cons_zero, List.set_cons_succ]
  refine takeH 19 (v := ?vla28) rfl (by kernel_rfl) (by kernel_rfl) (by kernel_rfl) (fun _ _ _ h => h) hH rfl ?yla28 ?rla28
  case yla28 => intro W hSw; go_simp; try with_reducible rfl
  try simp only [Act.put, List.setIfInBounds_toArray, List.set_cons_zero, List.set_cons_succ]
  refine takeH 20 (v := ?vla29) rfl (by kernel_rfl) (by kernel_rfl) (by kernel_rfl) (fun _ _ _ h => h) hH rfl ?yla29 ?rla29
  case yla29 => intro W hSw; go_simp; try with_reducible rfl
  try simp only [Act.put, List.setIfInBounds_toArray, List.set_cons_zero, List.set_cons_succ]
  refine takeH 21 (v := ?vla30) rfl (by kernel_rfl) (by kernel_rfl) (by kernel_rfl) (fun _ _ _ h => h) hH rfl ?yla30 ?rla30
  case yla30 => intro W hSw; go_simp; try with_reducible rfl
  try simp only [Act.put, List.setIfInBounds_toArray, List.set_cons_zero, List.set_cons_succ]
  refine takeH 22 (v := ?vla31) rfl (by kernel_rfl) (by kernel_rfl) (by kernel_rfl) (fun _ _ _ h => h) hH rfl ?yla31 ?rla31
  case yla31 => intro W hSw; go_simp; try with_reducible rfl
  try simp only [Act.put, List.setIfInBounds_toArray, List.set_cons_zero, List.set_cons_succ]
  refine takeH 23 (v := ?vla32) rfl (by kernel_rfl) (by kernel_rfl) (by kernel_rfl) (fun _ _ _ h => h) hH rfl ?yla32 ?rla32
  case yla32 => intro W hSw; go_simp; try with_reducible rfl
  try simp only [Act.put, List.setIfInBounds_toArray, List.set_cons_zero, List.set_cons_succ]
  refine takeH 24 (v := ?vla33) rfl (by kernel_rfl) (by kernel_rfl) (by kernel_rfl) (fun _ _ _ h => h) hH rfl ?yla33 ?rla33
  case yla33 => intro W hSw; go_simp; try with_reducible rfl
  try simp only [Act.put, List.setIfInBounds_toArray, List.set_cons_zero, List.set_cons_succ]
  refine takeH 25 (v := ?vla34) rfl (by kernel_rfl) (by kernel_rfl) (by kernel_rfl) (fun _ _ _ h => h) hH rfl ?yla34 ?rla34
  case yla34 => intro W hSw; go_simp; try with_reducible rfl
  try simp only [Act.put, List.setIfInBounds_toArray, List.set_cons_zero, List.set_cons_succ]
  refine takeH 26 (v := .int .i64 (bj + s)) rfl (by kernel_rfl) (by kernel_rfl) (by kernel_rfl) (fun _ _ _ h => h) hH rfl ?yla35 ?rla35
  case yla35 => intro W hSw; go_simp; first | done | (simp [w2'])
  try simp only [Act.put, List.setIfInBounds_toArray, List.set_cons_zero, List.set_cons_succ]
  refine takeH 27 (v := ?vla36) rfl (by kernel_rfl) (by kernel_rfl) (by kernel_rfl) (fun _ _ _ h => h) hH rfl ?yla36 ?rla36
  case yla36 => intro W hSw; go_simp; try with_reducible rfl
  try simp only [Act.put, List.setIfInBounds_toArray, List.set_cons_zero, List.set_cons_succ]
  by_cases hhigh : 999 < bj + s
  case pos =>
    have d2 : decide (999 < bj + s) = true := decide_eq_true (by omega)
    rw [d2]
    refine takeH 28 (v := ?vla37) rfl (by kernel_rfl) (by kernel_rfl) (by kernel_rfl) (fun _ _ _ h => h) hH rfl ?yla37 ?rla37
    case yla37 => intro W hSw; go_simp; try with_reducible rfl
    try simp only [Act.put, List.setIfInBounds_toArray, List.set_cons_zero, List.set_cons_succ]
    refine wpAnyH_done (by kernel_rfl) ?_ _
    try simp only [Act.put]
    clear hH d1 d2
    have hok : okT l ⟨i, j, s, ee⟩ = false := by rw [HX.out, decide_eq_false (show ¬ bj + s ≤ 999 by omega), Bool.and_false]
    have Hok := Lib.hid hok; clear hok
    have sF := HA.out.fin
    obtain ⟨sf, oF, bF⟩ := sF
    have y0 := HA.out.s3.frozen 0
    have y1 := HA.out.s3.frozen 1
    have q0 := HA.out.s3.cell 0 (v := .slice none 0 0) rfl
    have q1 := HA.out.s3.cell 1 (v := .int .i64 0) rfl
    have o0 := HA.out.s4.cell 0 (v := .slice (some ⟨g, 0, none⟩) l.length vc) rfl
    have o1 := HA.out.s4.cell 1 (v := .int .i64 (n)) rfl
    have e0 := sf.cell 0 (v := .slice (some ⟨g, 0, none⟩) l.length vc) rfl
    have e1 := sf.cell 1 (v := .int .i64 (n)) rfl
    have OF := Lib.hid oF; have BF := Lib.hid bF; clear oF bF sf
    go_wp2
    skip
    refine bodyPost_ret (v := .tuple #[.agg #[.slice (some ⟨g, 0, none⟩) l.length vc, .int .i64 (n)], .bool false]) (by simp [results, Try.f42, go_sem, e0, e1]) rfl ?_
    exact Hpost.out _ _ _ _ _ _ rfl OF.out BF.out (ap_no (n := n) Hok.out).1.symm (ap_no (l := l) Hok.out).2.symm Hok.out.symm
  have d2 : decide (999 < bj + s) = false := decide_eq_false (by omega)
  rw [d2]
  refine takeH 28 (v := ?vla38) rfl (by kernel_rfl) (by kernel_rfl) (by kernel_rfl) (fun _ _ _ h => h) hH rfl ?yla38 ?rla38
  case yla38 => intro W hSw; go_simp; try with_reducible rfl
  try simp only [Act.put, List.setIfInBounds_toArray, List.set_cons_zero, List.set_cons_succ]
  refine wpAnyH_done (by kernel_rfl) ?_ _
  try simp only [Act.put]
  clear hH d1 d2
  have hok : okT l ⟨i, j, s, ee⟩ = true := by rw [HX.out, decide_eq_true (show s + ee ≤ bi by omega), decide_eq_true (show bj + s ≤ 999 by omega)]; rfl
  have Hok := Lib.hid hok; clear hok
  go_wp2_with fail
  refine wp_region_held_drew (S := fun w' => w'.cell? ⟨w.heap.size + 1, 0, none⟩ = some (.int .i64 i) ∧ w'.cell? ⟨w.heap.size + 1, 1, none⟩ = some (.int .i64 j) ∧ w'.cell? ⟨w.heap.size + 1, 2, none⟩ = some (.int .i64 s) ∧ w'.cell? ⟨w.heap.size + 1, 3, none⟩ = some (.int .i64 ee) ∧ w'.cell? ⟨w.heap.size, 0, none⟩ = some (.slice (some ⟨b, off, none⟩) l.length cap) ∧ w'.cell? ⟨O, 0, none⟩ = some (.slice (some ⟨g, 0, none⟩) l.length vc) ∧ w'.cell? ⟨b, off + i, none⟩ = some (.int .i64 bi)) (by kernel_rfl) ⟨HA.out.s2.cell 0 (v := .int .i64 i) rfl, HA.out.s2.cell 1 (v := .int .i64 j) rfl, HA.out.s2.cell 2 (v := .int .i64 s) rfl, HA.out.s2.cell 3 (v := .int .i64 ee) rfl, HA.out.s1.cell 0 (v := .slice (some ⟨b, off, none⟩) l.length cap) rfl, HA.out.s4.cell 0 (v := .slice (some ⟨g, 0, none⟩) l.length vc) rfl, HCI.out _ HA.out.bel.drew⟩ (fun hH => ?_)
  have HA := Lib.hid HA.out.drew
  generalize w5.drew = wd at *
  refine takeH 0 (v := ?vla39) rfl (by kernel_rfl) (by kernel_rfl) (by kernel_rfl) (fun _ _ _ h => h) hH rfl ?yla39 ?rla39
  case yla39 => intro W hSw; go_simp; try with_reducible rfl
  try simp only [Act.put, List.setIfInBounds_toArray, List.set_cons_zero, List.set_cons_succ]
  refine takeH 1 (v := ?vla40) rfl (by kernel_rfl) (by kernel_rfl) (by kernel_rfl) (fun _ _ _ h => h) hH rfl ?yla40 ?rla40
  case yla40 => intro W hSw; go_simp; try with_reducible rfl
  try simp only [Act.put, List.setIfInBounds_toArray, List.set_cons_zero, List.set_cons_succ]
  refine takeH 2 (v := ?vla41) rfl (by kernel_rfl) (by kernel_rfl) (by kernel_rfl) (fun _ _ _ h => h) hH rfl ?yla41 ?rla41
  case yla41 => intro W hSw; go_simp; try with_reducible rfl
  try simp only [Act.put, List.setIfInBounds_toArray, List.set_cons_zero, List.set_cons_succ]
  refine takeH 3 (v := ?vla42) rfl (by kernel_rfl) (by kernel_rfl) (by kernel_rfl) (fun _ _ _ h => h) hH rfl ?yla42 ?rla42
  case yla42 => intro W hSw; go_simp; try with_reducible rfl
  try simp only [Act.put, List.setIfInBounds_toArray, List.set_cons_zero, List.set_cons_succ]
  refine takeH 4 (v := ?vla43) rfl (by kernel_rfl) (by kernel_rfl) (by kernel_rfl) (fun _ _ _ h => h) hH rfl ?yla43 ?rla43
  case yla43 => intro W hSw; go_simp; try with_reducible rfl
  try simp only [Act.put, List.setIfInBounds_toArray, List.set_cons_zero, List.set_cons_succ]
  refine takeH 5 (v := ?vla44) rfl (by kernel_rfl) (by kernel_rfl) (by kernel_rfl) (fun _ _ _ h => h) hH rfl ?yla44 ?rla44
  case yla44 => intro W hSw; go_simp; try with_reducible rfl
  try simp only [Act.put, List.setIfInBounds_toArray, List.set_cons_zero, List.set_cons_succ]
  refine takeH 6 (v := ?vla45) rfl (by kernel_rfl) (by kernel_rfl) (by kernel_rfl) (fun _ _ _ h => h) hH rfl ?yla45 ?rla45
  case yla45 => intro W hSw; go_simp; try with_reducible rfl
  try simp only [Act.put, List.setIfInBounds_toArray, List.set_cons_zero, List.set_cons_succ]
  refine takeH 7 (v := ?vla46) rfl (by kernel_rfl) (by kernel_rfl) (by kernel_rfl) (fun _ _ _ h => h) hH rfl ?yla46 ?rla46
  case yla46 => intro W hSw; go_simp; try with_reducible rfl
  try simp only [Act.put, List.setIfInBounds_toArray, List.set_cons_zero, List.set_cons_succ]
  refine takeH 8 (v := ?vla47) rfl (by kernel_rfl) (by kernel_rfl) (by kernel_rfl) (fun _ _ _ h => h) hH rfl ?yla47 ?rla47
  case yla47 => intro W hSw; go_simp; try with_reducible rfl
  try simp only [Act.put, List.setIfInBounds_toArray, List.set_cons_zero, List.set_cons_succ]
  refine takeH 9 (v := ?vla48) rfl (by kernel_rfl) (by kernel_rfl) (by kernel_rfl) (fun _ _ _ h => h) hH rfl ?yla48 ?rla48
  case yla48 => intro W hSw; go_simp; try with_reducible rfl
  try simp only [Act.put, List.setIfInBounds_toArray, List.set_cons_zero, List.set_cons_succ]
  refine takeH 10 (v := ?vla49) rfl (by kernel_rfl) (by kernel_rfl) (by kernel_rfl) (fun _ _ _ h => h) hH rfl ?yla49 ?rla49
  case yla49 => intro W hSw; go_simp; try with_reducible rfl
  try simp only [Act.put, List.setIfInBounds_toArray, List.set_cons_zero, List.set_cons_succ]
  refine takeH 11 (v := ?vla50) rfl (by kernel_rfl) (by kernel_rfl) (by kernel_rfl) (fun _ _ _ h => h) hH rfl ?yla50 ?rla50
  case yla50 => intro W hSw; go_simp; try with_reducible rfl
  try simp only [Act.put, List.setIfInBounds_toArray, List.set_cons_zero, List.set_cons_succ]
  refine takeH 12 (v := .int .i64 (bi - s)) rfl (by kernel_rfl) (by kernel_rfl) (by kernel_rfl) (fun _ _ _ h => h) hH rfl ?yla51 ?rla51
  case yla51 => intro W hSw; go_simp; first | done | (simp [w3'])
  try simp only [Act.put, List.setIfInBounds_toArray, List.set_cons_zero, List.set_cons_succ]
  refine takeH 13 (v := ?vla52) rfl (by kernel_rfl) (by kernel_rfl) (by kernel_rfl) (fun _ _ _ h => h) hH rfl ?yla52 ?rla52
  case yla52 => intro W hSw; go_simp; try with_reducible rfl
  try simp only [Act.put, List.setIfInBounds_toArray, List.set_cons_zero, List.set_cons_succ]
  refine takeH 14 (v := ?vla53) rfl (by kernel_rfl) (by kernel_rfl) (by kernel_rfl) (fun _ _ _ h => h) hH rfl ?yla53 ?rla53
  case yla53 => intro W hSw; go_simp; try with_reducible rfl
  try simp only [Act.put, List.setIfInBounds_toArray, List.set_cons_zero, List.set_cons_succ]
  refine takeH 15 (v := .int .i64 (bi - s - ee)) rfl (by kernel_rfl) (by kernel_rfl) (by kernel_rfl) (fun _ _ _ h => h) hH rfl ?yla54 ?rla54
  case yla54 => intro W hSw; go_simp; first | done | (simp [w4'])
  try simp only [Act.put, List.setIfInBounds_toArray, List.set_cons_zero, List.set_cons_succ]
  refine takeH 16 (v := ?vla55) rfl (by kernel_rfl) (by kernel_rfl) (by kernel_rfl) (fun _ _ _ h => h) hH rfl ?yla55 ?rla55
  case yla55 => intro W hSw; go_simp; try with_reducible rfl
  try simp only [Act.put, List.setIfInBounds_toArray, List.set_cons_zero, List.set_cons_succ]
  refine callH 17 rfl (by kernel_rfl) rfl (fun K hK => ?_)
  have y9 := HA.out.frozen h6 i
  have q9 := HA.out.at h6 (j := i) (by rw [HA.out.len]; omega)
  skip
  go_simp
  clear y9 q9
  have HA := Lib.hid (HA.out.store i (bi - s - ee))
  refine hK.out _ _ ⟨HA.out.s2.cell 0 (v := .int .i64 i) rfl, HA.out.s2.cell 1 (v := .int .i64 j) rfl, HA.out.s2.cell 2 (v := .int .i64 s) rfl, HA.out.s2.cell 3 (v := .int .i64 ee) rfl, HA.out.s1.cell 0 (v := .slice (some ⟨b, off, none⟩) l.length cap) rfl, HA.out.s4.cell 0 (v := .slice (some ⟨g, 0, none⟩) l.length vc) rfl, HCI.out _ HA.out.bel⟩ (fun hH => ?_)
  clear hK K
  try simp only [Act.put, List.setIfInBounds_toArray, List.set_cons_zero, List.set_cons_succ]
  generalize (wd.setCell ⟨g, i, none⟩ (.int .i64 (bi - s - ee))) = w5s at *
  refine wpAnyH_done (by kernel_rfl) ?_ _
  try simp only [Act.put]
  clear hH
  go_wp2_with fail
  refine wp_region_held_drew (S := fun w' => w'.cell? ⟨w.heap.size + 1, 0, none⟩ = some (.int .i64 i) ∧ w'.cell? ⟨w.heap.size + 1, 1, none⟩ = some (.int .i64 j) ∧ w'.cell? ⟨w.heap.size + 1, 2, none⟩ = some (.int .i64 s) ∧ w'.cell? ⟨w.heap.size + 1, 3, none⟩ = some (.int .i64 ee) ∧ w'.cell? ⟨w.heap.size, 0, none⟩ = some (.slice (some ⟨b, off, none⟩) l.length cap) ∧ w'.cell? ⟨O, 0, none⟩ = some (.slice (some ⟨g, 0, none⟩) l.length vc) ∧ w'.cell? ⟨b, off + j, none⟩ = some (.int .i64 bj)) (by kernel_rfl) ⟨HA.out.s2.cell 0 (v := .int .i64 i) rfl, HA.out.s2.cell 1 (v := .int .i64 j) rfl, HA.out.s2.cell 2 (v := .int .i64 s) rfl, HA.out.s2.cell 3 (v := .int .i64 ee) rfl, HA.out.s1.cell 0 (v := .slice (some ⟨b, off, none⟩) l.length cap) rfl, HA.out.s4.cell 0 (v := .slice (some ⟨g, 0, none⟩) l.length vc) rfl, HCJ.out _ HA.out.bel.drew⟩ (fun hH => ?_)
  have HA := Lib.hid HA.out.drew
  generalize w5s.drew = wd at *
  refine takeH 0 (v := ?vla56) rfl (by kernel_rfl) (by kernel_rfl) (by kernel_rfl) (fun _ _ _ h => h) hH rfl ?yla56 ?rla56
  case yla56 => intro W hSw; go_simp; try with_reducible rfl
  try simp only [Act.put, List.setIfInBounds_toArray, List.set_cons_zero, List.set_cons_succ]
  refine takeH 1 (v := ?vla57) rfl (by kernel_rfl) (by kernel_rfl) (by kernel_rfl) (fun _ _ _ h => h) hH rfl ?yla57 ?rla57
  case yla57 => intro W hSw; go_simp; try with_reducible rfl
  try simp only [Act.put, List.setIfInBounds_toArray, List.set_cons_zero, List.set_cons_succ]
  refine takeH 2 (v := ?vla58) rfl (by kernel_rfl) (by kernel_rfl) (by kernel_rfl) (fun _ _ _ h => h) hH rfl ?yla58 ?rla58
  case yla58 => intro W hSw; go_simp; try with_reducible rfl
  try simp only [Act.put, List.setIfInBounds_toArray, List.set_cons_zero, List.set_cons_succ]
  refine takeH 3 (v := ?vla59) rfl (by kernel_rfl) (by kernel_rfl) (by kernel_rfl) (fun _ _ _ h => h) hH rfl ?yla59 ?rla59
  case yla59 => intro W hSw; go_simp; try with_reducible rfl
  try simp only [Act.put, List.setIfInBounds_toArray, List.set_cons_zero, List.set_cons_succ]
  refine takeH 4 (v := ?vla60) rfl (by kernel_rfl) (by kernel_rfl) (by kernel_rfl) (fun _ _ _ h => h) hH rfl ?yla60 ?rla60
  case yla60 => intro W hSw; go_simp; try with_reducible rfl
  try simp only [Act.put, List.setIfInBounds_toArray, List.set_cons_zero, List.set_cons_succ]
  refine takeH 5 (v := ?vla61) rfl (by kernel_rfl) (by kernel_rfl) (by kernel_rfl) (fun _ _ _ h => h) hH rfl ?yla61 ?rla61
  case yla61 => intro W hSw; go_simp; try with_reducible rfl
  try simp only [Act.put, List.setIfInBounds_toArray, List.set_cons_zero, List.set_cons_succ]
  refine takeH 6 (v := ?vla62) rfl (by kernel_rfl) (by kernel_rfl) (by kernel_rfl) (fun _ _ _ h => h) hH rfl ?yla62 ?rla62
  case yla62 => intro W hSw; go_simp; try with_reducible rfl
  try simp only [Act.put, List.setIfInBounds_toArray, List.set_cons_zero, List.set_cons_succ]
  refine takeH 7 (v := ?vla63) rfl (by kernel_rfl) (by kernel_rfl) (by kernel_rfl) (fun _ _ _ h => h) hH rfl ?yla63 ?rla63
  case yla63 => intro W hSw; go_simp; try with_reducible rfl
  try simp only [Act.put, List.setIfInBounds_toArray, List.set_cons_zero, List.set_cons_succ]
  refine takeH 8 (v := ?vla64) rfl (by kernel_rfl) (by kernel_rfl) (by kernel_rfl) (fun _ _ _ h => h) hH rfl ?yla64 ?rla64
  case yla64 => intro W hSw; go_simp; try with_reducible rfl
  try simp only [Act.put, List.setIfInBounds_toArray, List.set_cons_zero, List.set_cons_succ]
  refine takeH 9 (v := ?vla65) rfl (by kernel_rfl) (by kernel_rfl) (by kernel_rfl) (fun _ _ _ h => h) hH rfl ?yla65 ?rla65
  case yla65 => intro W hSw; go_simp; try with_reducible rfl
  try simp only [Act.put, List.setIfInBounds_toArray, List.set_cons_zero, List.set_cons_succ]
  refine takeH 10 (v := ?vla66) rfl (by kernel_rfl) (by kernel_rfl) (by kernel_rfl) (fun _ _ _ h => h) hH rfl ?yla66 ?rla66
  case yla66 => intro W hSw; go_simp; try with_reducible rfl
  try simp only [Act.put, List.setIfInBounds_toArray, List.set_cons_zero, List.set_cons_succ]
  refine takeH 11 (v := ?vla67) rfl (by kernel_rfl) (by kernel_rfl) (by kernel_rfl) (fun _ _ _ h => h) hH rfl ?yla67 ?rla67
  case yla67 => intro W hSw; go_simp; try with_reducible rfl
  try simp only [Act.put, List.setIfInBounds_toArray, List.set_cons_zero, List.set_cons_succ]
  refine takeH 12 (v := .int .i64 (bj + s)) rfl (by kernel_rfl) (by kernel_rfl) (by kernel_rfl) (fun _ _ _ h => h) hH rfl ?yla68 ?rla68
  case yla68 => intro W hSw; go_simp; first | done | (simp [w2'])
  try simp only [Act.put, List.setIfInBounds_toArray, List.set_cons_zero, List.set_cons_succ]
  refine takeH 13 (v := ?vla69) rfl (by kernel_rfl) (by kernel_rfl) (by kernel_rfl) (fun _ _ _ h => h) hH rfl ?yla69 ?rla69
  case yla69 => intro W hSw; go_simp; try with_reducible rfl
  try simp only [Act.put, List.setIfInBounds_toArray, List.set_cons_zero, List.set_cons_succ]
  refine callH 14 rfl (by kernel_rfl) rfl (fun K hK => ?_)
  have y9 := HA.out.frozen h6 j
  have q9 := HA.out.at h6 (j := j) (by rw [HA.out.len]; omega)
  skip
  go_simp
  clear y9 q9
  have HA := Lib.hid (HA.out.store j (bj + s))
  refine hK.out _ _ ⟨HA.out.s2.cell 0 (v := .int .i64 i) rfl, HA.out.s2.cell 1 (v := .int .i64 j) rfl, HA.out.s2.cell 2 (v := .int .i64 s) rfl, HA.out.s2.cell 3 (v := .int .i64 ee) rfl, HA.out.s1.cell 0 (v := .slice (some ⟨b, off, none⟩) l.length cap) rfl, HA.out.s4.cell 0 (v := .slice (some ⟨g, 0, none⟩) l.length vc) rfl, HCJ.out _ HA.out.bel⟩ (fun hH => ?_)
  clear hK K
  try simp only [Act.put, List.setIfInBounds_toArray, List.set_cons_zero, List.set_cons_succ]
  generalize (wd.setCell ⟨g, j, none⟩ (.int .i64 (bj + s))) = w5ss at *
  refine wpAnyH_done (by kernel_rfl) ?_ _
  try simp only [Act.put]
  clear hH
  have x0 := HA.out.s2.cell 0 (v := .int .i64 i) rfl
  have x1 := HA.out.s2.cell 1 (v := .int .i64 j) rfl
  have x2 := HA.out.s2.cell 2 (v := .int .i64 s) rfl
  have x3 := HA.out.s2.cell 3 (v := .int .i64 ee) rfl
  have l0 := HA.out.s1.cell 0 (v := .slice (some ⟨b, off, none⟩) l.length cap) rfl
  have l1 := HA.out.s1.cell 1 (v := .int .i64 n) rfl
  have o1 := HA.out.s4.cell 1 (v := .int .i64 n) rfl
  have fo := HA.out.s4.frozen 1
  have HA := Lib.hid (HA.out.fee (n + ee))
  have sF := HA.out.fin
  obtain ⟨sf, oF, bF⟩ := sF
  have y0 := HA.out.s3.frozen 0
  have y1 := HA.out.s3.frozen 1
  have q0 := HA.out.s3.cell 0 (v := .slice none 0 0) rfl
  have q1 := HA.out.s3.cell 1 (v := .int .i64 0) rfl
  have o0 := HA.out.s4.cell 0 (v := .slice (some ⟨g, 0, none⟩) l.length vc) rfl
  have o1 := HA.out.s4.cell 1 (v := .int .i64 (n + ee)) rfl
  have e0 := sf.cell 0 (v := .slice (some ⟨g, 0, none⟩) l.length vc) rfl
  have e1 := sf.cell 1 (v := .int .i64 (n + ee)) rfl
  have OF := Lib.hid oF; have BF := Lib.hid bF; clear oF bF sf
  go_wp2
  skip
  refine bodyPost_ret (v := .tuple #[.agg #[.slice (some ⟨g, 0, none⟩) l.length vc, .int .i64 (n + ee)], .bool true]) (by simp [results, Try.f42, go_sem, e0, e1]) rfl ?_
  exact Hpost.out _ _ _ _ _ _ rfl OF.out BF.out (HY.out Hok.out) (ap_yes (l := l) Hok.out).2.symm Hok.out.symm

end Go.Proofs.Ytnjjbplocokdeab

/- A region that draws its order and keeps a condition up to its last operation: either of two operations may come up next. A general step; nothing here speaks of the program. -/
namespace Go.Proofs.Ytnjjbplocokdeab
open Go.RowKit
section
variable {P : Program} {md : Region.Mode} {l : List Oper} {Q : Exit → Act → World → Prop} {S : World → Prop} {oi oj : Oper} {rest rest' : List Oper} {fuel m : Nat} {listed : Array Bool} {a : Act} {w : World}
/-- Number i or number j may come up, neither is the last. -/
theorem twoL (i j : Nat) (hi : l.drop i = oi :: rest) (hj : l.drop j = oj :: rest') (hr : Region.ready md l.toArray listed = [i, j]) (hw : Region.wanted oi (yielded l.toArray a.tmps) = true) (hw' : Region.wanted oj (yielded l.toArray a.tmps) = true)
    (h : ∀ K' : Act → World → Prop, Shut (∀ a w, S w → (S w → wpAnyL P md l.toArray Q m S fuel (listed.setIfInBounds i true) a w) → K' a w) → Oper.wp P oi a w K' Q)
    (h' : ∀ K' : Act → World → Prop, Shut (∀ a w, S w → (S w → wpAnyL P md l.toArray Q m S fuel (listed.setIfInBounds j true) a w) → K' a w) → Oper.wp P oj a w K' Q) : wpAnyL P md l.toArray Q m S (fuel + 1) listed a w := by
  refine ⟨fun h0 => absurd (hr ▸ h0) (by simp), fun k hk => ?_⟩
  rw [hr] at hk
  have hk' : k = i ∨ k = j := by simpa using hk
  rcases hk' with e | e
  · subst e
    exact wpOp_step (drop_at hi) fun K' hK => by rw [if_pos hw]; exact h K' fun a w hS hW => hK a w ⟨fun _ => hS, hW hS⟩
  · subst e
    exact wpOp_step (drop_at hj) fun K' hK => by rw [if_pos hw']; exact h' K' fun a w hS hW => hK a w ⟨fun _ => hS, hW hS⟩
end
end Go.Proofs.Ytnjjbplocokdeab

/- Lists of transactions of the call's own, and as the source of an append; general steps, nothing here speaks of the program but the types. -/
namespace Go.Proofs.Ytnjjbplocokdeab
open Go.RowKit

/-- v owns these transactions, in a block from B on. -/
abbrev OwnX (E : TypeId) (w : World) (B : Nat) (v : Value) (l : List Tx) : Prop := OwnN E 4 w B v (l.map txN)
theorem OwnX.sl {E : TypeId} {w : World} {B : Nat} {v : Value} {l : List Tx} (h : OwnX E w B v l) : ∃ a c, v = .slice a l.length c ∧ l.length ≤ c := by
  obtain ⟨a, c, rfl, h2⟩ := OwnN.slice h
  rw [List.length_map] at h2 ⊢
  exact ⟨a, c, rfl, h2⟩
theorem OwnX.txs {E : TypeId} {w : World} {B : Nat} {v : Value} {l : List Tx} (h : OwnX E w B v l) : ∃ fp, Txs w l v fp := by
  obtain ⟨a, c, fp, rfl, _, hr⟩ := txs_of h
  exact ⟨fp, hr⟩
theorem OwnX.fresh (E : TypeId) (w : World) : OwnX E (w.alloc (.cells #[] E)) w.heap.size (.slice (some ⟨w.heap.size, 0, none⟩) 0 0) [] := OwnN.empty E 4 w
theorem OwnX.setc {E : TypeId} {w : World} {B : Nat} {v : Value} {l : List Tx} (h : OwnX E w B v l) {b : Nat} (hne : ∀ g, v.ownBlock = some g → g ≠ b) (j : Nat) (u : Value) : OwnX E (w.setCell ⟨b, j, none⟩ u) B v l :=
  OwnN.kept h (grownBy_set w b j u) fun g e e2 => hne g e (by injection e2 with e2; exact e2.symm)
theorem flN_tx (l : List Tx) : (flN (l.map txN)).length = l.length * 4 := by
  rw [flN_len (sz := 4) (fun e he => by obtain ⟨x, _, rfl⟩ := List.mem_map.1 he; rfl), List.length_map]
theorem flN_cutX (l m : List Tx) : flN ((l ++ m).map txN) = flN (l.map txN) ++ flN (m.map txN) := by rw [List.map_append, flN_app]
/-- A list of transactions as the source of an append. -/
def TSrc (w : World) (va : Option Addr) (vc : Nat) (l : List Tx) : Prop := (va = none ∧ l = [] ∧ vc = 0) ∨ ∃ q, va = some q ∧ SrcN w q (l.map txN)
theorem TSrc.below {w w' : World} {va : Option Addr} {vc : Nat} {l : List Tx} (h : TSrc w va vc l) (hb : Below w.heap.size w w') : TSrc w' va vc l := h.imp id fun ⟨q, e, hq⟩ => ⟨q, e, hq.below hb⟩
theorem SrcN.txs {w : World} {b off : Nat} {l : List Tx} (h : ∀ k (hk : k < l.length), w.cell? ⟨b, off + k * 4, none⟩ = some (.int .i64 l[k].f) ∧ w.cell? ⟨b, off + k * 4 + 1, none⟩ = some (.int .i64 l[k].t) ∧ w.cell? ⟨b, off + k * 4 + 2, none⟩ = some (.int .i64 l[k].s) ∧ w.cell? ⟨b, off + k * 4 + 3, none⟩ = some (.int .i64 l[k].e)) : SrcN w ⟨b, off, none⟩ (l.map txN) := by
  intro p u hp
  have hpl : p < l.length * 4 := by rw [← flN_tx]; exact (List.getElem?_eq_some_iff.1 hp).1
  have hk : p / 4 < l.length := by omega
  have hk' : p / 4 < (l.map txN).length := by simpa using hk
  have e1 : p = p / 4 * 4 + p % 4 := by omega
  have hge : (l.map txN)[p / 4] = txN l[p / 4] := by simp
  rw [e1, flN_at (sz := 4) (fun e he => by obtain ⟨x, _, rfl⟩ := List.mem_map.1 he; rfl) (p / 4) (p % 4) hk' (by omega), hge] at hp
  rw [addr_add']
  simp only [show (⟨b, off + p, none⟩ : Addr) = ⟨b, off + p / 4 * 4 + p % 4, none⟩ by congr 1; omega]
  obtain ⟨h0, h1, h2, h3⟩ := h (p / 4) hk
  have h4 : p % 4 < 4 := by omega
  match hm : p % 4, h4 with
  | 0, _ => rw [hm] at hp; rw [show off + p / 4 * 4 + 0 = off + p / 4 * 4 from rfl, h0]; simpa [rwN, txN] using hp
  | 1, _ => rw [hm] at hp; rw [h1]; simpa [rwN, txN] using hp
  | 2, _ => rw [hm] at hp; rw [h2]; simpa [rwN, txN] using hp
  | 3, _ => rw [hm] at hp; rw [h3]; simpa [rwN, txN] using hp
theorem SrcN.takeX {w : World} {ad : Addr} {l : List Tx} (h : SrcN w ad (l.map txN)) (k : Nat) : SrcN w ad ((l.take k).map txN) := by
  intro p u hp
  have h1 := flN_cutX (l.take k) (l.drop k)
  rw [List.take_append_drop] at h1
  refine h p u ?_
  rw [h1, List.getElem?_append_left (List.getElem?_eq_some_iff.1 hp).1]
  exact hp
theorem SrcN.dropX {w : World} {q : Addr} {l : List Tx} (h : SrcN w q (l.map txN)) (k : Nat) : SrcN w (q.add (k * 4)) ((l.drop k).map txN) := by
  intro p u hp
  by_cases hk : k ≤ l.length
  · have h1 := flN_cutX (l.take k) (l.drop k)
    rw [List.take_append_drop] at h1
    have hl : (flN ((l.take k).map txN)).length = k * 4 := by rw [flN_tx, List.length_take]; omega
    have hd : flN ((l.drop k).map txN) = (flN (l.map txN)).drop (k * 4) := by
      rw [h1, List.drop_append_of_le_length (by omega), show (flN ((l.take k).map txN)).drop (k * 4) = [] from List.drop_of_length_le (by omega)]
      rfl
    rw [hd, List.getElem?_drop] at hp
    have := h _ _ hp
    rw [← this]
    simp only [Addr.add]
    by_cases e1 : k * 4 = 0 <;> by_cases e2 : p = 0 <;> simp [e1, e2, Nat.add_assoc]
  · rw [List.drop_of_length_le (by omega)] at hp; simp [flN] at hp
theorem SrcN.nilX {w : World} {q : Addr} : SrcN w q (([] : List Tx).map txN) := fun j u hj => by simp [flN] at hj
theorem tsrc_of {w : World} {l : List Tx} {va : Option Addr} {vc : Nat} {fp : List Nat} (h : Txs w l (.slice va l.length vc) fp) : TSrc w va vc l := by
  by_cases h0 : l = []
  · subst h0
    cases va with
    | some q => exact .inr ⟨q, rfl, SrcN.nilX⟩
    | none => exact .inl ⟨rfl, rfl, Rd.nilcap h⟩
  · obtain ⟨b, off, rfl, _, hat⟩ := h.at (List.length_pos_iff.2 h0)
    exact .inr ⟨_, rfl, SrcN.txs hat⟩
theorem txs_cap {w : World} {l : List Tx} {va : Option Addr} {vc : Nat} {fp : List Nat} (h : Txs w l (.slice va l.length vc) fp) : l.length ≤ vc := by
  obtain ⟨a, c, e, hc⟩ := h.slice
  injection e with _ _ e3; omega
theorem tsrc_parts {w : World} {va : Option Addr} {vc : Nat} {l : List Tx} (h : TSrc w va vc l) (hc : l.length ≤ vc) {k : Nat} (hk : k ≤ l.length) :
    TSrc w va vc (l.take k) ∧ TSrc w (if vc = k then va else va.map (·.add (k * 4))) (vc - k) (l.drop k) := by
  rcases h with ⟨rfl, rfl, rfl⟩ | ⟨q, rfl, hq⟩
  · exact ⟨.inl ⟨rfl, by simp, rfl⟩, .inl ⟨by split <;> rfl, by simp, by simp⟩⟩
  · refine ⟨.inr ⟨q, rfl, hq.takeX k⟩, ?_⟩
    by_cases e : vc = k
    · rw [if_pos e, List.drop_of_length_le (by omega)]; exact .inr ⟨q, rfl, SrcN.nilX⟩
    · rw [if_neg e]; exact .inr ⟨_, rfl, hq.dropX k⟩
theorem srcX_one {w : World} {B : Nat} {E : TypeId} {x : Tx} (h : Str w B E #[.int .i64 x.f, .int .i64 x.t, .int .i64 x.s, .int .i64 x.e]) : SrcN w ⟨B, 0, none⟩ ([x].map txN) := by
  intro p u hp
  rw [addr_add']
  simp only [Nat.zero_add]
  match p with
  | 0 | 1 | 2 | 3 => exact h.cell _ (by simpa [flN, rwN, txN] using hp)
  | n + 4 => simp [flN, rwN, txN] at hp
theorem setx1 {w : World} {B j : Nat} {v : Value} {q : Nat} (hq : q < w.heap.size) (hne : q ≠ B) : (w.setCell ⟨B, j, none⟩ v).heap[q]? = w.heap[q]? := (grownBy_set _ B j v).block q hq (by simpa using hne)
theorem setx2 {w : World} {B j j' : Nat} {v v' : Value} {q : Nat} (hq : q < w.heap.size) (hne : q ≠ B) : ((w.setCell ⟨B, j, none⟩ v).setCell ⟨B, j', none⟩ v').heap[q]? = w.heap[q]? :=
  ((grownBy_set _ B j' v').block q (by simpa using hq) (by simpa using hne)).trans ((grownBy_set _ B j v).block q hq (by simpa using hne))

theorem tq_T : Try.prog.underlying 32 = some (.slice 25) := Try.underlying32
theorem tq_inf : (Try.prog.info? 25).map (fun i => (i.zero, i.size, i.bytes)) = some (some (.agg #[.int .i64 0, .int .i64 0, .int .i64 0, .int .i64 0]), 4, 32) := by kernel_rfl
theorem op_app_X {w : World} {o : Oper} {a : Act} {K : Act → World → Prop} {Q : Exit → Act → World → Prop} (s x : Operand) (ho : o.op = .call { callee := .builtin .append, args := #[s, x], argTypes := #[32, 32] }) (B : Nat) (v : Value) (es es2 : List Tx) (ad : Option Addr) (c : Nat)
    (hs : a.eval s = v) (hb : OwnX 25 w B v es) (hx : a.eval x = .slice ad es2.length c) (hsrc : TSrc w ad c es2) (hlen : es.length + es2.length ≤ 1048577) (hB : B ≤ w.heap.size)
    (h : ∀ v' w', OwnX 25 w' B v' (es ++ es2) → w.grownBy w' v.ownBlock → (∀ g, v'.ownBlock = some g → v.ownBlock = some g ∨ w.heap.size ≤ g) → K (a.put o.dst v') w') : Oper.wp Try.prog o a w K Q :=
  op_app_N tq_T tq_inf rfl (by decide) (by decide) s x ho B v (es.map txN) (es2.map txN) ad c hs hb (by rw [hx, List.length_map]) (fun e he => by obtain ⟨y, _, rfl⟩ := List.mem_map.1 he; rfl) (hsrc.imp (fun ⟨h1, h2, h3⟩ => ⟨h1, by rw [h2]; rfl, h3⟩) id) (by rw [List.length_map, List.length_map]; exact hlen) hB
    fun v' w' h1 h2 h3 => h v' w' (by unfold OwnX; rw [List.map_append]; exact h1) h2 h3
theorem wpList_app_X {w : World} {ops : Array Oper} {rest : List Oper} {o : Oper} {a : Act} {Q : Exit → Act → World → Prop} (hgd : Region.wanted o (yielded ops a.tmps) = true) (s x : Operand) (ho : o.op = .call { callee := .builtin .append, args := #[s, x], argTypes := #[32, 32] }) (B : Nat) (v : Value) (es es2 : List Tx) (ad : Option Addr) (c : Nat)
    (hs : a.eval s = v) (hb : OwnX 25 w B v es) (hx : a.eval x = .slice ad es2.length c) (hsrc : TSrc w ad c es2) (hlen : es.length + es2.length ≤ 1048577) (hB : B ≤ w.heap.size)
    (h : ∀ v' w', OwnX 25 w' B v' (es ++ es2) → w.grownBy w' v.ownBlock → (∀ g, v'.ownBlock = some g → v.ownBlock = some g ∨ w.heap.size ≤ g) → wpList Try.prog ops Q rest (a.put o.dst v') w') : wpList Try.prog ops Q (o :: rest) a w :=
  wpList_want hgd fun _ hK => op_app_X s x ho B v es es2 ad c hs hb hx hsrc hlen hB fun v' w' h1 h2 h3 => hK _ _ (h v' w' h1 h2 h3)
theorem TSrc.parts {w : World} {va : Option Addr} {vc : Nat} {g : List Tx} (h : TSrc w va vc g) (hc : g.length ≤ vc) {k : Nat} (hk : k ≤ g.length) :
    (∀ W, (Instr.slice 32 (.slice va g.length vc) none (some (.int .i64 k)) none).run Try.prog W = .ok (.slice va (g.take k).length vc) W) ∧ TSrc w va vc (g.take k) ∧
    ∃ ad ac, (∀ W, (Instr.slice 32 (.slice va g.length vc) (some (.int .i64 k)) none none).run Try.prog W = .ok (.slice ad (g.drop k).length ac) W) ∧ TSrc w ad ac (g.drop k) := by
  obtain ⟨h1, h2⟩ := tsrc_parts h hc hk
  have ht : Try.prog.underlying 32 = some (.slice (Try.prog.elem 32)) := by kernel_rfl
  have hs : ∀ W, (sizeOf (Try.prog.elem 32)).run Try.prog W = .ok 4 W := fun W => by kernel_rfl
  refine ⟨fun W => ?_, h1, _, _, fun W => ?_, h2⟩
  · rw [run_slice_h (ht := ht) (h0 := by omega) (h2 := by omega), hs]
    simp only [Result.andThen, sliced, Int.toNat_natCast, List.length_take, Nat.min_eq_left hk, Nat.sub_zero]
    have e : (if vc = 0 then va else va.map (·.add (0 * 4))) = va := by
      split
      · rfl
      · cases va <;> simp [Addr.add]
    rw [e]
  · rw [run_slice_l (ht := ht) (h0 := by omega) (h1 := by omega), hs]
    simp only [Result.andThen, sliced, Int.toNat_natCast, List.length_drop]

end Go.Proofs.Ytnjjbplocokdeab

/- Lists of truth values in memory of their own; general steps, nothing here speaks of the program. -/
namespace Go.Proofs.Ytnjjbplocokdeab
open Go.RowKit

/-- The slice value v owns the truth values bs in memory made from block B on. -/
def OwnB (E : TypeId) (w : World) (B : Nat) (v : Value) (bs : List Bool) : Prop := w.ownsRow B E 1 v bs.length (bs.map Value.bool)
section
variable {E : TypeId} {w w' : World} {B : Nat} {v : Value} {bs : List Bool}
theorem OwnB.kept {row : Option Nat} (h : OwnB E w B v bs) (hg : w.grownBy w' row) (hne : v.ownBlock = none ∨ v.ownBlock ≠ row) : OwnB E w' B v bs := World.ownsRow.kept h hg hne
theorem OwnB.below (h : OwnB E w B v bs) (hg : Below w.heap.size w w') : OwnB E w' B v bs := h.kept (below_grown hg) (by cases hv : v.ownBlock <;> simp)
theorem OwnB.lt (h : OwnB E w B v bs) : ∀ k, v.ownBlock = some k → B ≤ k ∧ k < w.heap.size := World.ownsRow.lt h
theorem OwnB.mono {B' : Nat} (h : OwnB E w B v bs) (hB : B' ≤ B) : OwnB E w B' v bs := by
  refine ⟨h.1, ?_⟩
  rcases h.2 with h0 | ⟨g, cap, cur, e, hb, rest⟩
  · exact .inl h0
  · exact .inr ⟨g, cap, cur, e, by omega, rest⟩
theorem OwnB.slice (h : OwnB E w B v bs) : ∃ a cap, v = .slice a bs.length cap ∧ bs.length ≤ maxLen := by
  rcases h.2 with ⟨rfl, h0⟩ | ⟨g, cap, cur, rfl, hb, hg, hn, hm, hs, ht⟩
  · exact ⟨none, 0, by rw [h0], by rw [h0]; simp⟩
  · exact ⟨_, cap, rfl, by omega⟩
theorem OwnB.row (h : OwnB E w B v bs) (hx : 0 < bs.length) : ∃ g cap, v = .slice (some ⟨g, 0, none⟩) bs.length cap ∧ B ≤ g ∧ g < w.heap.size ∧ bs.length ≤ cap ∧
    (∀ j (h : j < bs.length), w.cell? ⟨g, j, none⟩ = some (.bool bs[j])) ∧ ∀ j, w.frozen? ⟨g, j, none⟩ = false := by
  rcases h.2 with ⟨rfl, h0⟩ | ⟨g, cap, cur, rfl, hb, hg, hn, hm, hs, ht⟩
  · omega
  · refine ⟨g, cap, rfl, hb, (Array.getElem?_eq_some_iff.1 hg).1, hn, fun j hj => ?_, fun j => frozen_of_row w g j cur E hg⟩
    have hc := World.ownsRow.cells (w := w) (base := B) (e := E) (size := 1) (v := .slice (some ⟨g, 0, none⟩) bs.length cap) (n := bs.length) (xs := bs.map Value.bool) h (g := g) rfl j (.bool bs[j]) (by simp [hj])
    rwa [addr_add] at hc
theorem OwnB.store {g cap n : Nat} (h : OwnB E w B (.slice (some ⟨g, 0, none⟩) n cap) bs) (hn : n = bs.length) (j : Nat) (z : Bool) :
    OwnB E (w.setCell ⟨g, j, none⟩ (.bool z)) B (.slice (some ⟨g, 0, none⟩) n cap) (bs.set j z) ∧ w.grownBy (w.setCell ⟨g, j, none⟩ (.bool z)) (some g) := by
  subst hn
  have := World.ownsRow.stored (w := w) (base := B) (e := E) (size := 1) (g := g) (n := bs.length) (cap := cap) h j (.bool z)
  refine ⟨?_, this.2⟩
  unfold OwnB
  rw [List.map_set, List.length_set]
  exact this.1
theorem OwnB.apart {E' : TypeId} {B' : Nat} {u : Value} {xs : List Int} (h' : OwnB E w B v bs) (h : Own E' w B' u xs) (hE : E ≠ E') : v.ownBlock = none ∨ v.ownBlock ≠ u.ownBlock := by
  rcases h'.2 with ⟨rfl, _⟩ | ⟨g, cap, cur, rfl, _, hg, _⟩
  · exact .inl rfl
  · rcases h.2 with ⟨rfl, _⟩ | ⟨g', cap', cur', rfl, _, hg', _⟩
    · exact .inr (fun e => by cases e)
    · refine .inr fun e => hE ?_
      have e' : g = g' := by cases e; rfl
      subst e'
      rw [hg] at hg'
      cases hg'
      rfl
/-- New memory holds no truth. -/
theorem ownB_new (E : TypeId) (w : World) (n : Nat) (hm : n ≤ maxLen) : OwnB E (w.alloc (.cells (madeCells #[.bool false] n) E)) w.heap.size (.slice (some ⟨w.heap.size, 0, none⟩) n n) (List.replicate n false) := by
  have e : (madeCells #[Value.bool false] n).toList = (List.replicate n false).map Value.bool := by
    refine List.ext_getElem (by simp [madeCells]) fun i h1 h2 => ?_
    simp [madeCells, Nat.mod_one]
  have hs : (madeCells #[Value.bool false] n).size = n := by simp [madeCells]
  refine ⟨by simp, .inr ⟨w.heap.size, n, _, by simp, Nat.le_refl _, heap_alloc_new w _, by simp, hm, by rw [hs, Nat.mul_one], ?_⟩⟩
  rw [e]
  exact List.take_of_length_le (by simp)
end

end Go.Proofs.Ytnjjbplocokdeab

/- Lists of truth values in memory: how they read, an append to them, their sameness; condition: the lists are shorter than 2^40. -/
namespace Go.Proofs.Ytnjjbplocokdeab
open Go.RowKit

/-- The slice at address a reads as bs. -/
def BlsAt (w : World) (a : Option Addr) (bs : List Bool) : Prop :=
  bs = [] ∨ ∃ b off, a = some ⟨b, off, none⟩ ∧ b < w.heap.size ∧ ∀ j (h : j < bs.length), w.cell? ⟨b, off + j, none⟩ = some (.bool bs[j])
theorem BlsAt.below {w w' : World} {a : Option Addr} {bs : List Bool} (h : BlsAt w a bs) (hb : Below w.heap.size w w') : BlsAt w' a bs := by
  rcases h with h | ⟨b, off, e, hl, hc⟩
  · exact .inl h
  · exact .inr ⟨b, off, e, Nat.lt_of_lt_of_le hl hb.size, fun j hj => (hb.cell (p := ⟨b, off + j, none⟩) hl).trans (hc j hj)⟩
theorem BlsAt.cell {w : World} {a : Option Addr} {bs : List Bool} (h : BlsAt w a bs) (hx : 0 < bs.length) : ∃ b off, a = some ⟨b, off, none⟩ ∧ b < w.heap.size ∧ ∀ j (h : j < bs.length), w.cell? ⟨b, off + j, none⟩ = some (.bool bs[j]) := by
  rcases h with rfl | h
  · simp at hx
  · exact h
theorem OwnB.at {E : TypeId} {w : World} {B n c : Nat} {a : Option Addr} {bs : List Bool} (h : OwnB E w B (.slice a n c) bs) : BlsAt w a bs := by
  rcases Nat.eq_zero_or_pos bs.length with h0 | h0
  · exact .inl (List.eq_nil_of_length_eq_zero h0)
  · obtain ⟨g, cap, e, _, hg, _, hc, _⟩ := h.row h0
    simp only [Value.slice.injEq] at e
    obtain ⟨rfl, _, _⟩ := e
    exact .inr ⟨g, 0, rfl, hg, fun j hj => by rw [Nat.zero_add]; exact hc j hj⟩
theorem OwnB.nil (E : TypeId) (w : World) (B : Nat) : OwnB E w B (.slice none 0 0) [] := World.ownsRow_nil _ _ _ _
theorem ownB_empty (E : TypeId) (w : World) {B : Nat} (hB : B ≤ w.heap.size) : OwnB E (w.alloc (.cells #[] E)) B (.slice (some ⟨w.heap.size, 0, none⟩) 0 0) [] :=
  ⟨by simp, .inr ⟨w.heap.size, 0, #[], rfl, hB, heap_alloc_new w _, by simp, by simp, by simp, by simp⟩⟩
theorem OwnB.alloc {E : TypeId} {w : World} {B : Nat} {v : Value} {bs : List Bool} (h : OwnB E w B v bs) (o : Obj) : OwnB E (w.alloc o) B v bs := World.ownsRow.alloc h o
theorem OwnB.drewN {E : TypeId} {w : World} {B : Nat} {v : Value} {bs : List Bool} (h : OwnB E w B v bs) (n : Nat) : OwnB E (w.drewN n) B v bs := h
theorem OwnB.set_other {E : TypeId} {w : World} {B : Nat} {v : Value} {bs : List Bool} (h : OwnB E w B v bs) {B' : Nat} (hne : v.ownBlock ≠ some B') (j : Nat) (u : Value) : OwnB E (w.setCell ⟨B', j, none⟩ u) B v bs := h.kept ⟨rfl, rfl, rfl, by simp [World.setCell], fun k _ hk => Below.heap_setCell _ _ _ k (fun e => hk (by rw [e]))⟩ (.inr hne)
/-- T is the type of slices of truth values, E the type of truth values. -/
structure BoolT (P : Program) (T E : TypeId) : Prop where
  sl : P.underlying T = some (.slice E)
  info : (P.info? E).map (fun i => (i.zero, i.size, i.bytes)) = some (some (.bool false), 1, 1)
theorem cells_oneB (w : World) (E : TypeId) (z : Bool) : ∀ (j : Nat) u, [Value.bool z][j]? = some u → (w.alloc (.cells #[.bool z] E)).cell? ((⟨w.heap.size, 0, none⟩ : Addr).add j) = some u := by
  intro j u hu
  match j, hu with
  | 0, hu => rw [addr_add, World.cell?_alloc_at _ _ _ _ rfl]; simpa using hu
  | j + 1, hu => simp at hu
/-- 'append(s, z)', and where the new slice lies. -/
theorem wpList_push_b {P : Program} {T E : TypeId} (hT : BoolT P T E) {w : World} {ops : Array Oper} {rest : List Oper} {o : Oper} {a : Act} {Q : Exit → Act → World → Prop} (hgd : Region.wanted o (yielded ops a.tmps) = true) (s x : Operand)
    (ho : o.op = .call { callee := .builtin .append, args := #[s, x], argTypes := #[T, T] }) (B : Nat) (v : Value) (bs : List Bool) (z : Bool) (hs : a.eval s = v) (hown : OwnB E w B v bs)
    (hlen : bs.length ≤ 1048576) (hx : a.eval x = .slice (some ⟨w.heap.size, 0, none⟩) 1 1) (hB : B ≤ w.heap.size)
    (h : ∀ v' w', OwnB E w' B v' (bs ++ [z]) → w.grownBy w' v.ownBlock → (v'.ownBlock = v.ownBlock ∨ ∃ g, v'.ownBlock = some g ∧ w.heap.size ≤ g) → wpList P ops Q rest (a.put o.dst v') w') : wpList P ops Q (o :: rest) a (w.alloc (.cells #[.bool z] E)) := by
  refine wpList_want hgd fun K hK => ?_
  obtain ⟨i, hi, hz, hsz, hby⟩ := info_parts hT.info
  obtain ⟨v', w', hr, h1, h2, _, h4⟩ := run_append_own_at (P := P) (w.alloc (.cells #[.bool z] E)) B T o.type E i (.bool false) 1 1 hT.sl hi hz hsz hby rfl (by decide) v bs.length _ (World.ownsRow.alloc hown _) ⟨w.heap.size, 0, none⟩ 1 1 [.bool z] rfl (cells_oneB _ _ _) (by intro u hu; simp at hu; subst hu; rfl) (by unfold maxLen; omega) (by omega) (by simp; omega)
  unfold Oper.wp execOp
  simp only [ho, resolve, invoke, builtin, Sem.run_bind, Sem.run_pure, Result.andThen_ok, List.map_toArray, List.map_cons, List.map_nil, hs, hx, hr]
  refine hK _ _ (h v' w' ?_ (grownBy_trans (World.grownBy_alloc _ _ _) h2) ?_)
  · unfold OwnB; simpa using h1
  · rcases h4 with h4 | h4
    · exact .inl h4
    · exact .inr ⟨_, h4, by simp⟩

end Go.Proofs.Ytnjjbplocokdeab

/- The reference's execution of transactions one after the other, by a walk of its text; conditions: a valid ledger with space for the fees, at most 16 transactions. -/
namespace Go.Proofs.Ytnjjbplocokdeab
open Go.RowKit

theorem TBo : BoolT Try.prog 45 4 := ⟨Try.underlying45, by kernel_rfl⟩
theorem rn_take {xs : List Tx} {k : Nat} (hk : k < xs.length) (l : List Int) (n : Int) : rnL l (xs.take (k + 1)) = apL (rnL l (xs.take k)) xs[k] ∧ rnF l n (xs.take (k + 1)) = apF (rnL l (xs.take k)) (rnF l n (xs.take k)) xs[k] ∧ rnO l (xs.take (k + 1)) = rnO l (xs.take k) ++ [okT (rnL l (xs.take k)) xs[k]] := by
  rw [List.take_succ_eq_append_getElem hk]; exact rn_snoc _ _ _ _
theorem rn_ok {xs : List Tx} {l : List Int} {n : Int} (h : ldB l n = true) (hn : n + 9 * xs.length ≤ 5994) (k : Nat) (hk : k ≤ xs.length) : ldB (rnL l (xs.take k)) (rnF l n (xs.take k)) = true := rn_valid _ _ _ h (by rw [List.length_take]; omega)
/-- What a run answers. -/
def RnP (E Eb : TypeId) (w : World) (l : List Int) (n : Int) (xs : List Tx) (e : Ending) (w' : World) : Prop := ∃ v u, e = .returned (.tuple #[.agg #[v, .int .i64 (rnF l n xs)], u]) ∧ Own E w' w.heap.size v (rnL l xs) ∧ OwnB Eb w' w.heap.size u (rnO l xs) ∧ Below w.heap.size w w'
/-- While transactions are executed: the answer's ledger, the variable out (block O) with its list L and fees m, the outcomes bs. -/
structure Rnw (TL E Eb : TypeId) (w : World) (O : Nat) (ua : Option Addr) (uc : Nat) (L : List Int) (m : Int) (ub : Value) (bs : List Bool) (W : World) : Prop where
  s2 : Str W (w.heap.size + 1) TL #[.slice none 0 0, .int .i64 0]
  s3 : Str W O TL #[.slice ua L.length uc, .int .i64 m]
  own : Own E W (w.heap.size + 2) (.slice ua L.length uc) L
  oks : OwnB Eb W (w.heap.size + 2) ub bs
  nO : (Value.slice ua L.length uc).ownBlock ≠ some O
  nB : ub.ownBlock ≠ some O
  dO : w.heap.size + 2 ≤ O
  bel : Below w.heap.size w W
section
variable {TL E Eb : TypeId} {w : World} {O : Nat} {ua : Option Addr} {uc : Nat} {L : List Int} {m : Int} {ub : Value} {bs : List Bool} {W W' : World}
theorem Rnw.below (h : Rnw TL E Eb w O ua uc L m ub bs W) (hb : Below W.heap.size W W') : Rnw TL E Eb w O ua uc L m ub bs W' :=
  ⟨(hb.block _ h.s2.lt).trans h.s2, (hb.block _ h.s3.lt).trans h.s3, h.own.below hb, h.oks.below hb, h.nO, h.nB, h.dO, below_step h.bel h.bel.size hb⟩
theorem Rnw.drew (h : Rnw TL E Eb w O ua uc L m ub bs W) : Rnw TL E Eb w O ua uc L m ub bs W.drew := h.below ((Below.refl _ _).drew)
theorem Rnw.other (h : Rnw TL E Eb w O ua uc L m ub bs W) {B : Nat} (hB : w.heap.size + 2 ≤ B) (h1 : B ≠ O) (h2 : (Value.slice ua L.length uc).ownBlock ≠ some B) (h3 : ub.ownBlock ≠ some B) (j : Nat) (v : Value) : Rnw TL E Eb w O ua uc L m ub bs (W.setCell ⟨B, j, none⟩ v) :=
  ⟨h.s2.other (by omega) _ _, h.s3.other (Ne.symm h1) _ _, h.own.set_other h2 _ _, h.oks.set_other h3 _ _, h.nO, h.nB, h.dO, h.bel.setCell (p := ⟨B, j, none⟩) (by simp only; omega) _⟩
/-- 'out = x'. -/
theorem Rnw.move (h : Rnw TL E Eb w O ua uc L m ub bs W) {va : Option Addr} {vc : Nat} {L2 : List Int} {m2 : Int} (ho : Own E W (w.heap.size + 2) (.slice va L2.length vc) L2) (hn : (Value.slice va L2.length vc).ownBlock ≠ some O) :
    Rnw TL E Eb w O va vc L2 m2 ub bs ((W.setCell ⟨O, 0, none⟩ (.slice va L2.length vc)).setCell ⟨O, 1, none⟩ (.int .i64 m2)) := by
  have hO := h.dO
  exact ⟨(h.s2.other (by omega) _ _).other (by omega) _ _, (h.s3.set 0 _).set 1 _, (ho.set_other hn _ _).set_other hn _ _, (h.oks.set_other h.nB _ _).set_other h.nB _ _, hn, h.nB, hO, (h.bel.setCell (p := ⟨O, 0, none⟩) (by simp only; omega) _).setCell (p := ⟨O, 1, none⟩) (by simp only; omega) _⟩
/-- An outcome is appended. -/
theorem Rnw.push (h : Rnw TL E Eb w O ua uc L m ub bs W) (hE : Eb ≠ E) {u2 : Value} {bs2 : List Bool} (ho : OwnB Eb W' (w.heap.size + 2) u2 bs2) (hg : W.grownBy W' ub.ownBlock) (hat : u2.ownBlock = ub.ownBlock ∨ ∃ g, u2.ownBlock = some g ∧ W.heap.size ≤ g) : Rnw TL E Eb w O ua uc L m u2 bs2 W' := by
  have hO := h.dO; have hl := h.s3.lt
  refine ⟨h.s2.kept hg (fun e => by have := (h.oks.lt _ e.symm).1; omega), h.s3.kept hg (fun e => h.nB e.symm), h.own.kept hg ?_, ho, h.nO, ?_, hO, h.bel.grown hg h.bel.size (fun g e => by have := (h.oks.lt g e).1; omega)⟩
  · rcases h.oks.apart h.own hE with e | e
    · rw [e]; cases hv : (Value.slice ua L.length uc).ownBlock <;> simp
    · exact .inr (Ne.symm e)
  · rcases hat with e | ⟨g, e, h2⟩
    · rw [e]; exact h.nB
    · rw [e]; simp; omega
end

end Go.Proofs.Ytnjjbplocokdeab
