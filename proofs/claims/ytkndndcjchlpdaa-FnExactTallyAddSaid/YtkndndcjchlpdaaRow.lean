/- Rows of fields: the numbers that mark them, their sizes, their copies; general steps, nothing here speaks of the program. -/
import Derived.Test.YtkndndcjchlpdaaOwR
import Derived.Test.YtkndndcjchlpdaaOwS
import Derived.Test.YtkndndcjchlpdaaL2
import Derived.Test.YtkndndcjchlpdaaApp
namespace Go.Proofs.Ytkndndcjchlpdaa
open Go.RowKit

/-! marks -/
/-- A field's mark, and the next number. -/
def Fd.mk' (k : Nat) : Fd → Fd
  | .i _ => .i k
  | .b _ => .b (k % 3 == 0)
  | .s t => .s t
  | .l xs => .l (markL k xs.length)
def Fd.nx (k : Nat) : Fd → Nat
  | .i _ => k + 1
  | .b _ => k + 1
  | .s _ => k
  | .l xs => k + xs.length
def mkE : Nat → List Fd → List Fd
  | _, [] => []
  | k, f :: e => f.mk' k :: mkE (f.nx k) e
def nxE : Nat → List Fd → Nat
  | k, [] => k
  | k, f :: e => nxE (f.nx k) e
theorem mkE_len : ∀ (k : Nat) (e : List Fd), (mkE k e).length = e.length
  | _, [] => rfl
  | k, f :: e => by simp [mkE, mkE_len (f.nx k) e]
/-- How many numbers a field takes. -/
def Fd.sz : Fd → Nat
  | .i _ => 1
  | .b _ => 1
  | .s _ => 0
  | .l xs => xs.length
theorem nx_sz (k : Nat) (f : Fd) : f.nx k = k + f.sz := by cases f <;> rfl
def szE (e : List Fd) : Nat := (e.map Fd.sz).sum
theorem nxE_sz : ∀ (e : List Fd) (k : Nat), nxE k e = k + szE e
  | [], k => by simp [nxE, szE]
  | f :: e, k => by rw [nxE, nxE_sz e, nx_sz]; simp [szE]; omega
/-- The number with which row i begins. -/
def kTo (es : List (List Fd)) (k i : Nat) : Nat := k + ((es.take i).map szE).sum
theorem kTo_zero (es : List (List Fd)) (k : Nat) : kTo es k 0 = k := by simp [kTo]
theorem kTo_succ {es : List (List Fd)} {k i : Nat} (h : i < es.length) : kTo es k (i + 1) = nxE (kTo es k i) es[i] := by
  unfold kTo
  rw [nxE_sz, List.take_succ_eq_append_getElem h, List.map_append, List.sum_append]
  simp; omega
theorem kTo_le {es : List (List Fd)} {k i n : Nat} (h : i ≤ n) : kTo es k i ≤ kTo es k n := by
  induction n with
  | zero => have : i = 0 := by omega
            subst this; exact Nat.le_refl _
  | succ n ih =>
    by_cases e : i = n + 1
    · subst e; exact Nat.le_refl _
    · refine Nat.le_trans (ih (by omega)) ?_
      by_cases hn : n < es.length
      · rw [kTo_succ hn, nxE_sz]; omega
      · unfold kTo
        rw [List.take_of_length_le (by omega), List.take_of_length_le (by omega)]
        exact Nat.le_refl _
/-- The rows when the first i are marked. -/
def mkTo (es : List (List Fd)) (k i : Nat) : List (List Fd) := (List.range es.length).map fun j => if j < i then mkE (kTo es k j) (es.getD j []) else es.getD j []
theorem mkTo_len (es : List (List Fd)) (k i : Nat) : (mkTo es k i).length = es.length := by simp [mkTo]
theorem getE {es : List (List Fd)} {j : Nat} (h : j < es.length) : es.getD j [] = es[j] := by simp [List.getD, List.getElem?_eq_getElem h]
theorem mkTo_get {es : List (List Fd)} {k i j : Nat} (h : j < (mkTo es k i).length) : (mkTo es k i)[j] = if j < i then mkE (kTo es k j) (es.getD j []) else es.getD j [] := by simp [mkTo]
theorem mkTo_zero (es : List (List Fd)) (k : Nat) : mkTo es k 0 = es := by
  apply List.ext_getElem
  · simp [mkTo]
  · intro j h1 h2
    rw [mkTo_get, if_neg (by omega), getE h2]
theorem mkTo_at {es : List (List Fd)} {k i : Nat} (h : i < es.length) (h' : i < (mkTo es k i).length) : (mkTo es k i)[i] = es[i] := by rw [mkTo_get, if_neg (by omega), getE h]
theorem mkTo_all {es : List (List Fd)} {k i : Nat} (h : i < es.length) (h' : i < (mkTo es k es.length).length) : (mkTo es k es.length)[i] = mkE (kTo es k i) es[i] := by rw [mkTo_get, if_pos h, getE h]
theorem mkTo_set {es : List (List Fd)} {k i : Nat} (h : i < es.length) : (mkTo es k i).set i (mkE (kTo es k i) es[i]) = mkTo es k (i + 1) := by
  apply List.ext_getElem
  · simp [mkTo]
  · intro j h1 h2
    by_cases e : j = i
    · subst e; simp only [List.getElem_set_self]; rw [mkTo_get, if_pos (by omega), getE h]
    · rw [List.getElem_set_ne (fun h => e h.symm), mkTo_get, mkTo_get]
      by_cases e2 : j < i
      · rw [if_pos e2, if_pos (by omega)]
      · rw [if_neg e2, if_neg (by omega)]

/-! sizes -/
def Fd.ln : Fd → Nat
  | .l xs => xs.length
  | _ => 0
def lnE (e : List Fd) : Nat := (e.map Fd.ln).sum
/-- How many numbers lie in the lists of the first k rows. -/
def lnTo (es : List (List Fd)) (k : Nat) : Nat := ((es.take k).map lnE).sum
theorem lnTo_zero (es : List (List Fd)) : lnTo es 0 = 0 := by simp [lnTo]
theorem lnTo_succ {es : List (List Fd)} {k : Nat} (h : k < es.length) : lnTo es (k + 1) = lnTo es k + lnE es[k] := by
  unfold lnTo
  rw [List.take_succ_eq_append_getElem h, List.map_append, List.sum_append]
  simp
theorem lnTo_le {es : List (List Fd)} {k n : Nat} (h : k ≤ n) : lnTo es k ≤ lnTo es n := by
  induction n with
  | zero => have : k = 0 := by omega
            subst this; exact Nat.le_refl _
  | succ n ih =>
    by_cases e : k = n + 1
    · subst e; exact Nat.le_refl _
    · refine Nat.le_trans (ih (by omega)) ?_
      by_cases hn : n < es.length
      · rw [lnTo_succ hn]; omega
      · unfold lnTo
        rw [List.take_of_length_le (by omega), List.take_of_length_le (by omega)]
        exact Nat.le_refl _
theorem lnTo_none {es : List (List Fd)} (h : ∀ e ∈ es, lnE e = 0) (k : Nat) : lnTo es k = 0 := by
  unfold lnTo
  rw [List.sum_eq_zero_iff_forall_eq_nat]
  intro n hn
  obtain ⟨e, he, rfl⟩ := List.mem_map.1 hn
  exact h e (List.mem_of_mem_take he)
theorem lnTo_in {es : List (List Fd)} {m : Nat} (h : lnTo es es.length ≤ m) : ∀ e ∈ es, lnE e ≤ m := by
  intro e he
  obtain ⟨k, hk, rfl⟩ := List.mem_iff_getElem.1 he
  have := lnTo_le (es := es) (show k + 1 ≤ es.length from hk)
  rw [lnTo_succ hk] at this
  omega
theorem ln_in {e : List Fd} {xs : List Int} {m : Nat} (h : lnE e ≤ m) (hx : Fd.l xs ∈ e) : xs.length ≤ m := by
  unfold lnE at h
  induction e with
  | nil => cases hx
  | cons f e ih =>
    rw [List.map_cons, List.sum_cons] at h
    rcases List.mem_cons.1 hx with rfl | hx
    · have : (Fd.l xs).ln = xs.length := rfl
      omega
    · exact ih (by omega) hx
theorem sz_ln (f : Fd) : f.sz ≤ 1 + f.ln := by cases f <;> simp [Fd.sz, Fd.ln]
theorem szE_ln : ∀ e : List Fd, szE e ≤ e.length + lnE e
  | [] => by simp [szE, lnE]
  | f :: e => by have := szE_ln e; have := sz_ln f; simp [szE, lnE] at *; omega
/-- The marks of rows of m fields are few. -/
theorem kTo_bd {es : List (List Fd)} {m : Nat} (hm : ∀ e ∈ es, e.length = m) (k : Nat) : ∀ i, i ≤ es.length → kTo es k i ≤ k + (i * m + lnTo es i)
  | 0, _ => by simp [kTo, lnTo]
  | i + 1, h => by
    have h1 := kTo_bd hm k i (by omega)
    have h2 := szE_ln es[i]
    rw [hm _ (List.getElem_mem _)] at h2
    rw [kTo_succ (by omega), nxE_sz, lnTo_succ (by omega), Nat.add_mul]
    omega

/-! copies -/
/-- Of these rows the first k have been copied, the others are the row z. -/
def cpTo (es : List (List Fd)) (z : List Fd) (k : Nat) : List (List Fd) := (List.range es.length).map fun i => if i < k then es.getD i [] else z
theorem cpTo_len (es : List (List Fd)) (z : List Fd) (k : Nat) : (cpTo es z k).length = es.length := by simp [cpTo]
theorem cpTo_get {es : List (List Fd)} {z : List Fd} {k i : Nat} (h : i < (cpTo es z k).length) : (cpTo es z k)[i] = if i < k then es.getD i [] else z := by simp [cpTo]
theorem cpTo_all (es : List (List Fd)) (z : List Fd) : cpTo es z es.length = es := by
  refine List.ext_getElem (by simp [cpTo]) fun i h1 h2 => ?_
  rw [cpTo_get, if_pos h2, getE h2]
theorem cpTo_step {es : List (List Fd)} {z : List Fd} {k : Nat} (hk : k < es.length) : (cpTo es z k).set k es[k] = cpTo es z (k + 1) := by
  refine List.ext_getElem (by simp [cpTo]) fun i h1 h2 => ?_
  by_cases hik : k = i
  · subst hik
    rw [List.getElem_set_self, cpTo_get, if_pos (by omega), getE hk]
  · rw [List.getElem_set_ne hik, cpTo_get, cpTo_get]
    by_cases h : i < k
    · rw [if_pos h, if_pos (by omega)]
    · rw [if_neg h, if_neg (by omega)]

/-! fields -/
/-- A truth value is stored. -/
theorem OwnR.setB {E Ei : TypeId} {sz : Nat} {w : World} {B hi g n cap : Nat} {es : List (List Fd)} (h : OwnR E Ei sz w B hi (.slice (some ⟨g, 0, none⟩) n cap) es) (hn : n = es.length) {k j : Nat} (hk : k < es.length) (hj : j < sz) (x : Bool) :
    OwnR E Ei sz (w.setCell ⟨g, k * sz + j, none⟩ (.bool x)) B hi (.slice (some ⟨g, 0, none⟩) n cap) (es.set k ((es[k]).set j (.b x))) :=
  h.setF hn hk hj (f := .b x) rfl (Nat.le_refl _) (fun b e => by cases e)
/-- The block of a field's list lies among the rows' own. -/
theorem OwnR.range {E Ei : TypeId} {sz : Nat} {w : World} {B hi g n cap : Nat} {es : List (List Fd)} (h : OwnR E Ei sz w B hi (.slice (some ⟨g, 0, none⟩) n cap) es) {k j : Nat} (hk : k < es.length) (hj : j < (es[k]).length) {c : Value} (hc : w.cell? ⟨g, k * sz + j, none⟩ = some c) :
    ∀ b, c.ownBlock = some b → B ≤ b ∧ b < hi := by
  obtain ⟨cs, o1, o2, _, _, o5, _⟩ := h.row
  obtain ⟨c', hc', _⟩ := o2 k j hk hj
  have hcc := World.ownsRow.cells o1 (g := g) rfl _ _ hc'
  rw [addr_add, hc] at hcc
  obtain rfl := Option.some.inj hcc
  exact fun b hb => o5 _ c b hc' hb
/-- A field's value by its kind. -/
theorem OwnR.fieldI {E Ei : TypeId} {sz : Nat} {w : World} {B hi g n cap : Nat} {es : List (List Fd)} (h : OwnR E Ei sz w B hi (.slice (some ⟨g, 0, none⟩) n cap) es) {k j : Nat} (hk : k < es.length) (hj : j < (es[k]).length) {x : Int} (hx : (es[k])[j] = .i x) :
    w.cell? ⟨g, k * sz + j, none⟩ = some (.int .i64 x) ∧ w.frozen? ⟨g, k * sz + j, none⟩ = false := by
  obtain ⟨c, h1, h2, h3, _⟩ := h.cell hk hj
  rw [hx] at h2
  obtain rfl : c = .int .i64 x := h2
  exact ⟨h1, h3⟩
theorem OwnR.fieldB {E Ei : TypeId} {sz : Nat} {w : World} {B hi g n cap : Nat} {es : List (List Fd)} (h : OwnR E Ei sz w B hi (.slice (some ⟨g, 0, none⟩) n cap) es) {k j : Nat} (hk : k < es.length) (hj : j < (es[k]).length) {x : Bool} (hx : (es[k])[j] = .b x) :
    w.cell? ⟨g, k * sz + j, none⟩ = some (.bool x) ∧ w.frozen? ⟨g, k * sz + j, none⟩ = false := by
  obtain ⟨c, h1, h2, h3, _⟩ := h.cell hk hj
  rw [hx] at h2
  obtain rfl : c = .bool x := h2
  exact ⟨h1, h3⟩
theorem OwnR.fieldL {E Ei : TypeId} {sz : Nat} {w : World} {B hi g n cap : Nat} {es : List (List Fd)} (h : OwnR E Ei sz w B hi (.slice (some ⟨g, 0, none⟩) n cap) es) {k j : Nat} (hk : k < es.length) (hj : j < (es[k]).length) {xs : List Int} (hx : (es[k])[j] = .l xs) :
    ∃ a c, w.cell? ⟨g, k * sz + j, none⟩ = some (.slice a xs.length c) ∧ Own Ei w B (.slice a xs.length c) xs ∧ w.frozen? ⟨g, k * sz + j, none⟩ = false ∧ (Value.slice a xs.length c).ownBlock ≠ some g ∧ ∀ b, (Value.slice a xs.length c).ownBlock = some b → B ≤ b ∧ b < hi := by
  obtain ⟨c, h1, h2, h3, h4⟩ := h.cell hk hj
  rw [hx] at h2
  have h2' : Own Ei w B c xs := h2
  obtain ⟨a, cap', rfl, _, _⟩ := h2'.ints
  exact ⟨a, cap', h1, h2', h3, h4, h.range hk hj h1⟩

/-! rows that are read -/
def rowsD (es : List (List Fd)) : Dt := .l (es.map fun e => e.map Fd.dt)
/-- A list of rows in memory: each field's cell and how it reads. -/
theorem rows_at {w : World} {es : List (List Fd)} {a : Option Addr} {n cap : Nat} {fp : List Nat} (h : Rd w (rowsD es) (.slice a n cap) fp) (hne : 0 < es.length) {m : Nat} (hm : ∀ e ∈ es, e.length = m) :
    ∃ g off, a = some ⟨g, off, none⟩ ∧ g < w.heap.size ∧ ∀ k (hk : k < es.length) j (hj : j < (es[k]).length), ∃ c fp', w.cell? ⟨g, off + k * m + j, none⟩ = some c ∧ Rd w (((es[k])[j]).dt) c fp' := by
  obtain ⟨g, off, rfl, hg, _, _, _, hc⟩ := Rd.at h (by simpa using hne) (sz := m) (by intro e he; obtain ⟨e', he', rfl⟩ := List.mem_map.1 he; rw [List.length_map]; exact hm e' he')
  refine ⟨g, off, rfl, hg, fun k hk j hj => ?_⟩
  obtain ⟨v, fp', h1, h2, _⟩ := hc k j (by simpa using hk) (by simpa using hj)
  refine ⟨v, fp', by rw [Nat.add_assoc]; exact h1, by simpa using h2⟩
theorem rd_i {w : World} {c : Value} {fp : List Nat} {f : Fd} {x : Int} (h : Rd w f.dt c fp) (hf : f = .i x) : c = .int .i64 x := by subst hf; exact (Rd.int h).1
theorem rd_b {w : World} {c : Value} {fp : List Nat} {f : Fd} {x : Bool} (h : Rd w f.dt c fp) (hf : f = .b x) : c = .bool x := by subst hf; exact (Rd.bool h).1
theorem rd_l {w : World} {c : Value} {fp : List Nat} {f : Fd} {xs : List Int} (h : Rd w f.dt c fp) (hf : f = .l xs) : ∃ a cap, c = .slice a xs.length cap ∧ IntsAt w a xs := by
  subst hf
  obtain ⟨a, cap, rfl, _, hi⟩ := Rd.ints (show Rd w (intsD xs) c fp from h)
  exact ⟨a, cap, rfl, hi⟩
theorem rd_ls {w : World} {c : Value} {fp : List Nat} {f : Fd} {xs : List Int} (h : Rd w f.dt c fp) (hf : f = .l xs) : ∃ a cap, c = .slice a xs.length cap ∧ IntsAt w a xs ∧ SrcAt w a cap xs := by
  subst hf
  have h' : Rd w (intsD xs) c fp := h
  obtain ⟨a, cap, rfl, _, hi⟩ := Rd.ints h'
  refine ⟨a, cap, rfl, hi, ?_⟩
  rcases hi with rfl | ⟨b, off, rfl, _, hc⟩
  · cases a with
    | none => exact .inl ⟨rfl, rfl, Rd.nilcap h'⟩
    | some ad => exact .inr ⟨ad, rfl, fun j hj => by simp at hj⟩
  · exact .inr ⟨_, rfl, fun j hj => by rw [addr_add']; exact hc j hj⟩
theorem OwnR.reads {E Ei : TypeId} {sz : Nat} {w : World} {B hi : Nat} {v : Value} {es : List (List Fd)} (h : OwnR E Ei sz w B hi v es) : ∃ fp, Rd w (rowsD es) v fp := by
  obtain ⟨fp, hr, _⟩ := h.bld.rd
  exact ⟨fp, hr⟩

/-! one row among rows -/
theorem set_self' {es : List (List Fd)} {j : Nat} {e : List Fd} (h : j < es.length) (he : es[j] = e) : es.set j e = es := by subst he; exact List.set_getElem_self h
section
variable {E Ei : TypeId} {sz : Nat} {w : World} {B hi g n cap : Nat} {es : List (List Fd)} {j : Nat} {row : List Fd}
theorem OwnR.rowI (h : OwnR E Ei sz w B hi (.slice (some ⟨g, 0, none⟩) n cap) (es.set j row)) (hn : n = es.length) (hj : j < es.length) (q : Nat) (hq : q < sz) (z : Int) :
    OwnR E Ei sz (w.setCell ⟨g, j * sz + q, none⟩ (.int .i64 z)) B hi (.slice (some ⟨g, 0, none⟩) n cap) (es.set j (row.set q (.i z))) := by
  have := h.setI (by rw [List.length_set]; exact hn) (k := j) (by rw [List.length_set]; exact hj) hq z
  rwa [List.getElem_set_self, List.set_set] at this
theorem OwnR.rowB (h : OwnR E Ei sz w B hi (.slice (some ⟨g, 0, none⟩) n cap) (es.set j row)) (hn : n = es.length) (hj : j < es.length) (q : Nat) (hq : q < sz) (z : Bool) :
    OwnR E Ei sz (w.setCell ⟨g, j * sz + q, none⟩ (.bool z)) B hi (.slice (some ⟨g, 0, none⟩) n cap) (es.set j (row.set q (.b z))) := by
  have := h.setB (by rw [List.length_set]; exact hn) (k := j) (by rw [List.length_set]; exact hj) hq z
  rwa [List.getElem_set_self, List.set_set] at this
theorem OwnR.rowF (h : OwnR E Ei sz w B hi (.slice (some ⟨g, 0, none⟩) n cap) (es.set j row)) (hn : n = es.length) (hj : j < es.length) (q : Nat) (hq : q < sz) {u : Value} {f : Fd} {hi' : Nat} (hf : FdOk Ei w B u f) (hhi : hi ≤ hi') (hu : ∀ b, u.ownBlock = some b → hi ≤ b ∧ b < hi') :
    OwnR E Ei sz (w.setCell ⟨g, j * sz + q, none⟩ u) B hi' (.slice (some ⟨g, 0, none⟩) n cap) (es.set j (row.set q f)) := by
  have := h.setF (by rw [List.length_set]; exact hn) (k := j) (by rw [List.length_set]; exact hj) hq hf hhi hu
  rwa [List.getElem_set_self, List.set_set] at this
theorem OwnR.rowL {w' : World} (h : OwnR E Ei sz w B hi (.slice (some ⟨g, 0, none⟩) n cap) (es.set j row)) (hj : j < es.length) (q : Nat) (hq : q < sz) {c : Value} (hc : w.cell? ⟨g, j * sz + q, none⟩ = some c) {ys : List Int} (hown : Own Ei w' B c ys) (hg : w.grownBy w' c.ownBlock) :
    OwnR E Ei sz w' B hi (.slice (some ⟨g, 0, none⟩) n cap) (es.set j (row.set q (.l ys))) := by
  have := h.setL (k := j) (by rw [List.length_set]; exact hj) hq hc hown (fun b hb hne => hg.block b hb fun e => hne e.symm)
  rwa [List.getElem_set_self, List.set_set] at this
theorem OwnR.rcI (h : OwnR E Ei sz w B hi (.slice (some ⟨g, 0, none⟩) n cap) (es.set j row)) (hj : j < es.length) (q : Nat) {x : Int} (hx : row[q]? = some (.i x)) :
    w.cell? ⟨g, j * sz + q, none⟩ = some (.int .i64 x) ∧ w.frozen? ⟨g, j * sz + q, none⟩ = false := by
  obtain ⟨hq, hx⟩ := List.getElem?_eq_some_iff.1 hx
  exact h.fieldI (k := j) (j := q) (by rw [List.length_set]; exact hj) (by rw [List.getElem_set_self]; exact hq) (by simp only [List.getElem_set_self]; exact hx)
theorem OwnR.rcB (h : OwnR E Ei sz w B hi (.slice (some ⟨g, 0, none⟩) n cap) (es.set j row)) (hj : j < es.length) (q : Nat) {x : Bool} (hx : row[q]? = some (.b x)) :
    w.cell? ⟨g, j * sz + q, none⟩ = some (.bool x) ∧ w.frozen? ⟨g, j * sz + q, none⟩ = false := by
  obtain ⟨hq, hx⟩ := List.getElem?_eq_some_iff.1 hx
  exact h.fieldB (k := j) (j := q) (by rw [List.length_set]; exact hj) (by rw [List.getElem_set_self]; exact hq) (by simp only [List.getElem_set_self]; exact hx)
theorem OwnR.rcL (h : OwnR E Ei sz w B hi (.slice (some ⟨g, 0, none⟩) n cap) (es.set j row)) (hj : j < es.length) (q : Nat) {xs : List Int} (hx : row[q]? = some (.l xs)) :
    ∃ a c, w.cell? ⟨g, j * sz + q, none⟩ = some (.slice a xs.length c) ∧ Own Ei w B (.slice a xs.length c) xs ∧ w.frozen? ⟨g, j * sz + q, none⟩ = false ∧ (Value.slice a xs.length c).ownBlock ≠ some g ∧ ∀ b, (Value.slice a xs.length c).ownBlock = some b → B ≤ b ∧ b < hi := by
  obtain ⟨hq, hx⟩ := List.getElem?_eq_some_iff.1 hx
  exact h.fieldL (k := j) (j := q) (by rw [List.length_set]; exact hj) (by rw [List.getElem_set_self]; exact hq) (by simp only [List.getElem_set_self]; exact hx)
end
/-- New rows are rows of zeros. -/
theorem made_at' (z : Array Value) {n p : Nat} (h : p < n) : (madeCells z n).toList[p]? = some z[p % z.size]! := by
  unfold madeCells; rw [Array.getElem?_toList, Array.getElem?_map, Array.getElem?_range]; simp [h]
theorem ownR_new {E Ei : TypeId} {m : Nat} (w : World) (es : List (List Fd)) (zv : List Value) (z : List Fd) (hm : es.length ≤ maxLen) (hl : zv.length = m) (hz : z.length = m) (hpos : 0 < m) (hn : ∀ c ∈ zv, c.ownBlock = none) (hok : ∀ W B j (h : j < zv.length) (h' : j < z.length), FdOk Ei W B zv[j] z[j]) :
    OwnR E Ei m (w.alloc (.cells (madeCells zv.toArray (es.length * m)) E)) w.heap.size (w.heap.size + 1) (.slice (some ⟨w.heap.size, 0, none⟩) es.length es.length) (cpTo es z 0) := by
  have hc : ∀ (p : Nat) (c : Value), (madeCells zv.toArray (es.length * m)).toList[p]? = some c → c ∈ zv := by
    intro p c h
    have hp : p < es.length * m := by
      obtain ⟨h1, _⟩ := List.getElem?_eq_some_iff.1 h
      simpa [madeCells] using h1
    rw [made_at' _ hp] at h
    have hq : p % zv.toArray.size < zv.length := by simp; exact Nat.mod_lt _ (by omega)
    have : c = zv[p % zv.toArray.size] := by
      have := Option.some.inj h
      rw [← this]
      have hq' : p % zv.length < zv.length := by simpa using hq
      simp [List.getElem?_eq_getElem hq']
    rw [this]; exact List.getElem_mem hq
  have hno : ∀ (p : Nat) (c : Value), (madeCells zv.toArray (es.length * m)).toList[p]? = some c → c.ownBlock = none := fun p c h => hn c (hc p c h)
  refine ⟨fun e he => ?_, (madeCells zv.toArray (es.length * m)).toList, ⟨by rw [cpTo_len]; simp [madeCells], .inr ⟨w.heap.size, es.length, _, by rw [cpTo_len], Nat.le_refl _, heap_alloc_new w _, by rw [cpTo_len]; exact Nat.le_refl _, hm, by simp [madeCells], by rw [cpTo_len]; exact List.take_of_length_le (by simp [madeCells])⟩⟩, fun k j hk hj => ?_, ?_, ?_, ?_, ?_⟩
  · unfold cpTo at he
    obtain ⟨i, _, rfl⟩ := List.mem_map.1 he
    rw [if_neg (by omega)]; exact hz
  · have hkL : k < es.length := by rw [cpTo_len] at hk; exact hk
    have hg : (cpTo es z 0)[k] = z := by rw [cpTo_get, if_neg (by omega)]
    simp only [hg] at hj ⊢
    have hlt : k * m + j < es.length * m := by
      have := Nat.mul_le_mul_right m (show k + 1 ≤ es.length by omega)
      rw [Nat.add_mul] at this; omega
    refine ⟨zv[j], ?_, hok _ _ j (by omega) hj⟩
    rw [made_at' _ hlt]
    have : (k * m + j) % zv.toArray.size = j := by
      rw [List.size_toArray, hl, Nat.add_comm, Nat.add_mul_mod_self_right, Nat.mod_eq_of_lt (by omega)]
    rw [this]
    simp [show j < zv.length by omega]
  · intro p q c d h1 h2 _ g e
    rw [hno p c h1] at e; cases e
  · intro p c h g e
    rw [hno p c h] at e; cases e
  · intro p c g h e
    rw [hno p c h] at e; cases e
  · intro g e
    cases e; exact Nat.lt_succ_self _

end Go.Proofs.Ytkndndcjchlpdaa
