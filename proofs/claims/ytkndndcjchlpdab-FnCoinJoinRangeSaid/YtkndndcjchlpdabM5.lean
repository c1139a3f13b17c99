/- Shards joined: what elimination finds is the only data that has the shards; plain arithmetic, no walk and no condition of our own. -/
import Derived.Test.YtkndndcjchlpdabM4
namespace Go.Proofs.Ytkndndcjchlpdab

theorem val_sm (d : List Int) (need col : Nat) (x : Int) : ∀ k, Cg (valTo d need col x k) (sm k fun i => powF x i * d.getD (col * need + i) 0)
  | 0 => Cg.refl _
  | k + 1 => by
    rw [valTo, sm]
    split
    · refine (Cg.mod _).trans ((val_sm d need col x k).add (Cg.of_eq (Int.mul_comm _ _)))
    · rename_i h
      rw [List.getD_eq_getElem?_getD, List.getElem?_eq_none (by omega)]
      simp only [Option.getD_none, Int.mul_zero, Int.add_zero]
      exact val_sm d need col x k
theorem valZ_bd (d : List Int) (need col : Nat) (x : Int) : 0 ≤ valZ d need col x ∧ valZ d need col x ≤ 250 := valTo_bd _ _ _ _ _

/-! a column by Horner's rule -/
def horZ (l : List Int) (x : Int) : Int := l.foldr (fun s acc => (acc * x + s) % 251) 0
theorem horZ_cons (s : Int) (l : List Int) (x : Int) : horZ (s :: l) x = (horZ l x * x + s) % 251 := rfl
theorem horZ_bd (l : List Int) (x : Int) : 0 ≤ horZ l x ∧ horZ l x ≤ 250 := by
  cases l with
  | nil => simp [horZ]
  | cons s l => rw [horZ_cons]; omega
theorem horZ_drop {l : List Int} {i : Nat} (h : i < l.length) (x : Int) : horZ (l.drop i) x = (horZ (l.drop (i + 1)) x * x + l[i]) % 251 := by
  rw [List.drop_eq_getElem_cons h]; rfl
theorem hor_sm (x : Int) : ∀ l : List Int, Cg (horZ l x) (sm l.length fun i => powF x i * l.getD i 0)
  | [] => Cg.refl _
  | s :: l => by
    rw [horZ_cons, List.length_cons, sm_shift]
    have h1 := hor_sm x l
    have e3 : Cg (sm l.length (fun i => powF x (i + 1) * (s :: l).getD (i + 1) 0)) (x * sm l.length (fun i => powF x i * l.getD i 0)) := by
      rw [← sm_mul]
      refine sm_cg _ fun i _ => ?_
      rw [powF, ← Int.mul_assoc, Int.mul_comm x]
      exact (Cg.mod _).mul (Cg.refl _)
    refine (Cg.mod _).trans ?_
    rw [Int.add_comm]
    refine Cg.add (Cg.of_eq (by simp [powF])) (Cg.trans ?_ e3.symm)
    rw [Int.mul_comm]
    exact (Cg.refl x).mul h1
theorem hor_val (d : List Int) (need c : Nat) (x : Int) : horZ ((d.drop (c * need)).take need) x = valZ d need c x := by
  refine Cg.eq ?_ (horZ_bd _ _) (valZ_bd _ _ _ _)
  refine (hor_sm x _).trans (Cg.trans ?_ (val_sm d need c x need).symm)
  refine Cg.of_eq ?_
  rw [← sm_cut (m := ((d.drop (c * need)).take need).length) need (by simp; omega)]
  · refine sm_congr _ fun i hi => ?_
    congr 1
    simp only [List.getD_eq_getElem?_getD, List.getElem?_take, List.getElem?_drop, if_pos hi]
  · intro i h1 h2
    rw [List.getD_eq_getElem?_getD, List.getElem?_eq_none h1]; simp

/-! lists of shards -/
abbrev Sh := Int × List Int
def okS (cols : Nat) (s : Sh) : Bool := decide (1 ≤ s.1 ∧ s.1 ≤ 8) && decide (s.2.length = cols) && s.2.all symB
theorem okS_iff {cols : Nat} {s : Sh} (h : okS cols s = true) : (1 ≤ s.1 ∧ s.1 ≤ 8) ∧ s.2.length = cols ∧ ∀ y ∈ s.2, 0 ≤ y ∧ y ≤ 250 := by
  unfold okS at h
  simp only [Bool.and_eq_true, decide_eq_true_eq, List.all_eq_true] at h
  exact ⟨h.1.1, h.1.2, fun y hy => symB_bd (h.2 y hy)⟩
def xsOf (L : List Sh) (k : Nat) : Int := (L.getD k (0, [])).1
def vsOf (L : List Sh) (k : Nat) : List Int := (L.getD k (0, [])).2
theorem getS {L : List Sh} {k : Nat} (h : k < L.length) : L.getD k (0, []) = L[k] := by simp [List.getD, List.getElem?_eq_getElem h]
def newAt (L : List Sh) (k : Nat) : Bool := allB (fun j => decide (xsOf L j ≠ xsOf L k)) k
def shAt (cols : Nat) (L : List Sh) (k : Nat) : Bool := okS cols (L.getD k (0, [])) && newAt L k
def shsB (cols : Nat) (L : List Sh) : Bool := allB (shAt cols L) L.length
def lenB (need : Int) (L : List Sh) : Bool := decide (need ≤ L.length ∧ L.length ≤ 8)
theorem shAt_iff {cols : Nat} {L : List Sh} {k : Nat} (hk : k < L.length) (h : shAt cols L k = true) : ((1 ≤ L[k].1 ∧ L[k].1 ≤ 8) ∧ L[k].2.length = cols ∧ ∀ y ∈ L[k].2, 0 ≤ y ∧ y ≤ 250) ∧ ∀ j, j < k → xsOf L j ≠ xsOf L k := by
  unfold shAt at h
  rw [Bool.and_eq_true, getS hk] at h
  refine ⟨okS_iff h.1, fun j hj => ?_⟩
  have := allB_upto h.2 j hj
  simpa using this
theorem shsB_at {cols : Nat} {L : List Sh} (h : shsB cols L = true) {k : Nat} (hk : k < L.length) : ((1 ≤ L[k].1 ∧ L[k].1 ≤ 8) ∧ L[k].2.length = cols ∧ ∀ y ∈ L[k].2, 0 ≤ y ∧ y ≤ 250) ∧ ∀ j, j < k → xsOf L j ≠ xsOf L k :=
  shAt_iff hk (allB_upto h k hk)

/-- The symbols that elimination finds. -/
def dataI (size need : Nat) (L : List Sh) : List Int := (List.range size).map fun i => stAt need (eqs0 need (xsOf L) (vsOf L) need) need (i % need) (8 + i / need)
theorem dataI_len (size need : Nat) (L : List Sh) : (dataI size need L).length = size := by simp [dataI]
def matB (d : List Int) (need : Int) (s : Sh) : Bool := dataB d need && decide (1 ≤ s.1 ∧ s.1 ≤ 8) && decide (shardV d need.toNat s.1 = s.2)
theorem div_lt12 {i size need : Nat} (_h1 : 1 ≤ need) (hi : i < size) (hs : size ≤ 12) : i / need < 12 := Nat.lt_of_le_of_lt (Nat.div_le_self _ _) (by omega)
theorem idx_div {i need : Nat} : i / need * need + i % need = i := by rw [Nat.mul_comm]; exact Nat.div_add_mod _ _
theorem shard_getD {d : List Int} {need : Nat} {x : Int} {c : Nat} (h : c < colsN d need) : (shardV d need x).getD c 0 = valZ d need c x := by
  rw [getD_get (by rw [shardV_len]; exact h), shardV_get]
theorem diff_nz {x y : Int} (hx : 1 ≤ x ∧ x ≤ 8) (hy : 1 ≤ y ∧ y ≤ 8) (h : y ≠ x) : ¬ Cg (x - y) 0 := by rintro ⟨k, e⟩; omega
/-- The values of data at need numbers fix the data. -/
theorem solve_data {d : List Int} {need : Nat} (h1 : 1 ≤ need) (h8 : need ≤ 8) (hd : ∀ y ∈ d, 0 ≤ y ∧ y ≤ 250) (hl : d.length ≤ 12) {xs : Nat → Int} {vs : Nat → List Int} (hx : ∀ i j, i < need → j < i → ¬ Cg (xs i - xs j) 0)
    (hv : ∀ j, j < need → vs j = shardV d need (xs j)) {i : Nat} (hi : i < d.length) : stAt need (eqs0 need xs vs need) need (i % need) (8 + i / need) = d[i] := by
  have hc := div_lt12 h1 hi hl
  have hb : ∀ k, k < need → ∀ y ∈ vs k, 0 ≤ y ∧ y ≤ 250 := by
    intro k hk y hy
    rw [hv k hk] at hy
    obtain ⟨j, hj, rfl⟩ := List.mem_iff_getElem.1 hy
    rw [shardV_get]; exact valZ_bd _ _ _ _
  have hcol : i / need < colsN d need := (cols_lt h1).2 (by have := idx_div (i := i) (need := need); omega)
  have := solve_at h8 hb hx hc (fun k => d.getD (i / need * need + k) 0) (fun j hj => by
    rw [hv j hj, shard_getD hcol]; exact (val_sm d need (i / need) (xs j) need).symm) (i % need) (Nat.mod_lt _ h1)
  simp only [idx_div] at this
  rw [getD_get hi] at this
  exact this.eq (stAt_bd (eqs0_bd hb) need need _ _) (hd _ (List.getElem_mem hi))
theorem uniq_data {d d' : List Int} {need : Nat} (h1 : 1 ≤ need) (h8 : need ≤ 8) (hd : ∀ y ∈ d, 0 ≤ y ∧ y ≤ 250) (hd' : ∀ y ∈ d', 0 ≤ y ∧ y ≤ 250) (hl : d.length ≤ 12) (hll : d.length = d'.length) {xs : Nat → Int} (hx : ∀ i j, i < need → j < i → ¬ Cg (xs i - xs j) 0)
    (hv : ∀ j, j < need → shardV d need (xs j) = shardV d' need (xs j)) : d = d' := by
  refine List.ext_getElem hll fun i hi hi' => ?_
  rw [← solve_data h1 h8 hd hl hx (vs := fun j => shardV d need (xs j)) (fun _ _ => rfl) hi, ← solve_data h1 h8 hd' (by omega) hx (vs := fun j => shardV d need (xs j)) hv hi']
/-- What ShardJoin answers. -/
def joinOk (size need : Int) (L : List Sh) : Bool := decide (1 ≤ size ∧ size ≤ 12) && decide (1 ≤ need ∧ need ≤ 8) && (lenB need L && shsB ((size.toNat + need.toNat - 1) / need.toNat) L)
def joinB (size need : Int) (L : List Sh) : Bool := joinOk size need L && L.all (matB (dataI size.toNat need.toNat L) need)
def joinD (size need : Int) (L : List Sh) : List Int := if joinB size need L = true then dataI size.toNat need.toNat L else []
theorem joinOk_iff {size need : Int} {L : List Sh} (h : joinOk size need L = true) : (1 ≤ size ∧ size ≤ 12) ∧ (1 ≤ need ∧ need ≤ 8) ∧ (need ≤ L.length ∧ L.length ≤ 8) ∧ shsB ((size.toNat + need.toNat - 1) / need.toNat) L = true := by
  unfold joinOk lenB at h
  simp only [Bool.and_eq_true, decide_eq_true_eq] at h
  exact ⟨h.1.1, h.1.2, h.2.1, h.2.2⟩
theorem xs_nz {cols : Nat} {L : List Sh} (h : shsB cols L = true) : ∀ i j, i < L.length → j < i → ¬ Cg (xsOf L i - xsOf L j) 0 := by
  intro i j hi hj
  have a := shsB_at h hi
  have b := shsB_at h (k := j) (by omega)
  have e1 : xsOf L i = L[i].1 := by unfold xsOf; rw [getS hi]
  have e2 : xsOf L j = L[j].1 := by unfold xsOf; rw [getS (by omega)]
  exact diff_nz (by rw [e1]; exact a.1.1) (by rw [e2]; exact b.1.1) (a.2 j hj)
/-- Data that has the shards is what is found. -/
theorem dataI_eq {d : List Int} {need : Nat} {L : List Sh} (hd : dataB d need = true) (hn : need ≤ L.length) (hs : shsB (colsN d need) L = true) (hv : ∀ s ∈ L, s.2 = shardV d need s.1) : dataI d.length need L = d := by
  obtain ⟨hd0, ⟨_, hd2⟩, h1, h8⟩ := dataB_iff hd
  refine List.ext_getElem (dataI_len _ _ _) fun i hi hi' => ?_
  simp only [dataI, List.getElem_map, List.getElem_range]
  refine solve_data (by omega) (by omega) hd0 hd2 (fun i j hi hj => xs_nz hs i j (by omega) hj) (fun j hj => ?_) hi'
  unfold vsOf xsOf
  rw [getS (show j < L.length by omega)]
  exact hv _ (List.getElem_mem _)

end Go.Proofs.Ytkndndcjchlpdab
