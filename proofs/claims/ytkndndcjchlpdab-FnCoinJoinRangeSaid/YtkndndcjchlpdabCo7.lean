/- Plain facts on parts of the coin: they are shards of a single column; nothing here speaks of the program. -/
import Derived.Test.YtkndndcjchlpdabCo1
import Derived.Test.YtkndndcjchlpdabM1
import Derived.Test.YtkndndcjchlpdabM5
import Derived.Test.YtkndndcjchlpdabRow
namespace Go.Proofs.Ytkndndcjchlpdab
open Go.RowKit

abbrev Cp := Int × Int
def cpF (p : Cp) : List Fd := [.i p.1, .i p.2]
def cpM (l : List Cp) : List Int := l.map Prod.fst
def cpV (l : List Cp) : List Int := l.map Prod.snd
theorem cpM_len (l : List Cp) : (cpM l).length = l.length := by simp [cpM]
theorem cpV_len (l : List Cp) : (cpV l).length = l.length := by simp [cpV]
theorem cpM_get {l : List Cp} {k : Nat} (h : k < (cpM l).length) : (cpM l)[k] = (l[k]'(by simpa [cpM] using h)).1 := by simp [cpM]
theorem cpV_get {l : List Cp} {k : Nat} (h : k < (cpV l).length) : (cpV l)[k] = (l[k]'(by simpa [cpV] using h)).2 := by simp [cpV]
def partsB (l : List Cp) : Bool := membersB 7 (cpM l) && (cpV l).all symB
def shL (l : List Cp) : List Sh := l.map fun p => (p.1 + 1, [p.2])
theorem shL_len (l : List Cp) : (shL l).length = l.length := by simp [shL]
def cjOk (need : Int) (l : List Cp) : Bool := decide (1 ≤ need ∧ need ≤ 7) && partsB l
def cjB (need : Int) (l : List Cp) : Bool := cjOk need l && joinB need need (shL l)
def cjV (need : Int) (l : List Cp) : Int := if cjB need l = true then (joinD need need (shL l)).getD 0 0 else 0
theorem cj_no {need : Int} {l : List Cp} (h : cjB need l = false) : cjV need l = 0 := by unfold cjV; rw [h]; rfl
theorem cj_yes {need : Int} {l : List Cp} (h : cjB need l = true) : cjV need l = (joinD need need (shL l)).getD 0 0 := by unfold cjV; rw [h]; rfl
theorem cjB_ok {need : Int} {l : List Cp} (h : cjOk need l = true) : cjB need l = joinB need need (shL l) := by unfold cjB; rw [h]; rfl
theorem cjB_no {need : Int} {l : List Cp} (h : cjOk need l = false) : cjB need l = false := by unfold cjB; rw [h]; rfl

/-- Ascending numbers below n are at most n. -/
theorem asc_len : ∀ (ms : List Int) (lo n : Int), ms.Pairwise (· < ·) → (∀ m ∈ ms, lo ≤ m ∧ m < n) → lo ≤ n → (ms.length : Int) ≤ n - lo
  | [], lo, n, _, _, h => by simp; omega
  | m :: ms, lo, n, hp, hb, h => by
    rw [List.pairwise_cons] at hp
    have h1 := hb m List.mem_cons_self
    have := asc_len ms (m + 1) n hp.2 (fun x hx => ⟨by have := hp.1 x hx; omega, (hb x (List.mem_cons_of_mem _ hx)).2⟩) (by omega)
    simp only [List.length_cons]; omega
theorem parts_iff (l : List Cp) : partsB l = true ↔ AscP 7 (cpM l) ∧ ∀ p ∈ l, 0 ≤ p.2 ∧ p.2 ≤ 250 := by
  unfold partsB
  rw [Bool.and_eq_true, List.all_eq_true]
  constructor
  · rintro ⟨h1, h2⟩
    exact ⟨ascP_of h1, fun p hp => symB_bd (h2 p.2 (List.mem_map_of_mem hp))⟩
  · rintro ⟨h1, h2⟩
    refine ⟨of_ascP h1, fun y hy => ?_⟩
    obtain ⟨p, hp, rfl⟩ := List.mem_map.1 hy
    exact symB_yes (h2 p hp)
theorem parts_len {l : List Cp} (h : partsB l = true) : l.length ≤ 7 := by
  have h1 := ((parts_iff l).1 h).1
  have := asc_len (cpM l) 0 7 h1.1 (fun m hm => by have := h1.2 m hm; omega) (by omega)
  rw [cpM_len] at this; omega
theorem parts_sub {l l' : List Cp} (h : partsB l = true) (hs : l'.Sublist l) : partsB l' = true := by
  obtain ⟨h1, h2⟩ := (parts_iff l).1 h
  refine (parts_iff l').2 ⟨⟨h1.1.sublist (hs.map _), fun m hm => ?_⟩, fun p hp => h2 p (hs.subset hp)⟩
  obtain ⟨p, hp, rfl⟩ := List.mem_map.1 hm
  exact h1.2 _ (List.mem_map_of_mem (hs.subset hp))
theorem parts_mem {l : List Cp} (h : partsB l = true) {p : Cp} (hp : p ∈ l) : (0 ≤ p.1 ∧ p.1 ≤ 6) ∧ 0 ≤ p.2 ∧ p.2 ≤ 250 := by
  obtain ⟨h1, h2⟩ := (parts_iff l).1 h
  have := h1.2 p.1 (List.mem_map_of_mem hp)
  exact ⟨by omega, h2 p hp⟩
/-- Valid parts are valid shards of one column. -/
theorem parts_shs {l : List Cp} (h : partsB l = true) : shsB 1 (shL l) = true := by
  have hp := ((parts_iff l).1 h).1.1
  unfold shsB
  refine allB_yes (fun k hk => ?_) (Nat.le_refl _)
  have hk' : k < l.length := by rw [shL_len] at hk; exact hk
  have he : (shL l).getD k (0, []) = (l[k].1 + 1, [l[k].2]) := by rw [getS hk]; simp [shL]
  obtain ⟨hm, hv⟩ := parts_mem h (List.getElem_mem hk')
  unfold shAt
  rw [he, Bool.and_eq_true]
  refine ⟨?_, ?_⟩
  · unfold okS
    simp only [Bool.and_eq_true, decide_eq_true_eq, List.length_singleton, List.all_cons, List.all_nil, Bool.and_true, and_true]
    exact ⟨by omega, symB_yes hv⟩
  · unfold newAt
    refine allB_yes (fun j hj => ?_) (Nat.le_refl _)
    refine decide_eq_true ?_
    unfold xsOf
    rw [he, getS (by omega)]
    have hlt := List.pairwise_iff_getElem.1 hp j k (by rw [cpM_len]; omega) (by rw [cpM_len]; omega) hj
    rw [cpM_get, cpM_get] at hlt
    simp only [shL, List.getElem_map]
    omega
theorem cols_one {n : Nat} (h : 1 ≤ n) : (n + n - 1) / n = 1 := Nat.div_eq_of_lt_le (by omega) (by omega)
theorem parts_ok {need : Int} {l : List Cp} (h : cjOk need l = true) : joinOk need need (shL l) = decide (need ≤ l.length) := by
  unfold cjOk at h
  rw [Bool.and_eq_true, decide_eq_true_eq] at h
  obtain ⟨hn, hp⟩ := h
  have hl := parts_len hp
  obtain ⟨n, rfl⟩ := Int.eq_ofNat_of_zero_le (show 0 ≤ need by omega)
  unfold joinOk lenB
  rw [shL_len, Int.toNat_natCast, cols_one (by omega), parts_shs hp, decide_eq_true (show 1 ≤ (n : Int) ∧ (n : Int) ≤ 12 by omega), decide_eq_true (show 1 ≤ (n : Int) ∧ (n : Int) ≤ 8 by omega), Bool.true_and, Bool.true_and, Bool.and_true, Bool.eq_iff_iff, decide_eq_true_iff, decide_eq_true_iff]
  omega
theorem parts_few {need : Int} {l : List Cp} (h : cjOk need l = true) (hl : ¬ need ≤ l.length) : cjB need l = false := by
  rw [cjB_ok h]
  unfold joinB
  rw [parts_ok h, decide_eq_false hl, Bool.false_and]
theorem join_len {need : Int} {L : List Sh} (h : joinB need need L = true) : 1 ≤ (joinD need need L).length := by
  unfold joinD
  rw [if_pos h, dataI_len]
  unfold joinB at h
  rw [Bool.and_eq_true] at h
  have := joinOk_iff h.1
  omega
/-- What is joined is a number of the field. -/
theorem cj_range {need : Int} {l : List Cp} (h : cjB need l = true) : 0 ≤ cjV need l ∧ cjV need l ≤ 250 := by
  have hb : joinB need need (shL l) = true := by unfold cjB at h; rw [Bool.and_eq_true] at h; exact h.2
  have hl := join_len hb
  rw [cj_yes h, getD_get (by omega)]
  have hm := List.getElem_mem (l := joinD need need (shL l)) (n := 0) (by omega)
  have hD : joinD need need (shL l) = dataI need.toNat need.toNat (shL l) := by unfold joinD; rw [if_pos hb]
  unfold joinB at hb
  rw [Bool.and_eq_true] at hb
  obtain ⟨hj, ha⟩ := hb
  have ho := joinOk_iff hj
  rw [List.all_eq_true] at ha
  have h0 := ha _ (List.getElem_mem (show 0 < (shL l).length by omega))
  unfold matB at h0
  simp only [Bool.and_eq_true] at h0
  exact (dataB_iff h0.1.1).1 _ (hD ▸ hm)
/-- Some of the parts, enough of them, give the same. -/
theorem cj_sub {need : Int} {l l' : List Cp} (h : cjB need l = true) (hs : l'.Sublist l) (hn : need ≤ l'.length) : cjB need l' = true ∧ cjV need l' = cjV need l := by
  have hb : joinB need need (shL l) = true := by unfold cjB at h; rw [Bool.and_eq_true] at h; exact h.2
  have hok : cjOk need l = true := by unfold cjB at h; rw [Bool.and_eq_true] at h; exact h.1
  have hok2 : cjOk need l' = true := by
    unfold cjOk at hok ⊢
    rw [Bool.and_eq_true] at hok ⊢
    exact ⟨hok.1, parts_sub hok.2 hs⟩
  have hj2 : joinOk need need (shL l') = true := by rw [parts_ok hok2]; exact decide_eq_true hn
  have hD : joinD need need (shL l) = dataI need.toNat need.toNat (shL l) := by unfold joinD; rw [if_pos hb]
  have hbb := hb
  unfold joinB at hbb
  rw [Bool.and_eq_true, List.all_eq_true] at hbb
  obtain ⟨hj, ha⟩ := hbb
  have ho := joinOk_iff hj
  have ho2 := joinOk_iff hj2
  obtain ⟨n, rfl⟩ := Int.eq_ofNat_of_zero_le (show 0 ≤ need by omega)
  rw [Int.toNat_natCast] at ha hD ho ho2
  have hmat := ha
  generalize hd : dataI n n (shL l) = d at *
  have hdl : d.length = n := by rw [← hd]; exact dataI_len _ _ _
  have hm0 := ha _ (List.getElem_mem (show 0 < (shL l).length by omega))
  unfold matB at hm0
  simp only [Bool.and_eq_true] at hm0
  have hdB := hm0.1.1
  have hsub : ∀ s ∈ shL l', s ∈ shL l := fun s hs' => by
    obtain ⟨p, hp, rfl⟩ := List.mem_map.1 hs'
    exact List.mem_map_of_mem (hs.subset hp)
  have hcol : colsN d n = (n + n - 1) / n := by unfold colsN; rw [hdl]
  have he : dataI n n (shL l') = d := by
    have := dataI_eq (d := d) (need := n) (L := shL l') hdB (by omega) (by rw [hcol]; exact ho2.2.2.2) (fun s hs' => by
      have := ha s (hsub s hs')
      unfold matB at this
      simp only [Bool.and_eq_true, decide_eq_true_eq, Int.toNat_natCast] at this
      exact this.2.symm)
    rw [hdl] at this; exact this
  have hb2 : joinB (n : Int) (n : Int) (shL l') = true := by
    unfold joinB
    rw [hj2, Int.toNat_natCast, he, Bool.true_and, List.all_eq_true]
    exact fun s hs' => ha s (hsub s hs')
  have hc2 : cjB (n : Int) l' = true := by rw [cjB_ok hok2]; exact hb2
  refine ⟨hc2, ?_⟩
  rw [cj_yes hc2, cj_yes h, hD]
  unfold joinD
  rw [if_pos hb2, Int.toNat_natCast, he]

theorem cjB_len {need : Int} {l : List Cp} (h : cjB need l = true) : 1 ≤ need ∧ need ≤ l.length := by
  have hok : cjOk need l = true := by unfold cjB at h; rw [Bool.and_eq_true] at h; exact h.1
  have h1 : 1 ≤ need ∧ need ≤ 7 := by unfold cjOk at hok; rw [Bool.and_eq_true, decide_eq_true_eq] at hok; exact hok.1
  refine ⟨h1.1, ?_⟩
  by_cases hl : need ≤ l.length
  · exact hl
  · rw [parts_few hok hl] at h; cases h
theorem sub_omit (l : List Cp) (k : Nat) : (l.take k ++ l.drop (k + 1)).Sublist l := by
  have h := (List.Sublist.refl (l.take k)).append (List.drop_sublist 1 (l.drop k))
  rw [List.drop_drop, List.take_append_drop] at h
  exact h

end Go.Proofs.Ytkndndcjchlpdab
