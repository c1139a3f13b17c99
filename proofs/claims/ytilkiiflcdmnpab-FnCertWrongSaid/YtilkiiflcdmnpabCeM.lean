/- Certificates as lists of numbers: plain functions and their arithmetic; nothing here speaks of the program. -/
import Derived.Test.YtilkiiflcdmnpabBase
import Derived.Test.YtilkiiflcdmnpabL1
import Derived.Test.YtilkiiflcdmnpabM1
import Derived.Test.YtilkiiflcdmnpabM2
import Derived.Test.YtilkiiflcdmnpabSgM
namespace Go.Proofs.Ytilkiiflcdmnpab
open Go.RowKit

/-- A committee, and a key in range for each member. -/
def lkB (c keys : List Int) : Bool := validB c && (decide (keys.length = c.length) && keys.all signB)
theorem lkB_iff {c keys : List Int} (h : lkB c keys = true) : validB c = true ∧ keys.length = c.length ∧ keys.all signB = true := by
  unfold lkB at h
  simp only [Bool.and_eq_true, decide_eq_true_eq] at h
  exact ⟨h.1, h.2.1, h.2.2⟩
theorem lkB_sign {c keys : List Int} (h : lkB c keys = true) (i : Nat) (hi : i < c.length) : 1 ≤ keys.getD i 0 ∧ keys.getD i 0 ≤ 996 := by
  obtain ⟨_, hl, ha⟩ := lkB_iff h
  rw [List.all_eq_true] at ha
  rw [getD_get (by omega)]
  exact signB_bd (ha _ (List.getElem_mem _))
theorem lkB_no1 {c keys : List Int} (h : validB c = false) : lkB c keys = false := by unfold lkB; rw [h]; rfl
theorem lkB_no2 {c keys : List Int} (h : keys.length ≠ c.length) : lkB c keys = false := by unfold lkB; rw [decide_eq_false h]; simp
theorem lkB_no3 {c keys : List Int} (h : keys.all signB = false) : lkB c keys = false := by unfold lkB; rw [h]; simp
theorem lkB_yes {c keys : List Int} (h1 : validB c = true) (h2 : keys.length = c.length) (h3 : keys.all signB = true) : lkB c keys = true := by unfold lkB; rw [h1, h3, decide_eq_true h2]; rfl
/-- Members weigh a quorum. -/
def qB (c ms : List Int) : Bool := decide (2 * totalZ c / 3 + 1 ≤ weightZ c ms)
def sumOkB (s : Int) : Bool := decide (0 ≤ s ∧ s ≤ 996)
/-- What CertCheck says. -/
def ccB (c keys : List Int) (d : Int) (ms : List Int) (s : Int) : Bool :=
  lkB c keys && (digB d && (membersB c.length ms && (sumOkB s && (qB c ms && equB (weightZ keys ms) d s))))
theorem members_ge {n : Nat} {ms : List Int} (h : membersB n ms = true) : ∀ k (hk : k < ms.length), (k : Int) ≤ ms[k] := by
  intro k
  induction k with
  | zero => intro hk; have := membersB_at h 0 hk; omega
  | succ k ih =>
    intro hk
    have h1 := ih (by omega)
    have h2 := (okAt_bd hk (allB_upto h (k + 1) hk)).2.2.resolve_left (by omega)
    rw [Nat.add_sub_cancel, getD_get (by omega)] at h2
    omega
theorem members_len {n : Nat} {ms : List Int} (h : membersB n ms = true) : ms.length ≤ n := by
  rcases Nat.eq_zero_or_pos ms.length with h0 | h0
  · omega
  · have h1 := members_ge h (ms.length - 1) (by omega)
    have h2 := membersB_at h (ms.length - 1) (by omega)
    omega
/-- The sum of the keys of the first members is small. -/
theorem keySum_bd {c keys ms : List Int} (h : lkB c keys = true) (hm : membersB c.length ms = true) (k : Nat) (hk : k ≤ ms.length) : 0 ≤ weightTo keys ms k ∧ weightTo keys ms k ≤ 996 * k := by
  induction k with
  | zero => simp [weightTo]
  | succ k ih =>
    have := ih (by omega)
    have g := membersB_at hm k (by omega)
    have := lkB_sign h ms[k].toNat (by omega)
    rw [weightTo_succ (by omega)]
    omega
theorem keySum_bd' {c keys ms : List Int} (h : lkB c keys = true) (hm : membersB c.length ms = true) : 0 ≤ weightZ keys ms ∧ weightZ keys ms ≤ 6972 := by
  have h1 := keySum_bd h hm ms.length (Nat.le_refl _)
  have h2 := members_len hm
  have h3 := validB_len (lkB_iff h).1
  unfold weightZ; omega
theorem equB_mod (p d s : Int) : equB (p % 997) d s = equB p d s := by unfold equB; rw [mul_mod]
/-- Number i's signature is none, or valid. -/
def okSig (keys sigs : List Int) (d : Int) (i : Nat) : Bool := sigs.getD i 0 == 0 || scB (keys.getD i 0) d (sigs.getD i 0)
def sgnF (sigs : List Int) (i : Nat) : Bool := sigs.getD i 0 != 0
def sgS (sigs : List Int) : Nat → Int
  | 0 => 0
  | k + 1 => if sgnF sigs k = true then (sgS sigs k + sigs.getD k 0) % 997 else sgS sigs k
theorem sgS_bd (sigs : List Int) (k : Nat) : 0 ≤ sgS sigs k ∧ sgS sigs k ≤ 996 := by
  induction k with
  | zero => simp [sgS]
  | succ k ih => unfold sgS; split <;> omega
theorem sgS_yes {sigs : List Int} {k : Nat} (h : sgnF sigs k = true) : sgS sigs (k + 1) = (sgS sigs k + sigs.getD k 0) % 997 := by rw [sgS, if_pos h]
theorem sgS_no {sigs : List Int} {k : Nat} (h : sgnF sigs k = false) : sgS sigs (k + 1) = sgS sigs k := by rw [sgS, if_neg (by simp [h])]
theorem okSig_zero {keys sigs : List Int} {d : Int} {i : Nat} (h : sigs.getD i 0 = 0) : okSig keys sigs d i = true ∧ sgnF sigs i = false := by unfold okSig sgnF; rw [h]; exact ⟨rfl, rfl⟩
theorem okSig_sc {keys sigs : List Int} {d : Int} {i : Nat} (h : sigs.getD i 0 ≠ 0) : okSig keys sigs d i = scB (keys.getD i 0) d (sigs.getD i 0) ∧ sgnF sigs i = true := by
  unfold okSig sgnF
  have : (sigs.getD i 0 == 0) = false := by rw [beq_eq_false_iff_ne]; exact h
  rw [this, bne, this]; exact ⟨rfl, rfl⟩
/-- Valid signatures add up to one for the sum of the keys. -/
theorem sums_fit {keys sigs : List Int} {d : Int} (k : Nat) (h : Upto (okSig keys sigs d) k) : equB (weightZ keys (rangeF (sgnF sigs) k)) d (sgS sigs k) = true := by
  rw [equB_iff]
  induction k with
  | zero => simp [sgS, rangeF, weightZ, weightTo]
  | succ k ih =>
    have h1 := ih fun j hj => h j (by omega)
    by_cases h0 : sigs.getD k 0 = 0
    · rw [sgS_no (okSig_zero (keys := keys) (d := d) h0).2, rangeF_no (okSig_zero (keys := keys) (d := d) h0).2]; exact h1
    · obtain ⟨e1, e2⟩ := okSig_sc (keys := keys) (d := d) h0
      have h2 := h k (by omega)
      rw [e1] at h2
      unfold scB at h2
      simp only [Bool.and_eq_true] at h2
      have h3 := (equB_iff _ _ _).1 h2.2.2.2
      rw [sgS_yes e2, rangeF_yes e2, weightTo_app, Int.toNat_natCast, mul_mod, Int.add_mul, Int.add_mul, Int.add_emod, h1, h3, ← Int.add_emod]
/-- What CertMake says: whether there is a certificate; its digest, its signers, its sum. -/
def cmB (c keys : List Int) (d : Int) (sigs : List Int) : Bool :=
  lkB c keys && (digB d && (decide (sigs.length = c.length) && (allB (okSig keys sigs d) sigs.length && qB c (rangeF (sgnF sigs) sigs.length))))
def cmD (c keys : List Int) (d : Int) (sigs : List Int) : Int := if cmB c keys d sigs = true then d else 0
def cmL (c keys : List Int) (d : Int) (sigs : List Int) : List Int := if cmB c keys d sigs = true then rangeF (sgnF sigs) sigs.length else []
def cmS (c keys : List Int) (d : Int) (sigs : List Int) : Int := if cmB c keys d sigs = true then sgS sigs sigs.length else 0
theorem cm_yes {c keys : List Int} {d : Int} {sigs : List Int} (h : cmB c keys d sigs = true) : cmD c keys d sigs = d ∧ cmL c keys d sigs = rangeF (sgnF sigs) sigs.length ∧ cmS c keys d sigs = sgS sigs sigs.length := by
  unfold cmD cmL cmS; rw [if_pos h, if_pos h, if_pos h]; exact ⟨rfl, rfl, rfl⟩
theorem cm_no {c keys : List Int} {d : Int} {sigs : List Int} (h : cmB c keys d sigs = false) : cmD c keys d sigs = 0 ∧ cmL c keys d sigs = [] ∧ cmS c keys d sigs = 0 := by
  unfold cmD cmL cmS; rw [if_neg (by simp [h]), if_neg (by simp [h]), if_neg (by simp [h])]; exact ⟨rfl, rfl, rfl⟩
theorem cmL_len (c keys : List Int) (d : Int) (sigs : List Int) : (cmL c keys d sigs).length ≤ sigs.length := by
  unfold cmL; split
  · exact rangeF_len _ _
  · simp
theorem cmB_len {c keys sigs : List Int} {d : Int} (h : cmB c keys d sigs = true) : keys.length = c.length ∧ sigs.length = c.length := by
  unfold cmB at h
  simp only [Bool.and_eq_true, decide_eq_true_eq] at h
  exact ⟨(lkB_iff h.1).2.1, h.2.2.1⟩
theorem cmB_bad {c keys sigs : List Int} {d : Int} {k : Nat} (hk : k < sigs.length) (h : okSig keys sigs d k = false) : cmB c keys d sigs = false := by
  unfold cmB; rw [allB_no hk h]; simp
theorem cmB_lens {c keys sigs : List Int} {d : Int} (h : keys.length ≠ sigs.length) : cmB c keys d sigs = false := by
  rw [Bool.eq_false_iff]; intro h'; have := cmB_len h'; omega
/-- Of valid signatures, a certificate is made if and only if it is accepted. -/
theorem cc_made {c keys sigs : List Int} {d : Int} (hl : keys.length = sigs.length) (h : Upto (okSig keys sigs d) sigs.length) : ccB c keys d (rangeF (sgnF sigs) sigs.length) (sgS sigs sigs.length) = cmB c keys d sigs := by
  unfold ccB cmB
  cases hlk : lkB c keys with
  | false => rfl
  | true =>
    have e := (lkB_iff hlk).2.1
    have hs : sumOkB (sgS sigs sigs.length) = true := decide_eq_true (sgS_bd _ _)
    rw [← show sigs.length = c.length by omega, of_ascP (ascP_rangeF _ _), hs, sums_fit _ h, allB_yes h (Nat.le_refl _), decide_eq_true rfl]
    simp

theorem cm_iff {c keys sigs : List Int} {d : Int} (h : cmB c keys d sigs = true) : lkB c keys = true ∧ digB d = true ∧ sigs.length = c.length ∧ Upto (okSig keys sigs d) sigs.length ∧ qB c (rangeF (sgnF sigs) sigs.length) = true := by
  unfold cmB at h
  simp only [Bool.and_eq_true, decide_eq_true_eq] at h
  exact ⟨h.1, h.2.1, h.2.2.1, allB_upto h.2.2.2.1, h.2.2.2.2⟩
theorem cc_cm {c keys sigs : List Int} {d : Int} (h : cmB c keys d sigs = true) : ccB c keys d (rangeF (sgnF sigs) sigs.length) (sgS sigs sigs.length) = true := by
  obtain ⟨h1, _, h3, h4, _⟩ := cm_iff h
  rw [cc_made (by have := (lkB_iff h1).2.1; omega) h4, h]
/-- The signers are a set of members with a quorum, those who have signed. -/
theorem cm_sigs {c keys sigs : List Int} {d : Int} (h : cmB c keys d sigs = true) : membersB c.length (rangeF (sgnF sigs) sigs.length) = true ∧ 2 * totalZ c / 3 + 1 ≤ weightZ c (rangeF (sgnF sigs) sigs.length) := by
  obtain ⟨_, _, h3, _, h5⟩ := cm_iff h
  refine ⟨by rw [← h3]; exact of_ascP (ascP_rangeF _ _), ?_⟩
  unfold qB at h5
  exact of_decide_eq_true h5
theorem cm_some {c keys sigs : List Int} {d : Int} (h : cmB c keys d sigs = true) : 0 < (rangeF (sgnF sigs) sigs.length).length := by
  have h1 := (cm_sigs h).2
  have h2 := totalZ_bd (lkB_iff (cm_iff h).1).1
  rcases Nat.eq_zero_or_pos (rangeF (sgnF sigs) sigs.length).length with h0 | h0
  · rw [List.eq_nil_of_length_eq_zero h0] at h1
    simp [weightZ, weightTo] at h1
    omega
  · exact h0
theorem has_rangeF (p : Nat → Bool) (n i : Nat) (h : i < n) : hasB (rangeF p n) (i : Int) = p i := by
  unfold hasB
  rw [Bool.eq_iff_iff, decide_eq_true_iff, mem_rangeF]
  exact ⟨fun h' => h'.2, fun h' => ⟨h, h'⟩⟩
/-- A signer is a member with a valid signature. -/
theorem cm_signer {c keys sigs : List Int} {d : Int} (h : cmB c keys d sigs = true) {j : Nat} (hj : j < (rangeF (sgnF sigs) sigs.length).length) :
    ∃ k : Nat, (rangeF (sgnF sigs) sigs.length)[j] = (k : Int) ∧ k < sigs.length ∧ sigs.getD k 0 ≠ 0 ∧ scB (keys.getD k 0) d (sigs.getD k 0) = true := by
  have hm := List.getElem_mem hj
  have hr := (membersB_at (cm_sigs h).1 j hj)
  obtain ⟨k, hk⟩ := Int.eq_ofNat_of_zero_le hr.1
  rw [hk] at hm
  obtain ⟨h1, h2⟩ := mem_rangeF.1 hm
  have h3 : sigs.getD k 0 ≠ 0 := by unfold sgnF at h2; simpa using h2
  have h4 := (cm_iff h).2.2.2.1 k h1
  rw [(okSig_sc h3).1] at h4
  exact ⟨k, hk, h1, h3, h4⟩
/-- With another signature of one signer there is no certificate. -/
theorem cm_other {c keys sigs : List Int} {d : Int} {k : Nat} {z : Int} (hk : k < sigs.length) (hs : scB (keys.getD k 0) d (sigs.getD k 0) = true) (h0 : 1 ≤ z) (h1 : z ≤ 996) (hne : z ≠ sigs.getD k 0) : cmB c keys d (sigs.set k z) = false := by
  have e : (sigs.set k z).getD k 0 = z := by rw [getD_get (by simpa using hk)]; simp
  refine cmB_bad (k := k) (by simpa using hk) ?_
  rw [(okSig_sc (by rw [e]; omega)).1, e]
  exact sc_one hs h0 h1 hne
/-- Some signatures are taken away. -/
def maskZ (sigs : List Int) (q : Nat) (k : Nat) : List Int := (List.range sigs.length).map fun i => if i < k ∧ i % 2 = q then 0 else sigs.getD i 0
theorem maskZ_len (sigs : List Int) (q k : Nat) : (maskZ sigs q k).length = sigs.length := by simp [maskZ]
theorem maskZ_get (sigs : List Int) (q k i : Nat) (h : i < sigs.length) : (maskZ sigs q k).getD i 0 = if i < k ∧ i % 2 = q then 0 else sigs.getD i 0 := by
  rw [getD_get (by rw [maskZ_len]; exact h)]; simp [maskZ]
theorem maskZ_zero (sigs : List Int) (q : Nat) : maskZ sigs q 0 = sigs := by
  refine List.ext_getElem (maskZ_len _ _ _) fun i h1 h2 => ?_
  have := maskZ_get sigs q 0 i h2
  rw [getD_get h1, getD_get h2] at this
  simpa using this
theorem maskZ_yes {sigs : List Int} {q k : Nat} (hk : k < sigs.length) (h : k % 2 = q) : maskZ sigs q (k + 1) = (maskZ sigs q k).set k 0 := by
  refine List.ext_getElem (by simp [maskZ_len]) fun i h1 h2 => ?_
  have hi : i < sigs.length := by rw [maskZ_len] at h1; exact h1
  rw [← getD_get h1, maskZ_get _ _ _ _ hi, List.getElem_set]
  by_cases e : k = i
  · subst e; rw [if_pos ⟨by omega, h⟩, if_pos rfl]
  · rw [if_neg e, ← getD_get (by rw [maskZ_len]; exact hi), maskZ_get _ _ _ _ hi]
    by_cases e2 : i < k ∧ i % 2 = q
    · rw [if_pos e2, if_pos ⟨by omega, e2.2⟩]
    · rw [if_neg e2, if_neg (by omega)]
theorem maskZ_no {sigs : List Int} {q k : Nat} (_hk : k < sigs.length) (h : k % 2 ≠ q) : maskZ sigs q (k + 1) = maskZ sigs q k := by
  refine List.ext_getElem (by simp [maskZ_len]) fun i h1 h2 => ?_
  have hi : i < sigs.length := by rw [maskZ_len] at h1; exact h1
  rw [← getD_get h1, ← getD_get h2, maskZ_get _ _ _ _ hi, maskZ_get _ _ _ _ hi]
  by_cases e2 : i < k ∧ i % 2 = q
  · rw [if_pos e2, if_pos ⟨by omega, e2.2⟩]
  · rw [if_neg e2, if_neg (by rintro ⟨a, b⟩; have : i = k := by omega
                              subst this; exact h b)]
/-- What is at place k when k places are masked, and later. -/
theorem maskZ_at (sigs : List Int) (q k n : Nat) (hk : k < sigs.length) (hn : k + 1 ≤ n) : (maskZ sigs q n).getD k 0 = (maskZ sigs q (k + 1)).getD k 0 := by
  rw [maskZ_get _ _ _ _ hk, maskZ_get _ _ _ _ hk]
  by_cases e : k % 2 = q
  · rw [if_pos ⟨by omega, e⟩, if_pos ⟨by omega, e⟩]
  · rw [if_neg (by omega), if_neg (by omega)]
theorem cm_mask {c keys sigs : List Int} {d : Int} (h : cmB c keys d sigs = true) (q : Nat) : cmB c keys d (maskZ sigs q sigs.length) = qB c (rangeF (sgnF (maskZ sigs q sigs.length)) sigs.length) := by
  obtain ⟨h1, h2, h3, h4, _⟩ := cm_iff h
  unfold cmB
  rw [h1, h2, maskZ_len, decide_eq_true h3, allB_yes (k := sigs.length) _ (Nat.le_refl _)]
  · simp
  · intro i hi
    by_cases e : i % 2 = q
    · exact (okSig_zero (by rw [maskZ_get _ _ _ _ hi, if_pos ⟨hi, e⟩])).1
    · have h5 := h4 i hi
      unfold okSig at h5 ⊢
      rw [maskZ_get _ _ _ _ hi, if_neg (by omega)]
      exact h5

theorem cc_iff {c keys : List Int} {d : Int} {ms : List Int} {s : Int} (h : ccB c keys d ms s = true) : lkB c keys = true ∧ digB d = true ∧ membersB c.length ms = true ∧ sumOkB s = true ∧ equB (weightZ keys ms) d s = true := by
  unfold ccB at h
  simp only [Bool.and_eq_true] at h
  exact ⟨h.1, h.2.1, h.2.2.1, h.2.2.2.1, h.2.2.2.2.2⟩
theorem cc_equ {c keys : List Int} {d : Int} {ms : List Int} {s : Int} (h : equB (weightZ keys ms) d s = false) : ccB c keys d ms s = false := by unfold ccB; simp [h]
/-- A certificate has one sum. -/
theorem cc_sum {c keys : List Int} {d : Int} {ms : List Int} {s t : Int} (h : ccB c keys d ms s = true) (h0 : 0 ≤ t) (h1 : t ≤ 996) (hne : t ≠ s) : ccB c keys d ms t = false := by
  refine cc_equ ?_
  rw [Bool.eq_false_iff]
  intro he
  obtain ⟨_, _, _, hs, hq⟩ := cc_iff h
  obtain ⟨hs0, hs1⟩ := (of_decide_eq_true hs : 0 ≤ s ∧ s ≤ 996)
  rw [equB_iff] at he hq
  omega
/-- A certificate has one digest where the keys do not add up to 0. -/
theorem cc_digest {c keys : List Int} {d e : Int} {ms : List Int} {s : Int} (h : ccB c keys d ms s = true) (hk : weightZ keys ms % 997 ≠ 0) (h0 : 0 ≤ e) (h1 : e ≤ 990) (hne : e ≠ d) : ccB c keys e ms s = false := by
  refine cc_equ ?_
  rw [Bool.eq_false_iff]
  intro he
  obtain ⟨_, hd, _, _, hq⟩ := cc_iff h
  obtain ⟨hd0, hd1⟩ := digB_bd hd
  rw [← equB_mod, equB_iff] at he hq
  have h2 := cancel_997 (k := weightZ keys ms % 997) (a := e + 1) (b := d + 1) (by omega) (by omega) (he.symm.trans hq)
  omega

end Go.Proofs.Ytilkiiflcdmnpab
