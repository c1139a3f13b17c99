/- Texts that the laws of this folder share, one behind another; no conditions. -/
import Derived.Test.YtjaacdapibokiaaGreatDoorBu2
import Derived.Test.YtjaacdapibokiaaGreatDoorBu3
import Derived.Test.YtjaacdapibokiaaGreatDoorRows
import Derived.Test.YtjaacdapibokiaaGreatDoorBu0
import Derived.Deep.QuietTactic
import Derived.BigQuiet
import Derived.Test.YtjaacdapibokiaaGreatDoorBu1
import Derived.WalkSmall
import Derived.Maps.AppendAt

/- A wave that is committed directly is reached by every later vertex: a quorum and a supporting set have a member in common; plain facts, nothing here speaks of the program. -/
namespace Go.Proofs.YtjaacdapibokiaaGreatDoor
open Go.RowKit

/-- Whether the author i votes in round r for the vertex of L. -/
def vB (g : List Vx) (L : Int) (r : Nat) (i : Nat) : Bool := g.any fun y => decide (y.r = (r : Int) ∧ y.a = (i : Int)) && hasB y.ps L
theorem vB_of {g : List Vx} {L : Int} {r i : Nat} (h : vB g L r i = true) : ∃ y ∈ g, y.r = (r : Int) ∧ y.a = (i : Int) ∧ L ∈ y.ps := by
  unfold vB at h
  obtain ⟨y, hy, hh⟩ := List.any_eq_true.1 h
  simp only [Bool.and_eq_true, decide_eq_true_eq] at hh
  exact ⟨y, hy, hh.1.1, hh.1.2, of_decide_eq_true hh.2⟩
theorem votP_isum {c : List Int} {L : Int} {r : Nat} {g : List Vx} (hs : Srt g) (hp : ∀ v ∈ g, inPl v) : ∀ a, votP c L r g a = isum (fun i => if vB g L r i = true then c.getD i 0 else 0) a
  | 0 => by rw [votP_zero hp]; rfl
  | a + 1 => by
    have ih := votP_isum (c := c) (L := L) (r := r) hs hp a
    by_cases he : ∃ y ∈ g, y.r = (r : Int) ∧ y.a = (a : Int)
    · obtain ⟨y, hy, er, ea⟩ := he
      rw [votP_yes hs hy er ea, ih]
      have e : vB g L r a = hasB y.ps L := by
        rw [Bool.eq_iff_iff]
        constructor
        · intro h
          obtain ⟨z, hz, zr, za, hm⟩ := vB_of h
          have : z = y := srt_uni hs hz hy (by omega) (by omega)
          rw [← this]; exact decide_eq_true hm
        · intro h
          unfold vB
          exact List.any_eq_true.2 ⟨y, hy, by rw [h, decide_eq_true ⟨er, ea⟩]; rfl⟩
      show _ = isum _ a + (if vB g L r a = true then c.getD a 0 else 0)
      rw [e]
    · have hn : ∀ v ∈ g, ¬ (v.r = (r : Int) ∧ v.a = (a : Int)) := fun v hv e => he ⟨v, hv, e⟩
      rw [votP_no hs hn, ih]
      have e : vB g L r a = false := by
        cases h : vB g L r a with
        | false => rfl
        | true =>
          obtain ⟨z, hz, zr, za, _⟩ := vB_of h
          exact absurd ⟨zr, za⟩ (hn z hz)
      show _ = isum _ a + (if vB g L r a = true then c.getD a 0 else 0)
      rw [e]; simp

theorem isum_cut {f : Nat → Int} : ∀ (d n : Nat), (∀ i, n ≤ i → f i = 0) → isum f (n + d) = isum f n
  | 0, _, _ => rfl
  | d + 1, n, h => by rw [← Nat.add_assoc]; show isum f (n + d) + f (n + d) = _; rw [isum_cut d n h, h (n + d) (by omega)]; omega
theorem voZ_isum {c : List Int} {g : List Vx} {ls : List Int} {w : Nat} (ok : Good21 c g ls) (h0 : 0 ≤ ldZ g ls w) : voZ c g ls w = isum (fun i => if vB g (ls.getD (w - 1) 0) (2 * w) i = true then c.getD i 0 else 0) c.length := by
  have h7 := (validB_len ok.hv).2
  unfold voZ
  rw [if_pos h0, show (2 * (w : Int)) = ((2 * w : Nat) : Int) by omega, ← votP_all ok.pl, votP_isum ok.srt ok.pl]
  have := isum_cut (f := fun i => if vB g (ls.getD (w - 1) 0) (2 * w) i = true then c.getD i 0 else 0) (7 - c.length) c.length (fun i hi => by
    split
    · simp [List.getD, List.getElem?_eq_none hi]
    · rfl)
  rw [← this, show c.length + (7 - c.length) = 7 by omega]
/-- A quorum and the voters for a wave that is committed directly have a member in common. -/
theorem quo_meet {c : List Int} {g : List Vx} {ls : List Int} {w : Nat} (ok : Good21 c g ls) (hd : dirB c g ls w = true) {ps : List Int} (hm : membersB c.length ps = true) (hq : quorumZ c ≤ weightZ c ps) :
    ∃ y ∈ g, y.r = 2 * (w : Int) ∧ y.a ∈ ps ∧ ls.getD (w - 1) 0 ∈ y.ps := by
  have h0 := dir_has ok.hv hd
  have hd := of_decide_eq_true hd
  rw [voZ_isum ok h0] at hd
  rw [weight_isum c _ ps (ascP_of hm)] at hq
  have hbd := totalZ_bd ok.hv
  unfold quorumZ at hq
  by_cases he : ∃ i, i < c.length ∧ hasB ps i = true ∧ vB g (ls.getD (w - 1) 0) (2 * w) i = true
  · obtain ⟨i, hi, h1, h2⟩ := he
    obtain ⟨y, hy, yr, ya, hl⟩ := vB_of h2
    exact ⟨y, hy, by omega, by rw [ya]; exact of_decide_eq_true h1, hl⟩
  · have hle : isum (fun i => wAt c ps i + (if vB g (ls.getD (w - 1) 0) (2 * w) i = true then c.getD i 0 else 0)) c.length ≤ isum (fun i => c.getD i 0) c.length := isum_le fun i hi => by
      have hc := c_nonneg ok.hv i hi
      have hn : ¬ (hasB ps i = true ∧ vB g (ls.getD (w - 1) 0) (2 * w) i = true) := fun h => he ⟨i, hi, h.1, h.2⟩
      unfold wAt
      by_cases h1 : hasB ps i = true
      · rw [if_pos h1, if_neg (fun h => hn ⟨h1, h⟩)]; omega
      · rw [if_neg h1]
        split <;> omega
    rw [isum_add, isum_total] at hle
    omega

/-- One vertex is reached from another by way of parents. -/
inductive Rch (g : List Vx) : Vx → Vx → Prop where
  | refl (x : Vx) : Rch g x x
  | step {x z y : Vx} (hz : z ∈ g) (hr : z.r = x.r - 1) (ha : z.a ∈ x.ps) (h : Rch g z y) : Rch g x y
theorem Rch.snoc {g : List Vx} {x y z : Vx} (h : Rch g x y) (hz : z ∈ g) (hr : z.r = y.r - 1) (ha : z.a ∈ y.ps) : Rch g x z := by
  induction h with
  | refl x => exact .step hz hr ha (.refl _)
  | step h1 h2 h3 _ ih => exact .step h1 h2 h3 (ih hr ha)
/-- The past of a vertex is what it reaches. -/
theorem past_rch {c : List Int} {g : List Vx} (h : graphB c g = true) {a b : Nat} (ha : a < g.length) (hb : b < g.length) : (pastB g a).getD b false = true ↔ Rch g g[a] g[b] := by
  have hs := graph_sorted h
  obtain ⟨hcl, hca, _⟩ := past_closed h ha
  constructor
  · have key : ∀ n b, (hb : b < g.length) → g.length - b ≤ n → (pastB g a).getD b false = true → Rch g g[a] g[b] := by
      intro n
      induction n with
      | zero => intro b hb hn; omega
      | succ n ih =>
        intro b hb hn hbt
        by_cases e : b = a
        · subst e; exact .refl _
        · obtain ⟨i, hi, hji, hbi, _, er, ep⟩ := past_least h ha b hbt e
          exact (ih i hi (by omega) hbi).snoc (List.getElem_mem hb) (by omega) ep
    exact key (g.length - b) b hb (Nat.le_refl _)
  · have key : ∀ x y, Rch g x y → ∀ i (hi : i < g.length), g[i] = x → (pastB g a).getD i false = true → ∀ j (hj : j < g.length), g[j] = y → (pastB g a).getD j false = true := by
      intro x y hr
      induction hr with
      | refl x =>
        intro i hi e hbt j hj e2
        rwa [pair_uni hs hi hj (by rw [e, e2]) (by rw [e, e2])] at hbt
      | @step x z y hz hzr hza _ ih =>
        intro i hi e hbt j hj e2
        subst e
        obtain ⟨k, hk, ek⟩ := List.mem_iff_getElem.1 hza
        have h1 := hcl i hi (Nat.zero_le _) hbt k hk
        obtain ⟨m, hm, em, em2⟩ := findZ_mem hs hz
        rw [ek, ← hzr, em, Int.toNat_natCast] at h1
        exact ih m hm em2 h1 j hj e2
    intro hr
    exact key _ _ hr a ha rfl hca b hb rfl

/-- What a wave's leader vertex is, as an index. -/
theorem ld_at {g : List Vx} {ls : List Int} {w : Nat} (h : 0 ≤ ldZ g ls w) : ∃ j, ∃ hj : j < g.length, ldZ g ls w = (j : Int) ∧ g[j].r = 2 * (w : Int) - 1 ∧ g[j].a = ls.getD (w - 1) 0 := by
  rcases findZ_cases g (2 * (w : Int) - 1) (ls.getD (w - 1) 0) with ⟨e, _⟩ | ⟨j, hj, e, hsm, _⟩
  · exact absurd (show ldZ g ls w = -1 from e) (by omega)
  · have h2 : g[j].r = 2 * (w : Int) - 1 ∧ g[j].a = ls.getD (w - 1) 0 := of_decide_eq_true hsm
    exact ⟨j, hj, e, h2.1, h2.2⟩
/-- Every later vertex reaches the leader vertex of a wave that is committed directly. -/
theorem dir_reach {c : List Int} {g : List Vx} {ls : List Int} {w : Nat} (ok : Good21 c g ls) (hvx : ∀ y ∈ g, vtxB c y = true) (hw : 1 ≤ w) (hd : dirB c g ls w = true) {L : Vx} (hL : L ∈ g) (hLr : L.r = 2 * (w : Int) - 1) (hLa : L.a = ls.getD (w - 1) 0) :
    ∀ (n : Nat) (v : Vx), v ∈ g → v.r = 2 * (w : Int) + 1 + n → Rch g v L := by
  have quo : ∀ v ∈ g, 1 ≤ v.r → membersB c.length v.ps = true ∧ quorumZ c ≤ weightZ c v.ps := by
    intro v hv h1
    have := hvx v hv
    unfold vtxB quoB at this
    simp only [Bool.and_eq_true] at this
    rw [if_neg (by omega)] at this
    exact ⟨this.2.2.1, of_decide_eq_true this.2.2.2.2⟩
  intro n
  induction n with
  | zero =>
    intro v hv hr
    obtain ⟨hm, hq⟩ := quo v hv (by omega)
    obtain ⟨y, hy, yr, ya, yl⟩ := quo_meet ok hd hm hq
    exact .step hy (by omega) ya (.step hL (by omega) (by rw [hLa]; exact yl) (.refl _))
  | succ n ih =>
    intro v hv hr
    obtain ⟨hm, hq⟩ := quo v hv (by omega)
    have hne : v.ps ≠ [] := by
      intro e
      rw [e] at hq
      have : weightZ c [] = 0 := rfl
      have hbd := totalZ_bd ok.hv
      unfold quorumZ at hq
      omega
    obtain ⟨p, hp⟩ := List.exists_mem_of_ne_nil _ hne
    obtain ⟨z, hz, zr, za⟩ := ok.par v hv p hp
    exact .step hz zr (by rw [za]; exact hp) (ih z hz (by omega))
theorem dir_link {c : List Int} {g : List Vx} {ls : List Int} (ok : Good21 c g ls) (m u : Nat) (hm : 1 ≤ m) (hd : dirB c g ls m = true) (hmu : m < u) (hu : 0 ≤ ldZ g ls u) : lkB g ls u m = true := by
  obtain ⟨j, hj, ej, rj, aj⟩ := ld_at (dir_has ok.hv hd)
  obtain ⟨k, hk, ek, rk, ak⟩ := ld_at hu
  have hr := dir_reach ok (graph_vtx ok.gb) hm hd (List.getElem_mem hj) rj aj (2 * u - 2 - 2 * m) g[k] (List.getElem_mem hk) (by omega)
  unfold lkB linkB
  rw [ej, ek, Int.toNat_natCast, (past_rch ok.gb hk hj).2 hr]
  simp
/-- The committed waves are the whole chain back from the last one that is committed directly. -/
theorem cw_full {c : List Int} {g : List Vx} {ls : List Int} (ok : Good21 c g ls) (m : Nat) : (wvs c g ls m).1 = if (wvs c g ls m).2 = 0 then [] else (fuW (lkB g ls) (wvs c g ls m).2).map Int.ofNat :=
  wvs_full ok.hv (fun m u h1 h2 h3 h4 => dir_link ok m u h1 h2 h3 h4) m

/-- The votes, whether or not there is a leader vertex: without it nobody refers to it. -/
theorem vo_all {c : List Int} {g : List Vx} {ls : List Int} (ok : Good21 c g ls) (w : Nat) : voZ c g ls w = votTo c (ls.getD (w - 1) 0) (2 * (w : Int)) g g.length := by
  unfold voZ
  by_cases h0 : 0 ≤ ldZ g ls w
  · rw [if_pos h0]
  · rw [if_neg h0]
    have hz : ∀ l : List Vx, (∀ y ∈ l, y ∈ g) → (l.map (votC c (ls.getD (w - 1) 0) (2 * (w : Int)))).sum = 0 := by
      intro l
      induction l with
      | nil => intro _; rfl
      | cons y l ih =>
        intro hl
        rw [List.map_cons, List.sum_cons, ih fun z hz => hl z (List.mem_cons_of_mem _ hz)]
        have hy := hl y (by simp)
        unfold votC
        rw [if_neg]
        · omega
        · rintro ⟨hr, hh⟩
          obtain ⟨z, hz, zr, za⟩ := ok.par y hy _ (of_decide_eq_true hh)
          obtain ⟨j, hj, ej, _⟩ := findZ_mem ok.srt hz
          have : ldZ g ls w = j := by unfold ldZ; rw [← ej, zr, za, hr]
          omega
    unfold votTo
    rw [List.take_length]
    exact (hz g fun y hy => hy).symm

theorem hasB_idx {bs : List Bool} {n j : Nat} (hj : j < n) (h : bs.getD j false = true) : hasB (idxTo bs n) (j : Int) = true := by
  unfold hasB idxTo
  refine decide_eq_true (List.mem_map.2 ⟨j, List.mem_filter.2 ⟨List.mem_range.2 hj, h⟩, rfl⟩)
/-- What is committed, element by element. -/
structure CwOk (c : List Int) (g : List Vx) (ls : List Int) (O : List Nat) : Prop where
  ok : waB c g ls = true
  asc : O.Pairwise (· < ·)
  mem : ∀ y ∈ O, 1 ≤ y ∧ y ≤ ls.length ∧ 0 ≤ ldZ g ls y
  lkd : Lkd (lkB g ls) O
  last : ∀ h : O ≠ [], dirB c g ls (O.getLast h) = true
  all : ∀ w, 1 ≤ w → w ≤ ls.length → dirB c g ls w = true → w ∈ O
theorem getLast_snoc {l : List Nat} {x : Nat} (h : l ++ [x] ≠ []) : (l ++ [x]).getLast h = x := by simp
theorem cw_ok {c : List Int} {g : List Vx} {ls : List Int} (ok : waB c g ls = true) (hps : ∀ x ∈ g, x.ps.length ≤ 1099511627776) : ∃ O : List Nat, cwZ c g ls = O.map Int.ofNat ∧ CwOk c g ls O := by
  have gk := good21 ok hps
  have hl := wvs_last (c := c) (g := g) (ls := ls) ls.length
  have hf := cw_full gk ls.length
  have hcw : cwZ c g ls = (wvs c g ls ls.length).1 := by unfold cwZ; rw [if_pos ok]
  by_cases h0 : (wvs c g ls ls.length).2 = 0
  · rw [if_pos h0] at hf
    refine ⟨[], by rw [hcw, hf]; rfl, ok, .nil, (fun y hy => by cases hy), trivial, (fun h => absurd rfl h), fun w h1 h2 h3 => ?_⟩
    have := hl.2.2 w h1 h2 h3
    omega
  · rw [if_neg h0] at hf
    have hd := hl.2.1.resolve_left h0
    have hh := dir_has gk.hv hd
    have hlk : ∀ u x, lkB g ls u x = true → 0 ≤ ldZ g ls x := fun u x => lk_has
    refine ⟨_, by rw [hcw, hf], ok, fuW_asc hlk (by omega), fun y hy => ?_, fuW_lkd _, fun h => ?_, fun w h1 h2 h3 => ?_⟩
    · have := fuW_mem (has := fun u => 0 ≤ ldZ g ls u) hlk (by omega) hh y hy
      exact ⟨this.1, by omega, this.2.2⟩
    · rw [show (fuW (lkB g ls) (wvs c g ls ls.length).2).getLast h = (wvs c g ls ls.length).2 from getLast_snoc h]
      exact hd
    · have hw := hl.2.2 w h1 h2 h3
      have hp := fuW_pre (has := fun u => 0 ≤ ldZ g ls u) hlk h1 hw (fun u hu hh => dir_link gk w u h1 h3 hu hh) hh
      exact hp.subset (by unfold fuW; simp)
theorem cw_none {c : List Int} {g : List Vx} {ls : List Int} (h : waB c g ls = false) : cwZ c g ls = [] := by unfold cwZ; rw [h]; rfl
theorem wl_at {c : List Int} {g : List Vx} {ls : List Int} {y : Nat} (ok : waB c g ls = true) (h1 : 1 ≤ y) (h2 : y ≤ ls.length) : wlZ c g ls (y : Int) = ldZ g ls y ∧ wdB c g ls (y : Int) = dirB c g ls y ∧ wvZ c g ls (y : Int) = voZ c g ls y := by
  have hwl : wlB c g ls (y : Int) = true := by unfold wlB; rw [ok, decide_eq_true ⟨by omega, by omega⟩]; rfl
  refine ⟨?_, ?_, ?_⟩
  · unfold wlZ; rw [hwl]; simp
  · unfold wdB dirB; rw [hwl]; simp
  · unfold wvZ; rw [hwl]; simp

theorem cw_laws {c : List Int} {g : List Vx} {ls : List Int} (h0 : ¬ (cwZ c g ls).length = 0) (hps : ∀ x ∈ g, x.ps.length ≤ 1099511627776) :
    (∀ i, i < (cwZ c g ls).length → 0 ≤ wlZ c g ls ((cwZ c g ls).getD i 0)) ∧ (∀ i, i < (cwZ c g ls).length → 0 < i → (cwZ c g ls).getD (i - 1) 0 < (cwZ c g ls).getD i 0) ∧ wdB c g ls ((cwZ c g ls).getD ((cwZ c g ls).length - 1) 0) = true := by
  cases hw : waB c g ls with
  | false => rw [cw_none hw] at h0; exact absurd rfl h0
  | true =>
  obtain ⟨O, hO, ok⟩ := cw_ok hw hps
  have hl : (cwZ c g ls).length = O.length := by rw [hO]; simp
  have hat : ∀ i (h : i < O.length), (cwZ c g ls).getD i 0 = ((O[i] : Nat) : Int) := fun i h => by rw [getD_get (by omega)]; simp [hO]
  refine ⟨fun i h => ?_, fun i h hi => ?_, ?_⟩
  · have hm := ok.mem _ (List.getElem_mem (show i < O.length by omega))
    rw [hat i (by omega), (wl_at hw hm.1 hm.2.1).1]; exact hm.2.2
  · rw [hat i (by omega), hat (i - 1) (by omega)]
    have := List.pairwise_iff_getElem.1 ok.asc (i - 1) i (by omega) (by omega) (by omega)
    omega
  · have hne : O ≠ [] := by intro e; rw [e] at hl; exact h0 hl
    have hm := ok.mem _ (List.getElem_mem (show (cwZ c g ls).length - 1 < O.length by omega))
    rw [hat _ (by omega), (wl_at hw hm.1 hm.2.1).2.1]
    have := ok.last hne
    rw [List.getLast_eq_getElem] at this
    simpa [hl] using this

theorem cw_links {c : List Int} {g : List Vx} {ls : List Int} (hps : ∀ x ∈ g, x.ps.length ≤ 1099511627776) (i : Nat) (hi : i < (cwZ c g ls).length) (h0 : 0 < i) :
    ∃ k : Nat, (cwZ c g ls).getD i 0 = (k : Int) ∧ 1 ≤ k ∧ k ≤ ls.length ∧ k ≤ 15 ∧ hasB (gpZ c g (2 * (k : Int) - 1) (ls.getD (k - 1) 0)) (wlZ c g ls ((cwZ c g ls).getD (i - 1) 0)) = true := by
  cases hw : waB c g ls with
  | false => rw [cw_none hw] at hi; simp at hi
  | true =>
  obtain ⟨O, hO, ok⟩ := cw_ok hw hps
  have gk := good21 hw hps
  have hl : (cwZ c g ls).length = O.length := by rw [hO]; simp
  have hat : ∀ i (h : i < O.length), (cwZ c g ls).getD i 0 = ((O[i] : Nat) : Int) := fun i h => by rw [getD_get (by omega)]; simp [hO]
  have hm := ok.mem _ (List.getElem_mem (show i < O.length by omega))
  have hm' := ok.mem _ (List.getElem_mem (show i - 1 < O.length by omega))
  have h15 := gk.l15
  refine ⟨O[i]'(by omega), hat i (by omega), hm.1, hm.2.1, by omega, ?_⟩
  rw [hat (i - 1) (by omega), (wl_at hw hm'.1 hm'.2.1).1]
  have hlk := lkd_at O ok.lkd (i - 1) (by omega)
  have e : O[i - 1 + 1]'(by omega) = O[i]'(by omega) := by congr 1; omega
  rw [e] at hlk
  unfold lkB linkB at hlk
  obtain ⟨j, hj, ej, _⟩ := ld_at hm'.2.2
  rw [ej] at hlk ⊢
  simp only [Bool.and_eq_true] at hlk
  have hgp : gpZ c g (2 * ((O[i]'(by omega) : Nat) : Int) - 1) (ls.getD ((O[i]'(by omega)) - 1) 0) = idxTo (pastB g (ldZ g ls (O[i]'(by omega)))) g.length := by unfold gpZ; rw [if_pos gk.gb]; rfl
  rw [hgp]
  exact hasB_idx hj hlk.2

theorem cw_reach {c : List Int} {g : List Vx} {ls : List Int} (hgb : graphB c g = true) (hps : ∀ x ∈ g, x.ps.length ≤ 1099511627776) (k : Nat) (hk : k < g.length) (m : Nat) (hm : 1 ≤ m) (hm2 : m ≤ ls.length) (hr : 2 * (m : Int) < g[k].r) (hd : wdB c g ls (m : Int) = true) :
    hasB (gpZ c g g[k].r g[k].a) (wlZ c g ls (m : Int)) = true := by
  have hw : waB c g ls = true := (wl_ok (by unfold wdB at hd; simp only [Bool.and_eq_true] at hd; exact hd.1)).1
  have gk := good21 hw hps
  obtain ⟨e1, e2, _⟩ := wl_at hw hm hm2
  rw [e2] at hd
  obtain ⟨j, hj, ej, rj, aj⟩ := ld_at (dir_has gk.hv hd)
  have hrch := dir_reach gk (graph_vtx gk.gb) hm hd (List.getElem_mem hj) rj aj (g[k].r - 2 * (m : Int) - 1).toNat g[k] (List.getElem_mem hk) (by omega)
  have hfz : findZ g g[k].r g[k].a = k := by
    obtain ⟨i, hi, e, e3⟩ := findZ_mem gk.srt (List.getElem_mem hk)
    rw [e, pair_uni gk.srt hi hk (by rw [e3]) (by rw [e3])]
  rw [e1, ej, show gpZ c g g[k].r g[k].a = idxTo (pastB g k) g.length by unfold gpZ; rw [if_pos hgb, hfz]]
  exact hasB_idx hj ((past_rch hgb hk hj).2 hrch)

end Go.Proofs.YtjaacdapibokiaaGreatDoor

/- What a part of a graph commits is a first part of what the whole commits; so is what fewer leaders commit; plain facts, nothing here speaks of the program. -/
namespace Go.Proofs.YtjaacdapibokiaaGreatDoor
open Go.RowKit

/-! fewer leaders -/
theorem ldZ_take {g : List Vx} {ls : List Int} {k w : Nat} (h1 : 1 ≤ w) (h2 : w ≤ k) : ldZ g (ls.take k) w = ldZ g ls w ∧ (ls.take k).getD (w - 1) 0 = ls.getD (w - 1) 0 := by
  have e : (ls.take k).getD (w - 1) 0 = ls.getD (w - 1) 0 := by
    simp only [List.getD_eq_getElem?_getD]
    rw [List.getElem?_take_of_lt (by omega)]
  exact ⟨by unfold ldZ; rw [e], e⟩
theorem chZ_take {g : List Vx} {ls : List Int} {k lo : Nat} : ∀ (x : Nat) (ch : List Int) (at' : Int), x ≤ k → chZ g (ls.take k) lo x ch at' = chZ g ls lo x ch at'
  | 0, _, _, _ => rfl
  | x + 1, ch, at', h => by
    have e := (ldZ_take (g := g) (ls := ls) (k := k) (w := x + 1) (by omega) h).1
    have el : linkB g (ls.take k) at' (x + 1) = linkB g ls at' (x + 1) := by unfold linkB; rw [e]
    unfold chZ
    rw [el, e, chZ_take x _ _ (by omega), chZ_take x _ _ (by omega)]
theorem voZ_take {c : List Int} {g : List Vx} {ls : List Int} {k w : Nat} (h1 : 1 ≤ w) (h2 : w ≤ k) : voZ c g (ls.take k) w = voZ c g ls w := by
  obtain ⟨e1, e2⟩ := ldZ_take (g := g) (ls := ls) h1 h2
  unfold voZ
  rw [e1, e2]
theorem wvs_take {c : List Int} {g : List Vx} {ls : List Int} {k : Nat} : ∀ m, m ≤ k → wvs c g (ls.take k) m = wvs c g ls m
  | 0, _ => rfl
  | m + 1, h => by
    have ih := wvs_take (c := c) (g := g) (ls := ls) (k := k) m (by omega)
    unfold wvs
    rw [ih, voZ_take (by omega) h, (ldZ_take (g := g) (ls := ls) (by omega) h).1, chZ_take m _ _ (by omega)]
theorem wvs_mono {c : List Int} {g : List Vx} {ls : List Int} (k : Nat) : ∀ d, (wvs c g ls k).1 <+: (wvs c g ls (k + d)).1
  | 0 => List.prefix_refl _
  | d + 1 => by
    refine (wvs_mono k d).trans ?_
    show _ <+: (wvs c g ls (k + d + 1)).1
    rw [wvs.eq_2]
    split
    · exact List.prefix_refl _
    · exact List.prefix_append _ _
theorem ldsB_take {n : Nat} {ls : List Int} {k : Nat} (h : ldsB n ls = true) : ldsB n (ls.take k) = true := by
  obtain ⟨h15, h6⟩ := ldAt h
  unfold ldsB
  rw [Bool.and_eq_true, decide_eq_true_eq]
  refine ⟨allB_yes (k := (ls.take k).length) (fun j hj => ?_) (by omega), by rw [List.length_take]; omega⟩
  have hj' : j < (ls.take k).length := hj
  unfold okLd
  rw [getD_get hj', List.getElem_take]
  have := h6 j (by rw [List.length_take] at hj'; omega)
  exact decide_eq_true (by omega)
theorem cw_take {c : List Int} {g : List Vx} {ls : List Int} {k : Nat} (hk : k ≤ ls.length) (h : waB c g ls = true) : cwZ c g (ls.take k) <+: cwZ c g ls := by
  have hw : waB c g (ls.take k) = true := by
    unfold waB at h ⊢
    simp only [Bool.and_eq_true] at h ⊢
    exact ⟨h.1, ldsB_take h.2⟩
  unfold cwZ
  rw [if_pos h, if_pos hw, List.length_take, Nat.min_eq_left hk, wvs_take k (Nat.le_refl _)]
  have := wvs_mono (c := c) (g := g) (ls := ls) k (ls.length - k)
  rwa [show k + (ls.length - k) = ls.length by omega] at this

/-! a part of a graph -/
theorem srt_key {g : List Vx} (h : Srt g) {x y : Vx} (hx : x ∈ g) (hy : y ∈ g) (hr : x.r = y.r) (ha : x.a = y.a) : x = y := srt_uni h hx hy hr ha
section
variable {c : List Int} {g g' : List Vx} {ls : List Int} (ok : Good21 c g ls) (ok' : Good21 c g' ls) (hs : ∀ y ∈ g', y ∈ g)
include ok ok' hs
omit ok' in
theorem ld_part {u : Nat} (h : 0 ≤ ldZ g' ls u) : ∃ i, ∃ hi : i < g'.length, ∃ j, ∃ hj : j < g.length, ldZ g' ls u = (i : Int) ∧ ldZ g ls u = (j : Int) ∧ g'[i] = g[j] := by
  obtain ⟨i, hi, ei, ri, ai⟩ := ld_at h
  have hm := hs _ (List.getElem_mem hi)
  obtain ⟨j, hj, ej, e2⟩ := findZ_mem ok.srt hm
  exact ⟨i, hi, j, hj, ei, by unfold ldZ; rw [← ri, ← ai]; exact ej, e2.symm⟩
theorem rch_part {x y : Vx} (hx : x ∈ g') : Rch g' x y ↔ Rch g x y := by
  constructor
  · intro h
    clear hx
    induction h with
    | refl x => exact .refl _
    | step hz hr ha _ ih => exact .step (hs _ hz) hr ha ih
  · intro h
    induction h with
    | refl x => exact .refl _
    | @step x z y hz hr ha _ ih =>
      obtain ⟨z', hz', hr', ha'⟩ := ok'.par x hx z.a ha
      have e : z' = z := srt_uni ok.srt (hs _ hz') hz (by omega) ha'
      subst e
      exact .step hz' hr' ha (ih hz')
theorem rch_in {x y : Vx} (hx : x ∈ g') (h : Rch g x y) : y ∈ g' := by
  induction h with
  | refl x => exact hx
  | @step x z y hz hr ha _ ih =>
    obtain ⟨z', hz', hr', ha'⟩ := ok'.par x hx z.a ha
    have e : z' = z := srt_uni ok.srt (hs _ hz') hz (by omega) ha'
    subst e
    exact ih hz'
theorem lk_part (u x : Nat) (h : 0 ≤ ldZ g' ls u) : lkB g' ls u x = lkB g ls u x := by
  obtain ⟨i, hi, j, hj, ei, ej, e⟩ := ld_part ok hs h
  rw [Bool.eq_iff_iff]
  unfold lkB linkB
  rw [ei, ej]
  simp only [Bool.and_eq_true, decide_eq_true_eq]
  constructor
  · rintro ⟨h0, h1⟩
    obtain ⟨a, ha, b, hb, ea, eb, e2⟩ := ld_part ok hs h0
    rw [ea, Int.toNat_natCast] at h1
    rw [eb, Int.toNat_natCast]
    refine ⟨by omega, (past_rch ok.gb hj hb).2 ?_⟩
    have := (past_rch ok'.gb hi ha).1 h1
    rw [rch_part ok ok' hs (List.getElem_mem hi), e, e2] at this
    exact this
  · rintro ⟨h0, h1⟩
    obtain ⟨b, hb, eb, rb, ab⟩ := ld_at h0
    rw [eb, Int.toNat_natCast] at h1
    have hr := (past_rch ok.gb hj hb).1 h1
    rw [← e] at hr
    have hin := rch_in ok ok' hs (List.getElem_mem hi) hr
    obtain ⟨a, ha, ea, e3⟩ := findZ_mem ok'.srt hin
    have ea' : ldZ g' ls x = a := by unfold ldZ; rw [← rb, ← ab]; exact ea
    rw [ea', Int.toNat_natCast]
    refine ⟨by omega, (past_rch ok'.gb hi ha).2 ?_⟩
    rw [rch_part ok ok' hs (List.getElem_mem hi), e3]
    exact hr
theorem dir_part {w : Nat} (h : dirB c g' ls w = true) : dirB c g ls w = true := by
  have h0' := dir_has ok'.hv h
  obtain ⟨i, hi, j, hj, ei, ej, e⟩ := ld_part ok hs h0'
  have hle : voZ c g' ls w ≤ voZ c g ls w := by
    rw [voZ_isum ok' h0', voZ_isum ok (by omega)]
    refine isum_le fun a ha => ?_
    have hc := c_nonneg ok.hv a ha
    by_cases h1 : vB g' (ls.getD (w - 1) 0) (2 * w) a = true
    · have h2 : vB g (ls.getD (w - 1) 0) (2 * w) a = true := by
        obtain ⟨y, hy, yr, ya, hl⟩ := vB_of h1
        unfold vB
        exact List.any_eq_true.2 ⟨y, hs y hy, by rw [decide_eq_true ⟨yr, ya⟩, show hasB y.ps _ = true from decide_eq_true hl]; rfl⟩
      rw [if_pos h1, if_pos h2]; exact Int.le_refl _
    · rw [if_neg h1]; split <;> omega
  have := of_decide_eq_true h
  exact decide_eq_true (by omega)
theorem cw_part' : (wvs c g' ls ls.length).1 <+: (wvs c g ls ls.length).1 := by
  have hf := cw_full ok ls.length
  have hf' := cw_full ok' ls.length
  have hl := wvs_last (c := c) (g := g) (ls := ls) ls.length
  have hl' := wvs_last (c := c) (g := g') (ls := ls) ls.length
  by_cases h0' : (wvs c g' ls ls.length).2 = 0
  · rw [hf', if_pos h0']; exact List.nil_prefix
  · have hd' := hl'.2.1.resolve_left h0'
    have hd := dir_part ok ok' hs hd'
    have hle := hl.2.2 _ (by omega) hl'.1 hd
    have h0 : ¬ (wvs c g ls ls.length).2 = 0 := by omega
    have hdl := hl.2.1.resolve_left h0
    rw [hf, hf', if_neg h0, if_neg h0']
    have he : fuW (lkB g' ls) (wvs c g' ls ls.length).2 = fuW (lkB g ls) (wvs c g' ls ls.length).2 := by
      unfold fuW
      rw [chF_same (has' := fun u => 0 ≤ ldZ g' ls u) (fun u x => lk_has) (fun u x h => lk_part ok ok' hs u x h) 0 _ _ (dir_has ok'.hv hd')]
    rw [he]
    exact (fuW_pre (has := fun u => 0 ≤ ldZ g ls u) (fun u x => lk_has) (by omega) hle (fun u hu hh => dir_link ok _ u (by omega) hd hu hh) (dir_has ok.hv hdl)).map _
end
/-- What a part of a graph commits is a first part of what the graph commits. -/
theorem cw_part {c : List Int} {g g' : List Vx} {ls : List Int} (hgb : graphB c g = true) (hps : ∀ x ∈ g, x.ps.length ≤ 1099511627776) (hs : ∀ y ∈ g', y ∈ g) : cwZ c g' ls <+: cwZ c g ls := by
  cases hw' : waB c g' ls with
  | false => rw [cw_none hw']; exact List.nil_prefix
  | true =>
    have hw : waB c g ls = true := by
      unfold waB at hw' ⊢
      simp only [Bool.and_eq_true] at hw' ⊢
      exact ⟨hgb, hw'.2⟩
    have := cw_part' (good21 hw hps) (good21 hw' fun x hx => hps x (hs x hx)) hs
    unfold cwZ
    rw [if_pos hw, if_pos hw']
    exact this

/-- prefixInts. -/
def preB (a b : List Int) : Bool := decide (a.length ≤ b.length) && eqB a (b.take a.length)
theorem preB_of {a b : List Int} (h : a <+: b) : preB a b = true := by
  unfold preB
  rw [decide_eq_true h.length_le, ← List.prefix_iff_eq_take.1 h]
  exact decide_eq_true rfl
theorem preB_two {a b o : List Int} (ha : a <+: o) (hb : b <+: o) : preB a b = true ∨ preB b a = true := by
  by_cases h : a.length ≤ b.length
  · exact .inl (preB_of (List.prefix_of_prefix_length_le ha hb h))
  · exact .inr (preB_of (List.prefix_of_prefix_length_le hb ha (by omega)))

end Go.Proofs.YtjaacdapibokiaaGreatDoor

/- The order of vertices: which wave orders a vertex and in which order they stand; plain facts on lists, nothing here is walked. -/
namespace Go.Proofs.YtjaacdapibokiaaGreatDoor
open Go.RowKit

/-- Vertex k lies in the past of wave w's leader and not beyond the horizon. -/
def hitB (g : List Vx) (ls : List Int) (w k : Nat) : Bool := (pastB g (ldZ g ls w)).getD k false && decide (2 * (w : Int) - 7 ≤ (g.getD k vx0).r)
/-- The wave that orders vertex k, or 0. -/
def owN (g : List Vx) (ls : List Int) (O : List Nat) (k : Nat) : Nat := (O.find? fun w => hitB g ls w k).getD 0
/-- The places of the ordered vertices, in their order. -/
def ordI (g : List Vx) (ls : List Int) (O : List Nat) : List Nat := O.flatMap fun w => (List.range g.length).filter fun k => owN g ls O k == w
/-- The wave's leader vertex. -/
def ldV (g : List Vx) (ls : List Int) (w : Nat) : Vx := g.getD (ldZ g ls w).toNat vx0

section
variable {g : List Vx} {ls : List Int} {O : List Nat}
theorem ow_find {k : Nat} (h : owN g ls O k ≠ 0) : owN g ls O k ∈ O ∧ hitB g ls (owN g ls O k) k = true := by
  unfold owN at h ⊢
  cases e : O.find? fun w => hitB g ls w k with
  | none => rw [e] at h; exact absurd rfl h
  | some w => exact ⟨List.mem_of_find?_eq_some e, List.find?_some (p := fun w => hitB g ls w k) e⟩
theorem ow_le : ∀ {O : List Nat}, O.Pairwise (· < ·) → ∀ {w k : Nat}, w ∈ O → hitB g ls w k = true → owN g ls O k ≤ w ∧ (owN g ls O k ∈ O)
  | [], _, w, k, hw, _ => by cases hw
  | a :: r, hs, w, k, hw, hh => by
    obtain ⟨h1, h2⟩ := List.pairwise_cons.1 hs
    by_cases ha : hitB g ls a k = true
    · have e : owN g ls (a :: r) k = a := by unfold owN; simp [List.find?, ha]
      rw [e]
      rcases List.mem_cons.1 hw with rfl | hw
      · exact ⟨Nat.le_refl _, by simp⟩
      · exact ⟨Nat.le_of_lt (h1 w hw), by simp⟩
    · have e : owN g ls (a :: r) k = owN g ls r k := by unfold owN; simp [List.find?, ha]
      rw [e]
      rcases List.mem_cons.1 hw with rfl | hw
      · exact absurd hh ha
      · obtain ⟨h3, h4⟩ := ow_le h2 hw hh
        exact ⟨h3, List.mem_cons_of_mem _ h4⟩
theorem ord_mem (h1 : ∀ w ∈ O, 1 ≤ w) {k : Nat} : k ∈ ordI g ls O ↔ k < g.length ∧ owN g ls O k ≠ 0 := by
  unfold ordI
  simp only [List.mem_flatMap, List.mem_filter, List.mem_range, beq_iff_eq]
  constructor
  · rintro ⟨w, hw, hk, e⟩
    exact ⟨hk, by have := h1 w hw; omega⟩
  · rintro ⟨hk, h⟩
    exact ⟨_, (ow_find h).1, hk, rfl⟩
/-- Waves ascend, and within a wave the places do. -/
theorem ord_asc : ∀ {O' : List Nat}, O'.Pairwise (· < ·) → (O'.flatMap fun w => (List.range g.length).filter fun k => owN g ls O k == w).Pairwise fun a b => owN g ls O a < owN g ls O b ∨ owN g ls O a = owN g ls O b ∧ a < b
  | [], _ => by simp
  | w :: r, hs => by
    obtain ⟨h1, h2⟩ := List.pairwise_cons.1 hs
    rw [List.flatMap_cons]
    refine List.pairwise_append.2 ⟨?_, ord_asc h2, ?_⟩
    · refine List.Pairwise.imp_of_mem ?_ ((List.pairwise_lt_range).filter _)
      intro a b ha hb hab
      have ea : owN g ls O a = w := by simpa using (List.mem_filter.1 ha).2
      have eb : owN g ls O b = w := by simpa using (List.mem_filter.1 hb).2
      exact .inr ⟨by omega, hab⟩
    · intro a ha b hb
      have ea : owN g ls O a = w := by simpa using (List.mem_filter.1 ha).2
      obtain ⟨v, hv, hb⟩ := List.mem_flatMap.1 hb
      have eb : owN g ls O b = v := by simpa using (List.mem_filter.1 hb).2
      exact .inl (by have := h1 v hv; omega)
theorem ord_nodup (hs : O.Pairwise (· < ·)) : (ordI g ls O).Nodup := (ord_asc (O := O) (g := g) (ls := ls) hs).imp fun {a b} h e => by subst e; omega
end

section
variable {c : List Int} {g : List Vx} {ls : List Int} {O : List Nat} (ok : Good21 c g ls) (cw : CwOk c g ls O)
include ok
theorem hit_iff {w k : Nat} (h0 : 0 ≤ ldZ g ls w) (hk : k < g.length) : hitB g ls w k = true ↔ Rch g (ldV g ls w) g[k] ∧ 2 * (w : Int) - 7 ≤ g[k].r := by
  obtain ⟨j, hj, ej, _, _⟩ := ld_at h0
  unfold hitB ldV
  rw [ej, Int.toNat_natCast, getV hj, getV hk, Bool.and_eq_true, decide_eq_true_eq, past_rch ok.gb hj hk]
omit ok in
theorem ldV_at {w : Nat} (h0 : 0 ≤ ldZ g ls w) : ldV g ls w ∈ g ∧ (ldV g ls w).r = 2 * (w : Int) - 1 ∧ (ldV g ls w).a = ls.getD (w - 1) 0 := by
  obtain ⟨j, hj, ej, er, ea⟩ := ld_at h0
  unfold ldV
  rw [ej, Int.toNat_natCast, getV hj]
  exact ⟨List.getElem_mem hj, er, ea⟩
omit ok in
theorem rch_round {x y : Vx} (h : Rch g x y) : y.r ≤ x.r := by
  induction h with
  | refl => exact Int.le_refl _
  | step _ hr _ _ ih => omega
include cw
/-- P89: what the past of a committed leader holds up to the horizon is ordered. -/
theorem ord_past {w k : Nat} (hw : w ∈ O) (hk : k < g.length) (hr : Rch g (ldV g ls w) g[k]) (hh : 2 * (w : Int) - 7 ≤ g[k].r) : k ∈ ordI g ls O ∧ owN g ls O k ≤ w := by
  obtain ⟨h1, h2⟩ := ow_le cw.asc hw ((hit_iff ok (cw.mem w hw).2.2 hk).2 ⟨hr, hh⟩)
  exact ⟨(ord_mem fun v hv => (cw.mem v hv).1).2 ⟨hk, by have := (cw.mem _ h2).1; omega⟩, h1⟩
/-- The leader of a committed wave is ordered by its own wave. -/
theorem ow_leader {w j : Nat} (hw : w ∈ O) (hj : j < g.length) (e : g[j] = ldV g ls w) : owN g ls O j = w := by
  have h0 := (cw.mem w hw).2.2
  obtain ⟨_, er, _⟩ := ldV_at h0
  have hit : hitB g ls w j = true := (hit_iff ok h0 hj).2 ⟨by rw [e]; exact .refl _, by rw [e, er]; omega⟩
  obtain ⟨h1, h2⟩ := ow_le cw.asc hw hit
  have hne : owN g ls O j ≠ 0 := by have := (cw.mem _ h2).1; omega
  have h3 := (ow_find hne).2
  have h4 := ((hit_iff ok (cw.mem _ h2).2.2 hj).1 h3).1
  have h5 := rch_round h4
  have h6 := (ldV_at (cw.mem _ h2).2.2).2.1
  rw [e, er, h6] at h5
  omega
/-- P88: a parent that is ordered too is ordered first. -/
theorem ord_causal {i j : Nat} (hi : i < g.length) (hj : j < g.length) (hr : g[j].r = g[i].r - 1) (ha : g[j].a ∈ g[i].ps) (hoi : owN g ls O i ≠ 0) (hoj : owN g ls O j ≠ 0) : owN g ls O j < owN g ls O i ∨ owN g ls O j = owN g ls O i ∧ j < i := by
  obtain ⟨hwi, hti⟩ := ow_find hoi
  obtain ⟨hwj, htj⟩ := ow_find hoj
  obtain ⟨p1, p2⟩ := (hit_iff ok (cw.mem _ hwi).2.2 hi).1 hti
  obtain ⟨q1, q2⟩ := (hit_iff ok (cw.mem _ hwj).2.2 hj).1 htj
  have hrj : Rch g (ldV g ls (owN g ls O i)) g[j] := p1.snoc (List.getElem_mem hj) hr ha
  have hle : owN g ls O j ≤ owN g ls O i := by
    by_cases h : 2 * (owN g ls O i : Int) - 7 ≤ g[j].r
    · exact (ow_le cw.asc hwi ((hit_iff ok (cw.mem _ hwi).2.2 hj).2 ⟨hrj, h⟩)).1
    · omega
  rcases Nat.lt_or_ge (owN g ls O j) (owN g ls O i) with h | h
  · exact .inl h
  · refine .inr ⟨by omega, ?_⟩
    rcases Nat.lt_trichotomy j i with h2 | h2 | h2
    · exact h2
    · subst h2; omega
    · have := befB_iff.1 (List.pairwise_iff_getElem.1 ok.srt i j hi hj h2); omega
/-- P93: the parents of a committed leader are ordered. -/
theorem ord_parents {w : Nat} (hw : w ∈ O) {p : Int} (hp : p ∈ (ldV g ls w).ps) : ∃ j, ∃ hj : j < g.length, g[j].r = 2 * (w : Int) - 2 ∧ g[j].a = p ∧ j ∈ ordI g ls O := by
  have h0 := (cw.mem w hw).2.2
  obtain ⟨hm, er, _⟩ := ldV_at h0
  obtain ⟨z, hz, ezr, eza⟩ := ok.par _ hm p hp
  obtain ⟨j, hj, rfl⟩ := List.mem_iff_getElem.1 hz
  refine ⟨j, hj, by omega, eza, (ord_past ok cw hw hj (.step (List.getElem_mem hj) ezr (by rw [eza]; exact hp) (.refl _)) (by omega)).1⟩
end

end Go.Proofs.YtjaacdapibokiaaGreatDoor

/- The order of a part of a graph is a first part of the graph's; plain facts on lists, nothing here is walked. -/
namespace Go.Proofs.YtjaacdapibokiaaGreatDoor
open Go.RowKit

theorem srtx_irr {x : Vx} (h : befB x x = true) : False := by have := befB_iff.1 h; omega
theorem srtx_ext : ∀ {a b : List Vx}, Srt a → Srt b → (∀ x, x ∈ a ↔ x ∈ b) → a = b
  | [], [], _, _, _ => rfl
  | [], y :: b, _, _, h => by have := (h y).2 (by simp); cases this
  | x :: a, [], _, _, h => by have := (h x).1 (by simp); cases this
  | x :: a, y :: b, ha, hb, h => by
    obtain ⟨ha1, ha2⟩ := List.pairwise_cons.1 ha
    obtain ⟨hb1, hb2⟩ := List.pairwise_cons.1 hb
    have e : x = y := by
      rcases List.mem_cons.1 ((h x).1 (by simp)) with e | e
      · exact e
      · rcases List.mem_cons.1 ((h y).2 (by simp)) with e2 | e2
        · exact e2.symm
        · exact (srtx_irr (bef_trans (ha1 y e2) (hb1 x e))).elim
    subst e
    congr 1
    refine srtx_ext ha2 hb2 fun z => ⟨fun hz => ?_, fun hz => ?_⟩
    · rcases List.mem_cons.1 ((h z).1 (List.mem_cons_of_mem _ hz)) with e | e
      · subst e; exact (srtx_irr (ha1 z hz)).elim
      · exact e
    · rcases List.mem_cons.1 ((h z).2 (List.mem_cons_of_mem _ hz)) with e | e
      · subst e; exact (srtx_irr (hb1 z hz)).elim
      · exact e
/-- The vertices that wave w orders. -/
def segV (g : List Vx) (ls : List Int) (O : List Nat) (w : Nat) : List Vx := ((List.range g.length).filter fun k => owN g ls O k == w).map fun k => g.getD k vx0
/-- The ordered vertices. -/
def ordV (g : List Vx) (ls : List Int) (O : List Nat) : List Vx := (ordI g ls O).map fun k => g.getD k vx0
theorem ordV_seg (g : List Vx) (ls : List Int) (O : List Nat) : ordV g ls O = O.flatMap (segV g ls O) := by
  unfold ordV ordI segV
  rw [List.map_flatMap]
theorem seg_mem {g : List Vx} {ls : List Int} {O : List Nat} {w : Nat} {x : Vx} : x ∈ segV g ls O w ↔ ∃ k, ∃ hk : k < g.length, g[k] = x ∧ owN g ls O k = w := by
  unfold segV
  simp only [List.mem_map, List.mem_filter, List.mem_range, beq_iff_eq]
  constructor
  · rintro ⟨k, ⟨hk, e⟩, rfl⟩; exact ⟨k, hk, (getV hk).symm, e⟩
  · rintro ⟨k, hk, rfl, e⟩; exact ⟨k, ⟨hk, e⟩, getV hk⟩
theorem seg_srt {g : List Vx} {ls : List Int} {O : List Nat} {w : Nat} (h : Srt g) : Srt (segV g ls O w) := by
  unfold segV
  refine List.pairwise_map.2 (List.Pairwise.imp_of_mem ?_ ((List.pairwise_lt_range).filter _))
  intro a b ha hb hab
  have hal : a < g.length := List.mem_range.1 (List.mem_filter.1 ha).1
  have hbl : b < g.length := List.mem_range.1 (List.mem_filter.1 hb).1
  rw [getV hal, getV hbl]
  exact List.pairwise_iff_getElem.1 h a b hal hbl hab
theorem flat_congr {α β : Type} {f h : α → List β} : ∀ (l : List α), (∀ w ∈ l, f w = h w) → l.flatMap f = l.flatMap h
  | [], _ => rfl
  | a :: r, e => by rw [List.flatMap_cons, List.flatMap_cons, e a (by simp), flat_congr r fun w hw => e w (List.mem_cons_of_mem _ hw)]
theorem ow_first {g : List Vx} {ls : List Int} {O R : List Nat} {k w : Nat} (h : owN g ls O k = w) (hw : w ≠ 0) : owN g ls (O ++ R) k = w := by
  unfold owN at h ⊢
  rw [List.find?_append]
  cases e : O.find? fun w => hitB g ls w k with
  | none => rw [e] at h; exact absurd h.symm hw
  | some v => rw [e] at h; simpa using h
theorem ow_back {g : List Vx} {ls : List Int} {O R : List Nat} {k w : Nat} (h : owN g ls (O ++ R) k = w) (hw : w ∈ O) (h1 : 1 ≤ w) : owN g ls O k = w := by
  have hh : hitB g ls w k = true := by
    have := (ow_find (O := O ++ R) (g := g) (ls := ls) (k := k) (by omega)).2
    rwa [h] at this
  unfold owN at h ⊢
  rw [List.find?_append] at h
  cases e : O.find? fun w => hitB g ls w k with
  | none => exact absurd hh (by have := List.find?_eq_none.1 e w hw; simpa using this)
  | some v => rw [e] at h; simpa using h
section
variable {c : List Int} {g g' : List Vx} {ls : List Int} (ok : Good21 c g ls) (ok' : Good21 c g' ls) (hs : ∀ y ∈ g', y ∈ g)
include ok ok' hs
theorem hit_same {u i j : Nat} (h0 : 0 ≤ ldZ g' ls u) (hi : i < g'.length) (hj : j < g.length) (e : g'[i] = g[j]) : hitB g' ls u i = hitB g ls u j := by
  obtain ⟨i0, hi0, j0, hj0, ei, ej, e0⟩ := ld_part ok hs h0
  have hl : ldV g' ls u = ldV g ls u := by unfold ldV; rw [ei, ej, Int.toNat_natCast, Int.toNat_natCast, getV hi0, getV hj0]; exact e0
  rw [Bool.eq_iff_iff, hit_iff ok' h0 hi, hit_iff ok (by omega) hj, hl, e, rch_part ok ok' hs (by rw [← hl]; exact (ldV_at h0).1)]
theorem find_same {O : List Nat} {i j : Nat} (hO : ∀ u ∈ O, 0 ≤ ldZ g' ls u) (hi : i < g'.length) (hj : j < g.length) (e : g'[i] = g[j]) : owN g' ls O i = owN g ls O j := by
  unfold owN
  have : ∀ (l : List Nat), (∀ u ∈ l, 0 ≤ ldZ g' ls u) → l.find? (fun w => hitB g' ls w i) = l.find? (fun w => hitB g ls w j) := by
    intro l
    induction l with
    | nil => intro _; rfl
    | cons a r ih =>
      intro h
      have ha := hit_same ok ok' hs (h a (by simp)) hi hj e
      simp only [List.find?, ha, ih fun u hu => h u (List.mem_cons_of_mem _ hu)]
  rw [this O hO]
theorem seg_part {O R : List Nat} (h1 : ∀ u ∈ O, 1 ≤ u ∧ 0 ≤ ldZ g' ls u) {w : Nat} (hw : w ∈ O) : segV g' ls O w = segV g ls (O ++ R) w := by
  have hw0 := (h1 w hw).1
  refine srtx_ext (seg_srt ok'.srt) (seg_srt ok.srt) fun x => ?_
  rw [seg_mem, seg_mem]
  constructor
  · rintro ⟨i, hi, rfl, ew⟩
    obtain ⟨j, hj, e⟩ := List.mem_iff_getElem.1 (hs _ (List.getElem_mem hi))
    refine ⟨j, hj, e, ow_first ?_ (by omega)⟩
    rw [← find_same ok ok' hs (fun u hu => (h1 u hu).2) hi hj e.symm]
    exact ew
  · rintro ⟨j, hj, rfl, ew⟩
    have eb := ow_back ew hw hw0
    have hh := (ow_find (O := O) (g := g) (ls := ls) (k := j) (by omega)).2
    rw [eb] at hh
    obtain ⟨i0, hi0, j0, hj0, ei, ej, e0⟩ := ld_part ok hs (h1 w hw).2
    have hL : ldV g ls w ∈ g' := by unfold ldV; rw [ej, Int.toNat_natCast, getV hj0, ← e0]; exact List.getElem_mem hi0
    have hr := ((hit_iff ok (by omega) hj).1 hh).1
    obtain ⟨i, hi, e⟩ := List.mem_iff_getElem.1 (rch_in ok ok' hs hL hr)
    exact ⟨i, hi, e, by rw [find_same ok ok' hs (fun u hu => (h1 u hu).2) hi hj e]; exact eb⟩
/-- P86, P87: the order of a part is a first part of the graph's order. -/
theorem ord_part {O O' : List Nat} (h1 : ∀ u ∈ O', 1 ≤ u ∧ 0 ≤ ldZ g' ls u) (hp : O' <+: O) : ordV g' ls O' <+: ordV g ls O := by
  obtain ⟨R, rfl⟩ := hp
  rw [ordV_seg, ordV_seg, List.flatMap_append, flat_congr O' fun w hw => seg_part ok ok' hs (R := R) h1 hw]
  exact List.prefix_append _ _
end

end Go.Proofs.YtjaacdapibokiaaGreatDoor

/- The order of vertices by places: each place once, waves ascend, leaders in the order of waves; plain facts on lists, nothing here is walked. -/
namespace Go.Proofs.YtjaacdapibokiaaGreatDoor
open Go.RowKit

section
variable {c : List Int} {g : List Vx} {ls : List Int} {O : List Nat} (ok : Good21 c g ls) (cw : CwOk c g ls O)
include cw
theorem ordI_lt {i : Nat} (hi : i < (ordI g ls O).length) : (ordI g ls O)[i] < g.length ∧ owN g ls O (ordI g ls O)[i] ≠ 0 := (ord_mem fun v hv => (cw.mem v hv).1).1 (List.getElem_mem hi)
/-- P92: the waves of the ordered vertices never decrease, and within a wave the places ascend. -/
theorem ordI_asc {i j : Nat} (hij : i < j) (hj : j < (ordI g ls O).length) : owN g ls O ((ordI g ls O)[i]'(by omega)) < owN g ls O (ordI g ls O)[j] ∨ owN g ls O ((ordI g ls O)[i]'(by omega)) = owN g ls O (ordI g ls O)[j] ∧ (ordI g ls O)[i]'(by omega) < (ordI g ls O)[j] :=
  List.pairwise_iff_getElem.1 (ord_asc (O := O) (g := g) (ls := ls) cw.asc) i j (by show i < (ordI g ls O).length; omega) hj hij
include ok
/-- P84: no slot twice. -/
theorem ordI_once {i j : Nat} (hij : i < j) (hj : j < (ordI g ls O).length) : ∀ (h1 : (ordI g ls O)[i]'(by omega) < g.length) (h2 : (ordI g ls O)[j] < g.length), ¬ (g[(ordI g ls O)[i]'(by omega)].r = g[(ordI g ls O)[j]].r ∧ g[(ordI g ls O)[i]'(by omega)].a = g[(ordI g ls O)[j]].a) := by
  intro h1 h2 e
  have ha := ordI_asc cw hij hj
  generalize (ordI g ls O)[i]'(by omega) = a at *
  generalize (ordI g ls O)[j] = b at *
  have hab : a ≠ b := fun e2 => by subst e2; omega
  rcases Nat.lt_or_gt_of_ne hab with h | h
  · have := befB_iff.1 (List.pairwise_iff_getElem.1 ok.srt a b h1 h2 h); omega
  · have := befB_iff.1 (List.pairwise_iff_getElem.1 ok.srt b a h2 h1 h); omega
/-- Where the leader of the m-th committed wave stands in the order. -/
def posO (g : List Vx) (ls : List Int) (O : List Nat) (m : Nat) : Nat := (ordI g ls O).findIdx fun k => k == (ldZ g ls (O.getD m 0)).toNat
theorem pos_at {m : Nat} (hm : m < O.length) : ∃ h : posO g ls O m < (ordI g ls O).length, ((ordI g ls O)[posO g ls O m] : Nat) = ldZ g ls O[m] ∧ owN g ls O (ordI g ls O)[posO g ls O m] = O[m] := by
  have hw := List.getElem_mem hm
  obtain ⟨j, hj, ej, er, ea⟩ := ld_at (cw.mem _ hw).2.2
  have hl : g[j] = ldV g ls O[m] := by unfold ldV; rw [ej, Int.toNat_natCast, getV hj]
  have how := ow_leader ok cw hw hj hl
  have hin : j ∈ ordI g ls O := (ord_mem fun v hv => (cw.mem v hv).1).2 ⟨hj, by have := (cw.mem _ hw).1; omega⟩
  have hg : O.getD m 0 = O[m] := by simp [List.getD, List.getElem?_eq_getElem hm]
  have hp : posO g ls O m < (ordI g ls O).length := by
    unfold posO
    refine List.findIdx_lt_length_of_exists ⟨j, hin, ?_⟩
    rw [hg, ej, Int.toNat_natCast]; simp
  have he : (ordI g ls O)[posO g ls O m] = j := by
    have := List.findIdx_getElem (xs := ordI g ls O) (p := fun k => k == (ldZ g ls (O.getD m 0)).toNat) (w := hp)
    exact (beq_iff_eq.1 this).trans (by rw [hg, ej, Int.toNat_natCast])
  exact ⟨hp, by rw [he, ej], by rw [he]; exact how⟩
theorem pos_asc {m n : Nat} (hmn : m < n) (hn : n < O.length) : posO g ls O m < posO g ls O n := by
  obtain ⟨h1, _, e1⟩ := pos_at ok cw (show m < O.length by omega)
  obtain ⟨h2, _, e2⟩ := pos_at ok cw hn
  have ha : O[m] < O[n] := List.pairwise_iff_getElem.1 cw.asc m n (by omega) hn hmn
  rcases Nat.lt_trichotomy (posO g ls O m) (posO g ls O n) with h | h | h
  · exact h
  · have e3 : (ordI g ls O)[posO g ls O m] = (ordI g ls O)[posO g ls O n] := by congr 1
    rw [e3, e2] at e1
    omega
  · have := ordI_asc cw h h1
    rw [e1, e2] at this
    omega
/-- P85: behind i vertices, just the first n leaders stand there. -/
def CntO (g : List Vx) (ls : List Int) (O : List Nat) (n i : Nat) : Prop := n ≤ O.length ∧ (∀ m, m < n → posO g ls O m < i) ∧ ∀ m, n ≤ m → m < O.length → i ≤ posO g ls O m
omit ok cw in
theorem cnt_zero : CntO g ls O 0 0 := ⟨Nat.zero_le _, fun m h => by omega, fun m _ _ => Nat.zero_le _⟩
theorem cnt_yes {n i : Nat} (h : CntO g ls O n i) (hn : n < O.length) (e : posO g ls O n = i) : CntO g ls O (n + 1) (i + 1) := by
  refine ⟨hn, fun m hm => ?_, fun m h1 h2 => ?_⟩
  · by_cases e2 : m = n
    · subst e2; omega
    · have := h.2.1 m (by omega); omega
  · have := pos_asc ok cw (show n < m by omega) h2
    omega
omit ok cw in
theorem cnt_no {n i : Nat} (h : CntO g ls O n i) (e : n < O.length → posO g ls O n ≠ i) (ha : ∀ m, n < m → m < O.length → posO g ls O n < posO g ls O m) : CntO g ls O n (i + 1) := by
  refine ⟨h.1, fun m hm => by have := h.2.1 m hm; omega, fun m h1 h2 => ?_⟩
  have h3 := h.2.2 m h1 h2
  have h4 := e (by omega)
  have h5 := h.2.2 n (Nat.le_refl _) (by omega)
  by_cases e2 : m = n
  · subst e2; omega
  · have := ha m (by omega) h2; omega
theorem cnt_end {n : Nat} (h : CntO g ls O n (ordI g ls O).length) : n = O.length := by
  rcases Nat.lt_or_ge n O.length with h1 | h1
  · obtain ⟨h2, _⟩ := pos_at ok cw h1
    have := h.2.2 n (Nat.le_refl _) h1
    omega
  · have := h.1; omega
/-- The i-th slot is that of the n-th wave's leader just where the leader stands. -/
theorem pos_iff {n i : Nat} (hn : n < O.length) (hi : i < (ordI g ls O).length) (hk : (ordI g ls O)[i] < g.length) : (g[(ordI g ls O)[i]].r = 2 * (O[n] : Int) - 1 ∧ g[(ordI g ls O)[i]].a = ls.getD (O[n] - 1) 0) ↔ posO g ls O n = i := by
  have hw := List.getElem_mem hn
  obtain ⟨j, hj, ej, er, ea⟩ := ld_at (cw.mem _ hw).2.2
  obtain ⟨hp, ep, _⟩ := pos_at ok cw hn
  have ep2 : (ordI g ls O)[posO g ls O n] = j := by omega
  constructor
  · rintro ⟨h1, h2⟩
    rcases Nat.lt_trichotomy (posO g ls O n) i with h | h | h
    · exact absurd ⟨by simp only [ep2]; omega, by simp only [ep2]; rw [ea, h2]⟩ (ordI_once ok cw h hi (by rw [ep2]; exact hj) hk)
    · exact h
    · exact absurd ⟨by simp only [ep2]; omega, by simp only [ep2]; rw [ea, h2]⟩ (ordI_once ok cw h hp hk (by rw [ep2]; exact hj))
  · rintro rfl
    simp only [ep2]
    exact ⟨er, ea⟩
end

end Go.Proofs.YtjaacdapibokiaaGreatDoor

/- The order as the reference computes it: wave by wave over all numbers of waves; plain facts on lists, nothing here is walked. -/
namespace Go.Proofs.YtjaacdapibokiaaGreatDoor
open Go.RowKit

theorem flat_skip {β : Type} {f : Nat → List β} : ∀ (n lo : Nat) (O : List Nat), O.Pairwise (· < ·) → (∀ v ∈ O, lo < v ∧ v ≤ lo + n) → (∀ w, lo < w → w ∉ O → f w = []) → (List.range' (lo + 1) n).flatMap f = O.flatMap f
  | 0, lo, O, _, hb, _ => by
    cases O with
    | nil => rfl
    | cons a r => have := hb a (by simp); omega
  | n + 1, lo, O, hs, hb, hf => by
    rw [List.range'_succ, List.flatMap_cons]
    cases O with
    | nil => rw [hf (lo + 1) (by omega) (by simp), List.nil_append]; exact flat_skip n (lo + 1) [] .nil (by simp) fun w h _ => hf w (by omega) (by simp)
    | cons a r =>
      obtain ⟨h1, h2⟩ := List.pairwise_cons.1 hs
      have ha := hb a (by simp)
      by_cases e : a = lo + 1
      · subst e
        rw [List.flatMap_cons, flat_skip n (lo + 1) r h2 (fun v hv => ⟨h1 v hv, by have := (hb v (List.mem_cons_of_mem _ hv)).2; omega⟩) fun w h hw => hf w (by omega) fun h3 => by
          rcases List.mem_cons.1 h3 with h4 | h4
          · omega
          · exact hw h4]
      · rw [hf (lo + 1) (by omega) (fun h3 => by
          rcases List.mem_cons.1 h3 with h4 | h4
          · exact e h4.symm
          · have := h1 _ h4; omega), List.nil_append]
        exact flat_skip n (lo + 1) (a :: r) hs (fun v hv => ⟨by
          rcases List.mem_cons.1 hv with rfl | h4
          · omega
          · have := h1 v h4; omega, by have := (hb v hv).2; omega⟩) fun w h hw => hf w (by omega) hw
theorem ordI_range {g : List Vx} {ls : List Int} {O : List Nat} (hs : O.Pairwise (· < ·)) (hb : ∀ v ∈ O, 1 ≤ v ∧ v ≤ ls.length) : ordI g ls O = (List.range' 1 ls.length).flatMap fun w => (List.range g.length).filter fun k => owN g ls O k == w := by
  unfold ordI
  refine (flat_skip ls.length 0 O hs (fun v hv => by have := hb v hv; omega) fun w hw hn => ?_).symm
  rw [List.filter_eq_nil_iff]
  intro k _ e
  have e2 : owN g ls O k = w := by simpa using e
  exact hn (e2 ▸ (ow_find (by omega)).1)
/-- One more wave's vertices, one vertex after the other. -/
theorem ow_step {g : List Vx} {ls : List Int} {O : List Nat} (w k : Nat) : (List.range (k + 1)).filter (fun k => owN g ls O k == w) = (List.range k).filter (fun k => owN g ls O k == w) ++ (if owN g ls O k == w then [k] else []) := by
  rw [List.range_succ, List.filter_append]
  congr 1
  cases h : owN g ls O k == w <;> simp [h]
/-- A wave more: what is not ordered yet and is hit by it is ordered by it. -/
theorem ow_snoc {g : List Vx} {ls : List Int} {O : List Nat} {w k : Nat} (h1 : ∀ v ∈ O, 1 ≤ v) : owN g ls (O ++ [w]) k = if owN g ls O k = 0 ∧ hitB g ls w k = true then w else owN g ls O k := by
  unfold owN
  rw [List.find?_append]
  cases e : O.find? fun w => hitB g ls w k with
  | some v =>
    have := h1 v (List.mem_of_find?_eq_some e)
    simp only [Option.some_or, Option.getD_some]
    rw [if_neg (fun h => by omega)]
  | none =>
    by_cases hh : hitB g ls w k = true
    · simp [List.find?, hh]
    · simp [List.find?, hh]

end Go.Proofs.YtjaacdapibokiaaGreatDoor

/- Lists by a function of the place; the waves of all vertices as the reference keeps them; plain facts and lists of the call's own. -/
namespace Go.Proofs.YtjaacdapibokiaaGreatDoor
open Go.RowKit

def fnL (n : Nat) (f : Nat → Int) : List Int := (List.range n).map f
theorem fnL_len (n : Nat) (f : Nat → Int) : (fnL n f).length = n := by simp [fnL]
theorem fnL_get {n : Nat} {f : Nat → Int} {k : Nat} (h : k < (fnL n f).length) : (fnL n f)[k] = f k := by simp [fnL]
theorem fnL_set (n : Nat) (f : Nat → Int) (k : Nat) (v : Int) : (fnL n f).set k v = fnL n fun j => if j = k then v else f j := by
  apply List.ext_getElem
  · simp [fnL]
  · intro j h1 h2
    rw [List.getElem_set]
    by_cases e : k = j
    · subst e; simp [fnL]
    · have e' : ¬ j = k := fun h => e h.symm
      simp [fnL, e, e']
theorem fnL_congr {n : Nat} {f f' : Nat → Int} (h : ∀ k, k < n → f k = f' k) : fnL n f = fnL n f' := by
  unfold fnL
  exact List.map_congr_left fun k hk => h k (List.mem_range.1 hk)
theorem own_zeros (E : TypeId) (w : World) (n : Nat) (hm : n ≤ maxLen) : Own E (w.alloc (.cells (madeCells #[.int .i64 0] n) E)) w.heap.size (.slice (some ⟨w.heap.size, 0, none⟩) n n) (fnL n fun _ => 0) := by
  have h1 : (fnL n fun _ => 0).map (Value.int .i64) = (madeCells #[.int .i64 0] n).toList := by
    rw [toList_madeCells_one]
    apply List.ext_getElem
    · simp [fnL]
    · intro j h1 h2; simp [fnL]
  unfold Own
  rw [h1, fnL_len]
  exact World.ownsRow_lit w (madeCells #[.int .i64 0] n) n (Nat.le_refl _) hm (by simp [madeCells])
/-- The waves of all vertices. -/
def owL (g : List Vx) (ls : List Int) (O : List Nat) : List Int := fnL g.length fun k => (owN g ls O k : Int)
/-- Behind the first k vertices of one more wave. -/
def owM (g : List Vx) (ls : List Int) (O : List Nat) (w k : Nat) : List Int := fnL g.length fun j => if j < k then (owN g ls (O ++ [w]) j : Int) else owN g ls O j
theorem owM_zero (g : List Vx) (ls : List Int) (O : List Nat) (w : Nat) : owM g ls O w 0 = owL g ls O := fnL_congr fun k _ => by rw [if_neg (by omega)]
theorem owM_end (g : List Vx) (ls : List Int) (O : List Nat) (w : Nat) : owM g ls O w g.length = owL g ls (O ++ [w]) := fnL_congr fun k hk => by rw [if_pos hk]
theorem owM_get {g : List Vx} {ls : List Int} {O : List Nat} {w k : Nat} (h : k < g.length) : (owM g ls O w k).getD k 0 = (owN g ls O k : Int) := by
  unfold owM fnL; simp [List.getD, h]
theorem owM_yes {g : List Vx} {ls : List Int} {O : List Nat} {w k : Nat} (hO : ∀ v ∈ O, 1 ≤ v) (e : owN g ls O k = 0) (hh : hitB g ls w k = true) : (owM g ls O w k).set k (w : Int) = owM g ls O w (k + 1) := by
  unfold owM
  rw [fnL_set]
  refine fnL_congr fun j hj => ?_
  by_cases e1 : j = k
  · subst e1; rw [if_pos rfl, if_pos (by omega), ow_snoc hO, if_pos ⟨e, hh⟩]
  · rw [if_neg e1]
    by_cases e2 : j < k
    · rw [if_pos e2, if_pos (by omega)]
    · rw [if_neg e2, if_neg (by omega)]
theorem owM_no {g : List Vx} {ls : List Int} {O : List Nat} {w k : Nat} (hO : ∀ v ∈ O, 1 ≤ v) (e : ¬ (owN g ls O k = 0 ∧ hitB g ls w k = true)) : owM g ls O w k = owM g ls O w (k + 1) := by
  unfold owM
  refine fnL_congr fun j hj => ?_
  by_cases e1 : j = k
  · subst e1; rw [if_neg (by omega), if_pos (by omega), ow_snoc hO, if_neg e]
  · by_cases e2 : j < k
    · rw [if_pos e2, if_pos (by omega)]
    · rw [if_neg e2, if_neg (by omega)]
/-- Behind the first k vertices of the m-th number of waves. -/
def orK (g : List Vx) (ls : List Int) (O : List Nat) (w k : Nat) : List Nat := ((List.range' 1 (w - 1)).flatMap fun w => (List.range g.length).filter fun k => owN g ls O k == w) ++ (List.range k).filter fun k => owN g ls O k == w
theorem orK_zero (g : List Vx) (ls : List Int) (O : List Nat) : orK g ls O 1 0 = [] := rfl
theorem orK_yes {g : List Vx} {ls : List Int} {O : List Nat} {w k : Nat} (e : owN g ls O k = w) : orK g ls O w (k + 1) = orK g ls O w k ++ [k] := by
  unfold orK; rw [ow_step, List.append_assoc, if_pos (by simp [e])]
theorem orK_no {g : List Vx} {ls : List Int} {O : List Nat} {w k : Nat} (e : owN g ls O k ≠ w) : orK g ls O w (k + 1) = orK g ls O w k := by
  unfold orK; rw [ow_step, if_neg (by simp [e]), List.append_nil]
theorem orK_row {g : List Vx} {ls : List Int} {O : List Nat} {w : Nat} (hw : 1 ≤ w) : orK g ls O w g.length = orK g ls O (w + 1) 0 := by
  obtain ⟨m, rfl⟩ : ∃ m, w = m + 1 := ⟨w - 1, by omega⟩
  unfold orK
  simp only [Nat.add_sub_cancel, List.range_zero, List.filter_nil, List.append_nil]
  rw [List.range'_1_concat, List.flatMap_append, List.flatMap_singleton, Nat.add_comm 1 m]
theorem orK_end {g : List Vx} {ls : List Int} {O : List Nat} (hs : O.Pairwise (· < ·)) (hb : ∀ v ∈ O, 1 ≤ v ∧ v ≤ ls.length) : orK g ls O (ls.length + 1) 0 = ordI g ls O := by
  rw [ordI_range hs hb]
  unfold orK
  simp
theorem orK_len {g : List Vx} {ls : List Int} {O : List Nat} : ∀ (w k : Nat), k ≤ g.length → (orK g ls O w k).length ≤ (w - 1) * g.length + k := by
  intro w k hk
  unfold orK
  rw [List.length_append]
  have h1 : ((List.range k).filter fun k => owN g ls O k == w).length ≤ k := by
    have := List.length_filter_le (fun k => owN g ls O k == w) (List.range k); simpa using this
  have h2 : ∀ m, ((List.range' 1 m).flatMap fun w => (List.range g.length).filter fun k => owN g ls O k == w).length ≤ m * g.length := by
    intro m
    induction m with
    | zero => simp
    | succ m ih =>
      rw [List.range'_1_concat, List.flatMap_append, List.length_append, List.flatMap_singleton]
      have := List.length_filter_le (fun k => owN g ls O k == 1 + m) (List.range g.length)
      rw [List.length_range] at this
      rw [Nat.succ_mul]; omega
  have := h2 (w - 1)
  omega

end Go.Proofs.YtjaacdapibokiaaGreatDoor

/- What the functions of chapter 22 answer; plain facts, nothing here is walked. -/
namespace Go.Proofs.YtjaacdapibokiaaGreatDoor
open Go.RowKit

/-- The committed waves, as numbers from 1 on. -/
def cwN (c : List Int) (g : List Vx) (ls : List Int) : List Nat := (cwZ c g ls).map Int.toNat
/-- The places of the ordered vertices, in their order. -/
def osI (c : List Int) (g : List Vx) (ls : List Int) : List Nat := if waB c g ls = true then ordI g ls (cwN c g ls) else []
def slA (g : List Vx) (k : Nat) : Int × Int := ((g.getD k vx0).r, (g.getD k vx0).a)
def osS (c : List Int) (g : List Vx) (ls : List Int) : List (Int × Int) := (osI c g ls).map (slA g)
def osD (c : List Int) (g : List Vx) (ls : List Int) : List Int := (osI c g ls).map fun k => (g.getD k vx0).d
/-- The wave that orders a vertex, 0, or -1. -/
def owZ (c : List Int) (g : List Vx) (ls : List Int) (r a : Int) : Int := if waB c g ls = true ∧ 0 ≤ findZ g r a then (owN g ls (cwN c g ls) (findZ g r a).toNat : Int) else -1
theorem cwN_of {c : List Int} {g : List Vx} {ls : List Int} {O : List Nat} (h : cwZ c g ls = O.map Int.ofNat) : cwN c g ls = O := by
  unfold cwN; rw [h, List.map_map]
  exact (List.map_congr_left fun x _ => by simp).trans (List.map_id O)
theorem cwN_ok {c : List Int} {g : List Vx} {ls : List Int} (ok : waB c g ls = true) (hps : ∀ x ∈ g, x.ps.length ≤ 1099511627776) : cwZ c g ls = (cwN c g ls).map Int.ofNat ∧ CwOk c g ls (cwN c g ls) := by
  obtain ⟨O, h1, h2⟩ := cw_ok ok hps
  rw [cwN_of h1]; exact ⟨h1, h2⟩
theorem osI_yes {c : List Int} {g : List Vx} {ls : List Int} (ok : waB c g ls = true) : osI c g ls = ordI g ls (cwN c g ls) := if_pos ok
theorem osI_no {c : List Int} {g : List Vx} {ls : List Int} (ok : waB c g ls = false) : osI c g ls = [] := if_neg (by rw [ok]; simp)
theorem osS_no {c : List Int} {g : List Vx} {ls : List Int} (ok : waB c g ls = false) : osS c g ls = [] := by unfold osS; rw [osI_no ok]; rfl
theorem osS_len (c : List Int) (g : List Vx) (ls : List Int) : (osS c g ls).length = (osI c g ls).length := by unfold osS; simp
theorem osD_len (c : List Int) (g : List Vx) (ls : List Int) : (osD c g ls).length = (osI c g ls).length := by unfold osD; simp
theorem ordI_len {g : List Vx} {ls : List Int} {O : List Nat} (hs : O.Pairwise (· < ·)) (h1 : ∀ v ∈ O, 1 ≤ v) : (ordI g ls O).length ≤ g.length := by
  have hnd := ord_nodup (g := g) (ls := ls) hs
  have hb : ∀ k ∈ ordI g ls O, k ∈ List.range g.length := fun k hk => List.mem_range.2 ((ord_mem h1).1 hk).1
  have := hnd.length_le_of_subset (l₂ := List.range g.length) hb
  simpa using this
theorem osI_len {c : List Int} {g : List Vx} {ls : List Int} (hps : ∀ x ∈ g, x.ps.length ≤ 1099511627776) : (osI c g ls).length ≤ g.length := by
  unfold osI
  split
  · rename_i ok
    have h := (cwN_ok ok hps).2
    exact ordI_len h.asc fun v hv => (h.mem v hv).1
  · simp
theorem osI_lt {c : List Int} {g : List Vx} {ls : List Int} (hps : ∀ x ∈ g, x.ps.length ≤ 1099511627776) : ∀ k ∈ osI c g ls, k < g.length := by
  intro k hk
  unfold osI at hk
  split at hk
  · rename_i ok
    have h := (cwN_ok ok hps).2
    exact ((ord_mem fun v hv => (h.mem v hv).1).1 hk).1
  · cases hk
/-- The same as the vertices, wave by wave. -/
theorem osS_ordV {c : List Int} {g : List Vx} {ls : List Int} (ok : waB c g ls = true) : osS c g ls = (ordV g ls (cwN c g ls)).map fun v => (v.r, v.a) := by
  unfold osS ordV
  rw [osI_yes ok, List.map_map]; rfl
theorem osD_ordV {c : List Int} {g : List Vx} {ls : List Int} (ok : waB c g ls = true) : osD c g ls = (ordV g ls (cwN c g ls)).map fun v => v.d := by
  unfold osD ordV
  rw [osI_yes ok, List.map_map]; rfl

end Go.Proofs.YtjaacdapibokiaaGreatDoor

/- An owned list as the source of an append; a general step, nothing here speaks of the program. -/
namespace Go.Proofs.YtjaacdapibokiaaGreatDoor
open Go.RowKit

theorem own_src {E : TypeId} {w : World} {B n c : Nat} {a : Option Addr} {xs : List Int} (h : Own E w B (.slice a n c) xs) : SrcAt w a c xs := by
  obtain ⟨a', c', e, _, hs, _⟩ := h.src
  cases e
  exact hs

end Go.Proofs.YtjaacdapibokiaaGreatDoor

/- The reference's committed waves, by walks of its texts; condition: the graph has at most 2^20 vertices. -/
namespace Go.Proofs.YtjaacdapibokiaaGreatDoor
open Go.RowKit

theorem TIw : IntT Tryz.prog 23 3 := ⟨Tryz.underlying23, by kernel_rfl⟩

set_option maxHeartbeats 8000000 in
set_option maxRecDepth 8000 in
theorem spec_l21Waves (ac : Option Addr) (capc : Nat) (c : List Int) (g : List Vx) (v : Value) (fp : List Nat) (al : Option Addr) (cap : Nat) (ls : List Int) (w : World) (hgb : graphB c g = true) (hlb : ls.length ≤ 15) (hbig : g.length ≤ 1048576) (hps : ∀ x ∈ g, x.ps.length ≤ 1099511627776) (hc : IntsAt w ac c) (hg : Gr w g v fp) (hi : IntsAt w al ls) :
    Calls Tryz.prog 67 #[.slice ac c.length capc, v, .slice al ls.length cap] w fun e w' => ∃ u, e = .returned u ∧ Own 3 w' w.heap.size u (wvs c g ls ls.length).1 ∧ Below w.heap.size w w' := by
  have hv : validB c = true := by have h := hgb; unfold graphB at h; simp only [Bool.and_eq_true] at h; exact h.1
  have hb0 : Below w.heap.size w (w.alloc (.cells #[] 3)) := (Below.refl _ _).alloc (Nat.le_refl _) _
  have Ho := Lib.hid (own_empty 3 w (Nat.le_refl w.heap.size))
  have hz0 : (w.alloc (.cells #[] 3)).heap.size = w.heap.size + 1 := by simp
  have HV := Lib.hid (fun m hm W (hb : Below w.heap.size w W) => spec_l21Votes ac capc c g v fp al cap ls m W hgb (by omega) hps hm hlb (hc.below hb) (hg.under hb) (hi.below hb))
  have HS := Lib.hid (fun W (hb : Below w.heap.size w W) => spec_l1Support ac capc c W hv (hc.below hb))
  have HL := Lib.hid (fun m hm W (hb : Below w.heap.size w W) => spec_l21Leader g v fp al cap ls m W (by omega) hm hlb (hg.under hb) (hi.below hb))
  have HP := Lib.hid (fun at' ha W (hb : Below w.heap.size w W) => spec_l11Past c g v fp at' W hgb hbig hps ha (hg.under hb))
  have Hb0 := Lib.hid hb0
  clear hc hg hi hps hb0 hgb hv
  go_enter Tryz.func67, Tryz.ntmps67
  go_wp2
  go_loopw [7, 8, 9] (fun o la i wr => ∃ m : Nat, 1 ≤ m ∧ m ≤ ls.length + 1 ∧ i = .int .i64 m ∧ la = .int .i64 ((wvs c g ls (m - 1)).2 : Nat) ∧ Own 3 wr w.heap.size o (wvs c g ls (m - 1)).1 ∧ Below w.heap.size w wr) (fun _ _ i _ => ls.length + 1 - (intOf i).toNat)
  case atStart => exact ⟨1, by omega, by omega, rfl, rfl, Ho.out, Hb0.out⟩
  case round =>
    obtain ⟨m, hm1, hm2, rfl, rfl, ho, hb⟩ := hrel
    have hwl := wvs_len (c := c) (g := g) (ls := ls) (m - 1)
    clear Ho Hb0 hz0
    have Ho := Lib.hid ho; have Hb := Lib.hid hb
    clear ho hb
    by_cases hlt : m ≤ ls.length
    · have hlt' : (m : Int) ≤ (ls.length : Int) := by omega
      go_wp2_with fail
      refine (HV.out m ⟨hm1, hlt⟩ wr Hb.out).mono ?_
      rintro e w1 ⟨rfl, hd1⟩
      have Ho1 := Lib.hid (Ho.out.below (hd1.below _))
      have Hb1 := Lib.hid (below_step Hb.out Hb.out.size (hd1.below _))
      clear hd1 Ho Hb
      go_wp2_with fail
      refine (HS.out w1 Hb1.out).mono ?_
      rintro e w2 ⟨rfl, rfl⟩
      by_cases hq : voZ c g ls m < totalZ c / 3 + 1
      · have hn := Lib.hid (wvs_no hm1 hq)
        generalize voZ c g ls m = V at *
        go_wp2
        go_roundw
        case rel => exact ⟨m + 1, by omega, by omega, by go_num, by rw [Nat.add_sub_cancel, hn.out], by rw [Nat.add_sub_cancel, hn.out]; exact Ho1.out, Hb1.out⟩
        case measure => simp [intOf]; omega
      · have hy := wvs_yes hm1 hq
        have Hy1 := Lib.hid (show (wvs c g ls m).1 = (wvs c g ls (m - 1)).1 ++ chZ g ls (wvs c g ls (m - 1)).2 (m - 1) [(m : Int)] (ldZ g ls m) by rw [hy])
        have Hy2 := Lib.hid (show (wvs c g ls m).2 = m by rw [hy])
        clear hy
        generalize voZ c g ls m = V at *
        generalize (wvs c g ls (m - 1)).2 = lo at *
        generalize (wvs c g ls (m - 1)).1 = O at *
        have hcl := chZ_len (g := g) (ls := ls) (lo := lo) (m - 1) [(m : Int)] (ldZ g ls m)
        generalize hCH : chZ g ls lo (m - 1) [(m : Int)] (ldZ g ls m) = CH at *
        have HCH := Lib.hid hCH; clear hCH
        have hal : Below w1.heap.size w1 (w1.alloc (.cells #[.int .i64 m] 3)) := (Below.refl _ _).alloc (Nat.le_refl _) _
        have oc := own_single 3 w1 m
        have hz1 : (w1.alloc (.cells #[.int .i64 m] 3)).heap.size = w1.heap.size + 1 := by simp
        have Hnb := Lib.hid (Ho1.out.lt)
        have hsw := Hb1.out.size
        have Ho2 := Lib.hid (Ho1.out.below hal)
        have Hb2 := Lib.hid (below_step Hb1.out Hb1.out.size hal)
        have Hc2 := Lib.hid oc
        clear oc hal Ho1 Hb1
        go_wp2_with fail
        generalize hw2 : w1.alloc (.cells #[.int .i64 m] 3) = w2 at *
        generalize hNB : w1.heap.size = NB at *
        refine (HL.out m ⟨hm1, hlt⟩ w2 Hb2.out).mono ?_
        rintro e w3 ⟨rfl, rfl⟩
        have Hlc := Lib.hid (ldZ_cases g ls m)
        go_wp2_with fail
        refine (HP.out _ Hlc.out w2 Hb2.out).mono ?_
        rintro e w4 ⟨pv, rfl, hpo, hb4⟩
        have Ho4 := Lib.hid (Ho2.out.below hb4)
        have Hc4 := Lib.hid (Hc2.out.below hb4)
        have Hb4 := Lib.hid (below_step Hb2.out Hb2.out.size hb4)
        have hs4 := hb4.size
        have Hp4 := Lib.hid (hpo.mono (show NB ≤ w2.heap.size by omega))
        clear hb4 hpo Ho2 Hc2 Hb2 hw2
        have hm0 : IntKind.i64.wrap ((m : Int) - 1) = ((m - 1 : Nat) : Int) := by rw [IntWalk.i64_in _ (by omega)]; omega
        go_wp2
        go_loopw [10, 11, 12] (fun ch pa xx wr => ∃ (x : Nat) (C : List Int) (at' : Int), x ≤ m - 1 ∧ xx = .int .i64 x ∧ C.length + x ≤ m ∧ chZ g ls lo x C at' = CH ∧ Own 3 wr NB ch C ∧ OwnB 4 wr NB pa (pastB g at') ∧ Own 3 wr w.heap.size u7 O ∧ Below w.heap.size w wr ∧ NB ≤ wr.heap.size) (fun _ _ xx _ => (intOf xx).toNat)
        case atStart => exact ⟨m - 1, [(m : Int)], ldZ g ls m, by omega, by first | rfl | rw [hm0], by simp; omega, HCH.out, Hc4.out, Hp4.out, Ho4.out, Hb4.out, by omega⟩
        case round =>
          obtain ⟨x, C, at', hx, rfl, hCl, hch, hc5, hp5, ho5, hb5, hn5⟩ := hrel
          have Hc5 := Lib.hid hc5; have Hp5 := Lib.hid hp5; have Ho5 := Lib.hid ho5; have Hb5 := Lib.hid hb5; have Hch := Lib.hid hch
          clear hc5 hp5 ho5 hb5 hch Hc4 Hp4 Ho4 Hb4 hs4 hm0
          obtain ⟨ac5, cc5, rfl, _, _⟩ := Hc5.out.ints
          have hCb : C.length ≤ 15 := by omega
          by_cases hxl : lo < x
          · have hxl' : (lo : Int) < (x : Int) := by omega
            have hx1 : IntKind.i64.wrap ((x : Int) - 1) = ((x - 1 : Nat) : Int) := by rw [IntWalk.i64_in _ (by omega)]; omega
            have Hyes := Lib.hid (fun h => (chZ_yes (g := g) (ls := ls) (ch := C) (at' := at') hxl h).symm.trans Hch.out)
            have Hno := Lib.hid (fun h => (chZ_no (g := g) (ls := ls) (ch := C) (at' := at') hxl h).symm.trans Hch.out)
            have Hlk := Lib.hid (show linkB g ls at' x = (decide (0 ≤ ldZ g ls x) && (pastB g at').getD (ldZ g ls x).toNat false) from rfl)
            have Hpl := Lib.hid (pastB_len g at')
            have Hlc := Lib.hid (ldZ_cases g ls x)
            clear hxl
            go_wp2_with fail
            refine (HL.out x ⟨by omega, by omega⟩ wr Hb5.out).mono ?_
            rintro e w6 ⟨rfl, rfl⟩
            have HPx := Lib.hid (HP.out _ Hlc.out)
            by_cases hz : 0 ≤ ldZ g ls x
            · obtain ⟨j, hj, hje⟩ : ∃ j : Nat, j < g.length ∧ ldZ g ls x = j := by
                rcases Hlc.out with h | h
                · omega
                · exact h
              have Hj := Lib.hid hje
              have hbl : (pastB g at').length = g.length := Hpl.out
              obtain ⟨gp, pc, rfl, _, hgp, _, hcell, _⟩ := Hp5.out.row (by omega)
              have hj0 : j < (pastB g at').length := by omega
              have hcj := hcell j hj0
              have hgj : (pastB g at').getD j false = (pastB g at')[j] := by simp [List.getD, List.getElem?_eq_getElem hj0]
              rw [← hgj] at hcj
              have Hlk2 := Lib.hid (show linkB g ls at' x = (pastB g at').getD j false by rw [Hlk.out, hje]; simp)
              have hz' : decide (0 ≤ (j : Int)) = true := by simp
              have HPj := Lib.hid (HP.out (j : Int) (.inr ⟨j, hj, rfl⟩))
              rw [hje]
              have hjl : (j : Int) < ((pastB g at').length : Int) := by omega
              clear hcell hgj hz Hlk hbl hj0 hje HPx
              cases hbj : (pastB g at').getD j false with
              | true =>
                have Hy := Lib.hid ((Hyes.out (Hlk2.out.trans hbj)).symm ▸ (show chZ g ls lo (x - 1) ((x : Int) :: C) (j : Int) = chZ g ls lo (x - 1) ((x : Int) :: C) (ldZ g ls x) by rw [Hj.out]))
                rw [hbj] at hcj
                clear hbj Hlk2 Hyes Hno
                have hal5 : Below wr.heap.size wr (wr.alloc (.cells #[.int .i64 x] 3)) := (Below.refl _ _).alloc (Nat.le_refl _) _
                have hz5 : (wr.alloc (.cells #[.int .i64 x] 3)).heap.size = wr.heap.size + 1 := by simp
                have Oc := Lib.hid (own_single 3 wr x)
                have Hsr := Lib.hid (own_src (Hc5.out.below hal5))
                have Ho6 := Lib.hid (Ho5.out.below hal5)
                have hsb := Hb5.out.size
                have Hb6 := Lib.hid (below_step Hb5.out Hb5.out.size hal5)
                have Hlt := Lib.hid (fun q e => (Ho5.out.lt q e).2)
                clear hal5
                go_wp2_with (at_builtin; refine wpList_appI TIw rfl _ _ rfl wr.heap.size (.slice (some ⟨wr.heap.size, 0, none⟩) 1 1) [(x : Int)] C ac5 cc5 rfl Oc.out rfl Hsr.out (by simp; omega) (by rw [hz5]; omega) ?_; intro v7 w7 ho7 hg7)
                have hs7 := hg7.size
                have Hb7 := Lib.hid (Hb6.out.grown hg7 (by omega) (fun q e => by cases e; omega))
                have Ho7 := Lib.hid (Ho6.out.kept hg7 (.inr (fun e => by have h9 := Hlt.out wr.heap.size e; omega)))
                have Hc7 := Lib.hid ho7
                clear ho7 hg7 Ho6 Hb6 Hsr Oc
                refine (HPj.out w7 Hb7.out).mono ?_
                rintro e w8 ⟨pv8, rfl, hp8, hb8⟩
                have Ho8 := Lib.hid (Ho7.out.below hb8)
                have Hc8 := Lib.hid ((Hc7.out.below hb8).mono (show NB ≤ wr.heap.size from hn5))
                have Hb8 := Lib.hid (below_step Hb7.out Hb7.out.size hb8)
                have Hp8 := Lib.hid (hp8.mono (show NB ≤ w7.heap.size by omega))
                have hs8 := hb8.size
                clear hp8 hb8
                go_wp2
                go_roundw
                case rel => exact ⟨x - 1, (x : Int) :: C, (j : Int), by omega, by first | rfl | rw [hx1], by rw [List.length_cons]; omega, Hy.out, Hc8.out, Hp8.out, Ho8.out, Hb8.out, by omega⟩
                case measure => simp [intOf]; omega
              | false =>
                have Hn := Lib.hid (Hno.out (Hlk2.out.trans hbj))
                rw [hbj] at hcj
                clear hbj Hlk2 Hyes Hno
                go_wp2
                go_roundw
                case rel => exact ⟨x - 1, C, at', by omega, by first | rfl | rw [hx1], by omega, Hn.out, Hc5.out, Hp5.out, Ho5.out, Hb5.out, hn5⟩
                case measure => simp [intOf]; omega
            · have Hn := Lib.hid (Hno.out (by rw [Hlk.out, decide_eq_false hz]; rfl))
              clear Hyes Hno Hlk
              generalize ldZ g ls x = z at *
              go_wp2
              go_roundw
              case rel => exact ⟨x - 1, C, at', by omega, by first | rfl | rw [hx1], by omega, Hn.out, Hc5.out, Hp5.out, Ho5.out, Hb5.out, hn5⟩
              case measure => simp [intOf]; omega
          · have hCH := (chZ_done (g := g) (ls := ls) (ch := C) (at' := at') (show x ≤ lo by omega)).symm.trans Hch.out
            have HCC := Lib.hid hCH; clear hCH
            have Hsr := Lib.hid (own_src Hc5.out)
            have hsb := Hb5.out.size
            have Hlt := Lib.hid (fun q e => (Ho5.out.lt q e).1)
            go_wp2_with (at_builtin; refine wpList_appI TIw rfl _ _ rfl w.heap.size u7 O C ac5 cc5 rfl Ho5.out rfl Hsr.out (by omega) hsb ?_; intro v8 w8 ho8 hg8)
            have Hb8 := Lib.hid (Hb5.out.grown hg8 hsb (fun q e => Hlt.out q e))
            have Ho8 := Lib.hid ho8
            clear ho8 hg8
            go_roundw
            case rel => exact ⟨m + 1, by omega, by omega, by go_num, by rw [Nat.add_sub_cancel, Hy2.out], by rw [Nat.add_sub_cancel, Hy1.out, ← HCC.out]; exact Ho8.out, Hb8.out⟩
            case measure => simp [intOf]; omega
    · have hml : m - 1 = ls.length := by omega
      go_wp2
      go_ret
      exact ⟨_, rfl, by rw [← hml]; exact Ho.out, Hb.out⟩

end Go.Proofs.YtjaacdapibokiaaGreatDoor

/- The reference's CommitWaves, by a walk of its text; condition: the graph has at most 2^20 vertices. -/
namespace Go.Proofs.YtjaacdapibokiaaGreatDoor
open Go.RowKit

end Go.Proofs.YtjaacdapibokiaaGreatDoor

/- The reference's waves of all vertices and its order, each by a walk of its text; condition: the graph has at most 2^20 vertices. -/
namespace Go.Proofs.YtjaacdapibokiaaGreatDoor
open Go.RowKit

theorem owL_len (g : List Vx) (ls : List Int) (O : List Nat) : (owL g ls O).length = g.length := fnL_len _ _
theorem owM_len (g : List Vx) (ls : List Int) (O : List Nat) (w k : Nat) : (owM g ls O w k).length = g.length := fnL_len _ _
theorem owL_zero (g : List Vx) (ls : List Int) : owL g ls [] = fnL g.length fun _ => 0 := fnL_congr fun _ _ => rfl
theorem ow_bd {g : List Vx} {ls : List Int} {O : List Nat} (h : ∀ v ∈ O, v ≤ 15) (k : Nat) : owN g ls O k ≤ 15 := by
  by_cases e : owN g ls O k = 0
  · omega
  · exact h _ (ow_find e).1

set_option maxHeartbeats 4000000 in
set_option maxRecDepth 8000 in
theorem spec_l22Waves (ac : Option Addr) (capc : Nat) (c : List Int) (g : List Vx) (v : Value) (fp : List Nat) (al : Option Addr) (cap : Nat) (ls : List Int) (w : World) (hwa : waB c g ls = true) (hbig : g.length ≤ 1048576) (hps : ∀ x ∈ g, x.ps.length ≤ 1099511627776) (hc : IntsAt w ac c) (hg : Gr w g v fp) (hi : IntsAt w al ls) :
    Calls Tryz.prog 50 #[.slice ac c.length capc, v, .slice al ls.length cap] w fun e w' => ∃ u, e = .returned u ∧ Own 3 w' w.heap.size u (owL g ls (cwN c g ls)) ∧ Below w.heap.size w w' := by
  have hgb : graphB c g = true := by unfold waB at hwa; simp only [Bool.and_eq_true] at hwa; exact hwa.1
  have h15 : ls.length ≤ 15 := by unfold waB at hwa; simp only [Bool.and_eq_true] at hwa; exact (ldAt hwa.2).1
  obtain ⟨hcw, hcok⟩ := cwN_ok hwa hps
  have hwv : (wvs c g ls ls.length).1 = (cwN c g ls).map Int.ofNat := by rw [← hcw]; unfold cwZ; rw [if_pos hwa]
  have hmk : ∀ w, (Instr.makeSlice 23 (.int .i64 (g.length : Int)) (.int .i64 (g.length : Int))).run Tryz.prog w = .ok (.slice (some ⟨w.heap.size, 0, none⟩) g.length g.length) (w.alloc (.cells (madeCells #[.int .i64 0] g.length) 3)) :=
    fun w => run_make_row' 23 3 (.int .i64 0) 8 Tryz.underlying23 (by kernel_rfl) rfl .i64 .i64 g.length (by omega) (by omega) w
  have hb1 : Below w.heap.size w (w.alloc (.cells (madeCells #[.int .i64 0] g.length) 3)) := (Below.refl _ _).alloc (Nat.le_refl _) _
  have ho1 := own_zeros 3 w g.length (by unfold maxLen; omega)
  rw [← owL_zero g ls] at ho1
  have hz1 : (w.alloc (.cells (madeCells #[.int .i64 0] g.length) 3)).heap.size = w.heap.size + 1 := by simp
  obtain ⟨va, vc, rfl⟩ := hg.slice
  have HW := Lib.hid (spec_l21Waves ac capc c g (.slice va g.length vc) fp al cap ls _ hgb h15 hbig hps (hc.below hb1) (hg.under hb1) (hi.below hb1))
  rw [hwv] at HW
  have HL := Lib.hid (fun m hm W (hb : Below w.heap.size w W) => spec_l21Leader g (.slice va g.length vc) fp al cap ls m W (by omega) hm h15 (hg.under hb) (hi.below hb))
  have HP := Lib.hid (fun at' ha W (hb : Below w.heap.size w W) => spec_l11Past c g (.slice va g.length vc) fp at' W hgb hbig hps ha (hg.under hb))
  have Hgr := Lib.hid (fun W (hb : Below w.heap.size w W) => hg.under hb)
  have Hcok := Lib.hid hcok
  have HB15 := Lib.hid (show ∀ v ∈ cwN c g ls, v ≤ 15 from fun v hv => by have := (hcok.mem v hv).2.1; omega)
  have hOl : (cwN c g ls).length ≤ 15 := by
    have h2 : (cwN c g ls).length ≤ (List.range' 1 ls.length).length := List.Nodup.length_le_of_subset (show (cwN c g ls).Nodup from hcok.asc.imp (fun {a b} h => Nat.ne_of_lt h)) fun v hv => by
      have := hcok.mem v hv; rw [List.mem_range'_1]; omega
    rw [List.length_range'] at h2; omega
  have HO1 := Lib.hid (show ∀ v ∈ cwN c g ls, 1 ≤ v from fun v hv => (hcok.mem v hv).1)
  have Ho1 := Lib.hid ho1; have Hb1 := Lib.hid hb1
  generalize cwN c g ls = O at *
  clear hc hg hi hps hwa hgb hwv hcw hcok ho1
  go_enter Tryz.func50, Tryz.ntmps50
  go_wp2_with fail
  generalize w.alloc (.cells (madeCells #[.int .i64 0] g.length) 3) = w1 at *
  refine HW.out.mono ?_
  rintro e w2 ⟨uw, rfl, how, hb2⟩
  have hs2 := hb2.size
  have Ho2 := Lib.hid (Ho1.out.below hb2)
  have Hb2 := Lib.hid (below_step Hb1.out Hb1.out.size hb2)
  have Hw2 := Lib.hid how
  obtain ⟨aw, cw, rfl, _, _⟩ := how.ints
  rw [List.length_map] at *
  clear hb1 hb2 how hmk HW Ho1 Hb1
  generalize hLO : w.heap.size = LO at *
  go_wp2_with fail
  go_loopw [9, 10, 11] (fun i _ _ wr => ∃ m : Nat, m ≤ O.length ∧ i = .int .i64 m ∧ Own 3 wr LO (.slice (some ⟨LO, 0, none⟩) g.length g.length) (owL g ls (O.take m)) ∧ Own 3 wr (LO + 1) (.slice aw O.length cw) (O.map Int.ofNat) ∧ Below LO w wr) (fun i _ _ _ => O.length - (intOf i).toNat)
  case atStart => exact ⟨0, by omega, rfl, by rw [List.take_zero]; exact Ho2.out, hz1 ▸ Hw2.out, Hb2.out⟩
  case round =>
    obtain ⟨m, hm, rfl, ho, hw, hb⟩ := hrel
    have Ho := Lib.hid ho; have Hw := Lib.hid hw; have Hb := Lib.hid hb
    by_cases hlt : m < O.length
    · have hlt' : (m : Int) < (O.length : Int) := by omega
      obtain ⟨gw, cw', ep, hgw, hgl, _, hcell, _⟩ := Own.row hw (by rw [List.length_map]; omega)
      simp only [Value.slice.injEq, List.length_map, true_and] at ep
      obtain ⟨rfl, rfl⟩ := ep
      have cm := hcell m (by rw [List.length_map]; exact hlt)
      rw [List.getElem_map] at cm
      have hmem := Hcok.out.mem _ (List.getElem_mem hlt)
      have hT1 : ∀ v ∈ O.take m, 1 ≤ v := fun v hv => HO1.out v (List.mem_of_mem_take hv)
      have hT15 : ∀ v ∈ O.take m, v ≤ 15 := fun v hv => HB15.out v (List.mem_of_mem_take hv)
      have htk : O.take m ++ [O[m]] = O.take (m + 1) := (List.take_succ_eq_append_getElem hlt).symm
      generalize O[m] = W at *
      have cm : wr.cell? ⟨gw, m, none⟩ = some (.int .i64 (W : Int)) := cm
      have HT1 := Lib.hid hT1; have HT15 := Lib.hid hT15; have Htk := Lib.hid htk
      generalize O.take m = OP at *
      have HLm := Lib.hid (HL.out W ⟨hmem.1, hmem.2.1⟩ wr Hb.out)
      have HPm := Lib.hid (HP.out (ldZ g ls W) (by
        have h0 := hmem.2.2
        obtain ⟨j, hj, ej, _⟩ := ld_at h0
        exact .inr ⟨j, hj, ej⟩))
      have Hmem := Lib.hid hmem
      have Hh := Lib.hid (show ∀ k, hitB g ls W k = ((pastB g (ldZ g ls W)).getD k false && decide (2 * (W : Int) - 7 ≤ (g.getD k vx0).r)) from fun k => rfl)
      have hW := hmem.1; have hW15 : W ≤ 15 := by omega
      have hpl := pastB_len g (ldZ g ls W)
      generalize pastB g (ldZ g ls W) = PB at *
      have hzr := hb.size
      clear hcell hT1 hT15 htk hmem ho hw hb
      go_wp2_with fail
      refine HLm.out.mono ?_
      rintro e w3 ⟨rfl, rfl⟩
      go_wp2_with fail
      refine (HPm.out wr Hb.out).mono ?_
      rintro e w4 ⟨up, rfl, hop, hb4⟩
      have hz4 := hb4.size
      have Ho3 := Lib.hid (Ho.out.below hb4)
      have Hw3 := Lib.hid (Hw.out.below hb4)
      obtain ⟨ap, cp, rfl, _⟩ := hop.slice
      rw [hpl] at hop
      have Hp3 := Lib.hid (hop.mono (show LO + 1 ≤ wr.heap.size by have := World.block_lt_of_cell? _ _ cm; simp only at this; omega))
      have Hb3 := Lib.hid (below_step Hb.out (by omega) hb4)
      have HPl := Lib.hid hpl
      rw [hpl]
      clear hop hb4 cm HLm HPm Ho Hw Hb hpl
      go_wp2
      go_loopw [11] (fun kk wr => ∃ k : Nat, k ≤ g.length ∧ kk = .int .i64 k ∧ Own 3 wr LO (.slice (some ⟨LO, 0, none⟩) g.length g.length) (owM g ls OP W k) ∧ OwnB 4 wr (LO + 1) (.slice ap g.length cp) PB ∧ Own 3 wr (LO + 1) (.slice (some ⟨gw, 0, none⟩) O.length cw) (O.map Int.ofNat) ∧ Below LO w wr) (fun kk _ => g.length - (intOf kk).toNat)
      case atStart => exact ⟨0, by omega, rfl, by rw [owM_zero]; exact Ho3.out, Hp3.out, Hw3.out, Hb3.out⟩
      case round =>
        obtain ⟨k, hk, rfl, ho, hp, hw, hb⟩ := hrel
        have Ho4 := Lib.hid ho; have Hp4 := Lib.hid hp; have Hw4 := Lib.hid hw; have Hb4 := Lib.hid hb
        by_cases hlk : k < g.length
        · have hlk' : (k : Int) < (g.length : Int) := by omega
          obtain ⟨gp, cp', ep, _, hgpl, _, hpc, _⟩ := hp.row (by rw [HPl.out]; omega)
          simp only [Value.slice.injEq, HPl.out, true_and] at ep
          obtain ⟨rfl, rfl⟩ := ep
          have cp0 := hpc k (by rw [HPl.out]; exact hlk)
          have hgd : PB.getD k false = PB[k]'(by rw [HPl.out]; exact hlk) := by simp [List.getD, List.getElem?_eq_getElem (show k < PB.length by rw [HPl.out]; exact hlk)]
          rw [← hgd] at cp0
          obtain ⟨gq, cq, eq, _, _, _, hoc, hof⟩ := Own.row ho (by rw [owM_len]; omega)
          simp only [Value.slice.injEq, Option.some.injEq, Addr.mk.injEq, and_true, true_and, owM_len] at eq
          obtain ⟨rfl, rfl⟩ := eq
          have co0 := hoc k (by rw [owM_len]; exact hlk)
          rw [← getD_get (by rw [owM_len]; exact hlk), owM_get hlk] at co0
          have fo0 := hof k
          obtain ⟨_, _, eg, _, _, _, hwc, _⟩ := Own.row hw (by rw [List.length_map]; omega)
          simp only [Value.slice.injEq, Option.some.injEq, Addr.mk.injEq, and_true, true_and, List.length_map] at eg
          obtain ⟨rfl, rfl⟩ := eg
          have cw0 := hwc m (by rw [List.length_map]; exact hlt)
          rw [List.getElem_map] at cw0
          have hOm : (Int.ofNat O[m] : Int) = (W : Int) := by
            have h1 := Htk.out
            rw [List.take_succ_eq_append_getElem hlt] at h1
            have h2 := List.append_inj_right' h1 (by simp)
            simp at h2
            rw [h2]; rfl
          rw [hOm] at cw0
          obtain ⟨b, off, hag, hbl, hat⟩ := (Hgr.out wr hb).at (by omega)
          subst hag
          obtain ⟨c0, _⟩ := hat k hlk
          have hr : 0 ≤ g[k].r ∨ g[k].r ≤ 0 := by omega
          have hgk : (g.getD k vx0).r = g[k].r := by rw [getV hlk]
          have Hhk := Lib.hid ((Hh.out k).trans (by rw [hgk]))
          have hxb := ow_bd (g := g) (ls := ls) HT15.out k
          have Hn := Lib.hid (owM_no (g := g) (ls := ls) (w := W) (k := k) HT1.out)
          have Hy := Lib.hid (owM_yes (g := g) (ls := ls) (w := W) (k := k) HT1.out)
          have Hown := Lib.hid (fun n => (ho.drewN n).store (by rw [owM_len]) k (W : Int))
          generalize hitB g ls W k = HB at *
          generalize g[k].r = R at *
          generalize PB.getD k false = PK at *
          generalize owN g ls OP k = X at *
          have e1 : IntKind.i64.wrap (2 * (W : Int)) = 2 * (W : Int) := IntWalk.i64_in _ (by omega)
          have e2 : IntKind.i64.wrap (2 * (W : Int) - 1) = 2 * (W : Int) - 1 := IntWalk.i64_in _ (by omega)
          have e3 : IntKind.i64.wrap (2 * (W : Int) - 1 - 6) = 2 * (W : Int) - 7 := by rw [IntWalk.i64_in _ (by omega)]; omega
          clear hpc hoc hof hwc hat hgd hgk hOm ho hp hw hb hr
          cases PK with
          | false =>
            have Hno := Lib.hid (Hn.out (fun h => by have := h.2; rw [Hhk.out] at this; simp at this))
            clear Hn Hy Hhk
            go_wp2_with fail
            go_quiet (fail)
            go_wp2
            go_roundw
            case rel => exact ⟨k + 1, by omega, by go_num, by rw [← Hno.out]; exact (Ho4.out.below (below_drewN (Below.refl _ _) _)), Hp4.out.below (below_drewN (Below.refl _ _) _), Hw4.out.below (below_drewN (Below.refl _ _) _), below_drewN Hb4.out _⟩
            case measure => simp [intOf]; omega
          | true =>
            by_cases hX : X = 0
            case neg =>
              have hX' : ((X : Int) == 0) = false := by rw [beq_eq_false_iff_ne]; omega
              have Hno := Lib.hid (Hn.out (fun h => hX h.1))
              clear Hn Hy Hhk hX
              go_wp2_with fail
              go_quiet (fail)
              go_wp2
              go_roundw
              case rel => exact ⟨k + 1, by omega, by go_num, by rw [← Hno.out]; exact (Ho4.out.below (below_drewN (Below.refl _ _) _)), Hp4.out.below (below_drewN (Below.refl _ _) _), Hw4.out.below (below_drewN (Below.refl _ _) _), below_drewN Hb4.out _⟩
              case measure => simp [intOf]; omega
            subst hX
            have hX' : (((0 : Nat) : Int) == 0) = true := rfl
            have co0 : wr.cell? ⟨w.heap.size, k, none⟩ = some (.int .i64 0) := by rw [hLO]; exact co0
            by_cases hR : 2 * (W : Int) - 7 ≤ R
            case neg =>
              have hR' : decide (2 * (W : Int) - 7 ≤ R) = false := decide_eq_false hR
              have Hno := Lib.hid (Hn.out (fun h => by have := h.2; rw [Hhk.out, hR'] at this; simp at this))
              clear Hn Hy Hhk hR'
              go_wp2_with fail
              go_quiet (fail)
              go_wp2
              go_roundw
              case rel => exact ⟨k + 1, by omega, by go_num, by rw [← Hno.out]; exact (Ho4.out.below (below_drewN (Below.refl _ _) _)), Hp4.out.below (below_drewN (Below.refl _ _) _), Hw4.out.below (below_drewN (Below.refl _ _) _), below_drewN Hb4.out _⟩
              case measure => simp [intOf]; omega
            have hR' : decide (2 * (W : Int) - 7 ≤ R) = true := decide_eq_true hR
            have Hye := Lib.hid (Hy.out rfl (by rw [Hhk.out, hR']; rfl))
            clear Hn Hy Hhk hR'
            go_wp2_with fail
            go_quiet (fail)
            go_wp2
            obtain ⟨s1, g1⟩ := Hown.out nq
            have hneP : ∀ (u : Value), (∀ q, u.ownBlock = some q → LO + 1 ≤ q) → (u.ownBlock = none ∨ u.ownBlock ≠ some LO) := fun u h => by
              cases hu : u.ownBlock with
              | none => exact .inl rfl
              | some q => exact .inr (fun e => by have := h q hu; simp at e; omega)
            have Hp5 := Lib.hid ((Hp4.out.below (below_drewN (Below.refl _ _) nq)).kept g1 (hneP _ (fun q e => (Hp4.out.lt q e).1)))
            have Hw5 := Lib.hid ((Hw4.out.below (below_drewN (Below.refl _ _) nq)).kept g1 (hneP _ (fun q e => (Hw4.out.lt q e).1)))
            have Hb5 := Lib.hid ((below_drewN Hb4.out nq).setCell (p := ⟨LO, k, none⟩) (Nat.le_refl _) (.int .i64 W))
            have Ho5 := Lib.hid s1
            clear s1 g1 hneP
            go_roundw
            case rel => exact ⟨k + 1, by omega, by go_num, by rw [← Hye.out]; exact Ho5.out, Hp5.out, Hw5.out, Hb5.out⟩
            case measure => simp [intOf]; omega
        · have hkl : k = g.length := by omega
          subst hkl
          have Ho5 := Lib.hid ho; have Hw5 := Lib.hid hw; have Hb5 := Lib.hid hb
          clear ho hp hw hb
          go_wp2
          go_roundw
          case rel => exact ⟨m + 1, by omega, by go_num, by rw [← Htk.out, ← owM_end]; exact Ho5.out, Hw5.out, Hb5.out⟩
          case measure => simp [intOf]; omega
    · have hml : O.take m = O := List.take_of_length_le (by omega)
      rw [hml] at Ho
      clear hml ho hw hb
      go_wp2
      go_ret
      exact ⟨_, rfl, by rw [hLO]; exact Ho.out, by rw [hLO]; exact Hb.out⟩

end Go.Proofs.YtjaacdapibokiaaGreatDoor

/- A heap in a list: sifting up and down keeps what is in it, the least comes first; plain facts on lists, nothing here is walked. -/
namespace Go.Proofs.YtjaacdapibokiaaGreatDoor
open Go.RowKit

/-- A vertex's place as its key. -/
def kyV (v : Vx) : Nat := plN v.r v.a
theorem ky_bef {x y : Vx} (hx : inPl x) (hy : inPl y) : befB x y = true ↔ kyV x < kyV y := by
  unfold inPl at hx hy
  rw [befB_iff]
  unfold kyV plN
  omega
/-- The key at a place of a list. -/
def kyA (L : List Vx) (i : Nat) : Nat := kyV (L.getD i vx0)
/-- Two places changed. -/
def swpL (L : List Vx) (i j : Nat) : List Vx := (L.set i (L.getD j vx0)).set j (L.getD i vx0)
theorem swp_len (L : List Vx) (i j : Nat) : (swpL L i j).length = L.length := by simp [swpL]
theorem swp_get {L : List Vx} {i j : Nat} (hi : i < L.length) (hj : j < L.length) (k : Nat) : (swpL L i j).getD k vx0 = if k = j then L.getD i vx0 else if k = i then L.getD j vx0 else L.getD k vx0 := by
  unfold swpL
  generalize L.getD i vx0 = x
  generalize L.getD j vx0 = y
  simp only [List.getD, List.getElem?_set, List.length_set]
  by_cases h1 : k = j
  · subst h1; simp [hj]
  · rw [if_neg (fun h => h1 h.symm), if_neg h1]
    by_cases h2 : k = i
    · subst h2; simp [hi]
    · rw [if_neg (fun h => h2 h.symm), if_neg h2]
theorem swp_perm {L : List Vx} {i j : Nat} (hi : i < L.length) (hj : j < L.length) : (swpL L i j).Perm L := by
  have := @List.set_set_perm _ L i j hi hj
  unfold swpL
  rw [getV hi, getV hj]
  exact this
theorem swp_ky {L : List Vx} {i j : Nat} (hi : i < L.length) (hj : j < L.length) (k : Nat) : kyA (swpL L i j) k = if k = j then kyA L i else if k = i then kyA L j else kyA L k := by
  unfold kyA
  rw [swp_get hi hj]
  split
  · rfl
  · split <;> rfl

/-- The first n places are a heap. -/
def HpN (L : List Vx) (n : Nat) : Prop := ∀ i, 0 < i → i < n → kyA L ((i - 1) / 2) ≤ kyA L i
/-- A heap but for what stands at place j, which may be too small for it. -/
def HpU (L : List Vx) (n j : Nat) : Prop := (∀ i, 0 < i → i < n → i ≠ j → kyA L ((i - 1) / 2) ≤ kyA L i) ∧ ∀ i, 0 < i → i < n → (i - 1) / 2 = j → 0 < j → kyA L ((j - 1) / 2) ≤ kyA L i
/-- A heap but for what stands at place j, which may be too great for it. -/
def HpD (L : List Vx) (n j : Nat) : Prop := (∀ i, 0 < i → i < n → (i - 1) / 2 ≠ j → kyA L ((i - 1) / 2) ≤ kyA L i) ∧ ∀ i, 0 < i → i < n → (i - 1) / 2 = j → 0 < j → kyA L ((j - 1) / 2) ≤ kyA L i
theorem hpu_end {L : List Vx} {n j : Nat} (h : HpU L n j) (e : 0 < j → kyA L ((j - 1) / 2) ≤ kyA L j) : HpN L n := by
  intro i h0 hi
  by_cases hij : i = j
  · subst hij; exact e h0
  · exact h.1 i h0 hi hij
theorem hpu_step {L : List Vx} {n j : Nat} (hn : n = L.length) (hj : j < n) (h0 : 0 < j) (h : HpU L n j) (hl : kyA L j < kyA L ((j - 1) / 2)) : HpU (swpL L ((j - 1) / 2) j) n ((j - 1) / 2) := by
  have hp : (j - 1) / 2 < L.length := by omega
  have hj' : j < L.length := by omega
  refine ⟨fun i hi hi2 hne => ?_, fun i hi hi2 hpi hpo => ?_⟩
  · rw [swp_ky hp hj', swp_ky hp hj']
    have h1 := h.1 i hi hi2
    have h2 := h.2 i hi hi2
    by_cases e1 : i = j
    · subst e1
      rw [if_neg (by omega), if_pos rfl, if_pos rfl]; omega
    · have h1 := h1 e1
      rw [if_neg e1, if_neg hne]
      by_cases e2 : (i - 1) / 2 = j
      · rw [if_pos e2]; exact h2 e2 h0
      · rw [if_neg e2]
        by_cases e3 : (i - 1) / 2 = (j - 1) / 2
        · rw [if_pos e3]; rw [e3] at h1; omega
        · rw [if_neg e3]; exact h1
  · rw [swp_ky hp hj', swp_ky hp hj']
    have h3 := h.1 ((j - 1) / 2) hpo (by omega) (by omega)
    rw [if_neg (by omega), if_neg (by omega)]
    by_cases e1 : i = j
    · rw [if_pos e1]; exact h3
    · have h1 := h.1 i hi hi2 e1
      rw [if_neg e1, if_neg (by omega)]
      rw [hpi] at h1; omega
theorem hpd_end {L : List Vx} {n j : Nat} (h : HpD L n j) (e : ∀ i, 0 < i → i < n → (i - 1) / 2 = j → kyA L j ≤ kyA L i) : HpN L n := by
  intro i h0 hi
  by_cases hij : (i - 1) / 2 = j
  · rw [hij]; exact e i h0 hi hij
  · exact h.1 i h0 hi hij
theorem hpd_step {L : List Vx} {n i j : Nat} (hn : n ≤ L.length) (hj : j < n) (h0 : 0 < j) (hp : (j - 1) / 2 = i) (h : HpD L n i) (hl : kyA L j < kyA L i) (hm : ∀ k, 0 < k → k < n → (k - 1) / 2 = i → kyA L j ≤ kyA L k) : HpD (swpL L i j) n j := by
  have hi' : i < L.length := by omega
  have hj' : j < L.length := by omega
  refine ⟨fun k hk hk2 hne => ?_, fun k hk hk2 hpk hpo => ?_⟩
  · rw [swp_ky hi' hj', swp_ky hi' hj']
    by_cases e1 : k = j
    · subst e1
      rw [if_neg (by omega), if_pos hp, if_pos rfl]; omega
    · rw [if_neg e1, if_neg hne]
      by_cases e2 : (k - 1) / 2 = i
      · rw [if_pos e2, if_neg (by omega)]; exact hm k hk hk2 e2
      · rw [if_neg e2]
        by_cases e3 : k = i
        · rw [if_pos e3]
          subst e3
          exact h.2 j h0 hj hp hk
        · rw [if_neg e3]; exact h.1 k hk hk2 e2
  · rw [swp_ky hi' hj', swp_ky hi' hj']
    rw [if_neg (by omega), if_pos hp, if_neg (by omega), if_neg (by omega)]
    have := h.1 k hk hk2 (by omega)
    rw [hpk] at this
    exact this
theorem hpn_min {L : List Vx} {n : Nat} (h : HpN L n) : ∀ i, i < n → kyA L 0 ≤ kyA L i := by
  intro i
  induction i using Nat.strongRecOn with
  | _ i ih =>
    intro hi
    by_cases h0 : i = 0
    · subst h0; exact Nat.le_refl _
    · have h1 := ih ((i - 1) / 2) (by omega) (by omega)
      have h2 := h i (by omega) hi
      omega
/-- A new one at the end. -/
theorem hpu_push {L : List Vx} {x : Vx} (h : HpN L L.length) : HpU (L ++ [x]) (L.length + 1) L.length := by
  have hk : ∀ i, i < L.length → kyA (L ++ [x]) i = kyA L i := fun i hi => by
    unfold kyA; simp only [List.getD]; rw [List.getElem?_append_left hi]
  refine ⟨fun i h0 hi hne => ?_, fun i h0 hi hp h1 => by omega⟩
  rw [hk i (by omega), hk _ (by omega)]
  exact h i h0 (by omega)
/-- The first and the last one changed: what is before the last one is a heap but for the first. -/
theorem hpd_swap {L : List Vx} {n : Nat} (hn : L.length = n + 1) (h : HpN L (n + 1)) : HpD (swpL L 0 n) n 0 := by
  refine ⟨fun i h0 hi hne => ?_, fun i h0 hi hp h1 => by omega⟩
  rw [swp_ky (by omega) (by omega), swp_ky (by omega) (by omega)]
  rw [if_neg (by omega), if_neg (by omega), if_neg (by omega), if_neg (by omega)]
  exact h i h0 (by omega)
/-- What is left when the last one has gone. -/
theorem hpn_drop {L : List Vx} {n : Nat} (hn : L.length = n + 1) (h : HpN L n) : HpN L.dropLast L.dropLast.length := by
  have hl : L.dropLast.length = n := by rw [List.length_dropLast, hn]; rfl
  have hk : ∀ i, i < n → kyA L.dropLast i = kyA L i := fun i hi => by
    unfold kyA; simp only [List.getD]; rw [List.getElem?_dropLast, if_pos (by omega)]
  rw [hl]
  intro i h0 hi
  rw [hk i hi, hk _ (by omega)]
  exact h i h0 hi
theorem perm_last {L : List Vx} {n : Nat} (hn : L.length = n + 1) : L = L.dropLast ++ [L.getD n vx0] := by
  have hne : L ≠ [] := by intro e; rw [e] at hn; simp at hn
  have h1 := List.dropLast_concat_getLast hne
  rw [List.getLast_eq_getElem] at h1
  have e : L.length - 1 = n := by omega
  rw [getV (by omega)]
  simp only [e] at h1
  exact h1.symm

end Go.Proofs.YtjaacdapibokiaaGreatDoor

/- Gathering what a wave orders: which vertices get the wave, and that these are the ones that the document names; plain facts, nothing here is walked. -/
namespace Go.Proofs.YtjaacdapibokiaaGreatDoor
open Go.RowKit

/-- A wave is written at a place. -/
def setO (wv : Nat → Nat) (i W : Nat) : Nat → Nat := fun j => if j = i then W else wv j
def plV (v : Vx) : Nat := plN v.r v.a
/-- What has a wave in the first n rounds has its parents there, from the floor on. -/
def ClsO (g : List Vx) (wv : Nat → Nat) (fl n : Int) : Prop := ∀ z ∈ g, z.r ≤ n → 0 < wv (plV z) → fl ≤ z.r - 1 → ∀ p ∈ z.ps, 0 < wv (plN (z.r - 1) p)
/-- What gathering a vertex does to the waves. -/
structure Gth (g : List Vx) (y : Vx) (fl : Int) (W : Nat) (wv wv' : Nat → Nat) : Prop where
  up : ∀ i, 0 < wv i → wv' i = wv i
  it : fl ≤ y.r → 0 < wv' (plV y)
  cls : ClsO g wv' fl y.r
  new : ∀ i, wv' i = wv i ∨ (wv i = 0 ∧ wv' i = W ∧ (i = plV y ∨ i < 1 + y.r.toNat * 7))
  only : ∀ P, ClsP g P → P y → ∀ z ∈ g, wv (plV z) = 0 → 0 < wv' (plV z) → P z ∧ fl ≤ z.r
theorem gth_old {g : List Vx} {y : Vx} {fl : Int} {W : Nat} {wv : Nat → Nat} (h : y.r < fl ∨ 0 < wv (plV y)) (hc : ClsO g wv fl y.r) : Gth g y fl W wv wv :=
  ⟨fun _ _ => rfl, fun h2 => by rcases h with h | h
                                · omega
                                · exact h, hc, fun _ => .inl rfl, fun _ _ _ _ _ h1 h2 => by omega⟩
/-- Behind the first k parents. -/
structure Gtk (g : List Vx) (y : Vx) (fl : Int) (W : Nat) (wv wv' : Nat → Nat) (k : Nat) : Prop where
  up : ∀ i, 0 < wv i → wv' i = wv i
  it : 0 < wv' (plV y)
  ps : ∀ j (h : j < y.ps.length), j < k → fl ≤ y.r - 1 → 0 < wv' (plN (y.r - 1) y.ps[j])
  cls : ClsO g wv' fl (y.r - 1)
  new : ∀ i, wv' i = wv i ∨ (wv i = 0 ∧ wv' i = W ∧ (i = plV y ∨ i < 1 + y.r.toNat * 7))
  only : ∀ P, ClsP g P → P y → ∀ z ∈ g, wv (plV z) = 0 → 0 < wv' (plV z) → P z ∧ fl ≤ z.r
theorem plV_inj {y z : Vx} (hy : inPl y) (hz : inPl z) (e : plV z = plV y) : z.r = y.r ∧ z.a = y.a := by
  unfold inPl at hy hz
  unfold plV at e
  exact plN_inj hz.1 hz.2.2.1 hz.2.2.2 hy.1 hy.2.2.1 hy.2.2.2 e
theorem gtk_start {g : List Vx} {y : Vx} {fl : Int} {W : Nat} {wv : Nat → Nat} (hs : Srt g) (hin : ∀ z ∈ g, inPl z) (hW : 0 < W) (hy : y ∈ g) (hf : fl ≤ y.r) (h0 : wv (plV y) = 0) (hc : ClsO g wv fl y.r) : Gtk g y fl W wv (setO wv (plV y) W) 0 := by
  refine ⟨fun i h => ?_, ?_, fun j _ h => by omega, fun z hz hr hm hfl p hp => ?_, fun i => ?_, fun P hP hPy z hz h1 h2 => ?_⟩
  · unfold setO; rw [if_neg (fun e => by subst e; omega)]
  · unfold setO; rw [if_pos rfl]; exact hW
  · unfold setO at hm ⊢
    rw [if_neg (fun e => by have := (plV_inj (hin y hy) (hin z hz) e).1; omega)] at hm
    split
    · exact hW
    · exact hc z hz (by omega) hm hfl p hp
  · unfold setO
    split
    · rename_i e; subst e; exact .inr ⟨h0, rfl, .inl rfl⟩
    · exact .inl rfl
  · unfold setO at h2
    split at h2
    · rename_i e
      obtain ⟨e1, e2⟩ := plV_inj (hin y hy) (hin z hz) e
      rw [srt_uni hs hz hy e1 e2]
      exact ⟨hPy, hf⟩
    · omega
theorem gtk_step {g : List Vx} {y z : Vx} {fl : Int} {W : Nat} {wv w1 w2 : Nat → Nat} {k : Nat} (hin : ∀ z ∈ g, inPl z) (hy : y ∈ g) (hW : 0 < W) (h : Gtk g y fl W wv w1 k) (hz : z ∈ g) (hk : k < y.ps.length) (hr : z.r = y.r - 1) (ha : z.a = y.ps[k]) (h2 : Gth g z fl W w1 w2) : Gtk g y fl W wv w2 (k + 1) := by
  have iz := hin z hz
  unfold inPl at iz
  have hup : ∀ i, 0 < w1 i → 0 < w2 i := fun i hi => by rw [h2.up i hi]; exact hi
  refine ⟨fun i hi => ?_, hup _ h.it, fun j hj hjk hf => ?_, by rw [← hr]; exact h2.cls, fun i => ?_, fun P hP hPy x hx h0 hm => ?_⟩
  · have e := h.up i hi
    rw [h2.up i (by omega), e]
  · by_cases e : j = k
    · subst e; rw [← hr, ← ha]; exact h2.it (by omega)
    · exact hup _ (h.ps j hj (by omega) hf)
  · rcases h2.new i with h' | ⟨h1, h3, h4⟩
    · rw [h']; exact h.new i
    · rcases h.new i with h5 | ⟨_, h6, _⟩
      · refine .inr ⟨by omega, h3, ?_⟩
        rcases h4 with h4 | h4
        · exact .inr (by rw [h4]; unfold plV plN; omega)
        · exact .inr (by omega)
      · omega
  · have hPz : P z := hP y hy hPy _ (List.getElem_mem hk) z hz hr ha
    by_cases e : w1 (plV x) = 0
    · exact h2.only P hP hPz x hx e hm
    · exact h.only P hP hPy x hx h0 (by omega)
theorem gtk_end {g : List Vx} {y : Vx} {fl : Int} {W : Nat} {wv wv' : Nat → Nat} (hs : Srt g) (hin : ∀ z ∈ g, inPl z) (hy : y ∈ g) (hc : ClsO g wv fl y.r) (h : Gtk g y fl W wv wv' y.ps.length) : Gth g y fl W wv wv' := by
  refine ⟨h.up, fun _ => h.it, fun z hz hr hm hfl p hp => ?_, h.new, h.only⟩
  have iy := hin y hy
  have iz := hin z hz
  by_cases e : z.r ≤ y.r - 1
  · exact h.cls z hz e hm hfl p hp
  · rcases h.new (plV z) with h' | ⟨_, _, h' | h'⟩
    · have h1 := hc z hz hr (by omega) hfl p hp
      rw [h.up _ h1]; exact h1
    · obtain ⟨e1, e2⟩ := plV_inj iy iz h'
      have := srt_uni hs hz hy e1 e2
      subst this
      obtain ⟨j, hj, rfl⟩ := List.mem_iff_getElem.1 hp
      exact h.ps j hj hj hfl
    · unfold inPl at iy iz; unfold plV plN at h'; omega

/-- What waits is just what has the wave. -/
def Wtg (g : List Vx) (W : Nat) (wv : Nat → Nat) (L : List Vx) : Prop := L.Nodup ∧ ∀ z, z ∈ L ↔ z ∈ g ∧ wv (plV z) = W
theorem wtg_push {g : List Vx} {W : Nat} {wv : Nat → Nat} {L L' : List Vx} {y : Vx} (hs : Srt g) (hin : ∀ z ∈ g, inPl z) (hy : y ∈ g) (hW : 0 < W) (h0 : wv (plV y) = 0) (h : Wtg g W wv L) (hp : L'.Perm (L ++ [y])) : Wtg g W (setO wv (plV y) W) L' := by
  have hny : y ∉ L := fun hm => by have := ((h.2 y).1 hm).2; omega
  refine ⟨hp.nodup_iff.2 ?_, fun z => ?_⟩
  · rw [List.nodup_append]
    exact ⟨h.1, by simp, fun a ha b hb e => by rw [List.mem_singleton] at hb; subst hb; subst e; exact hny ha⟩
  · rw [hp.mem_iff, List.mem_append, List.mem_singleton, h.2 z]
    unfold setO
    constructor
    · rintro (⟨h1, h2⟩ | rfl)
      · refine ⟨h1, ?_⟩; split
        · rfl
        · exact h2
      · exact ⟨hy, by rw [if_pos rfl]⟩
    · rintro ⟨h1, h2⟩
      split at h2
      · rename_i e
        obtain ⟨e1, e2⟩ := plV_inj (hin y hy) (hin z h1) e
        exact .inr (srt_uni hs h1 hy e1 e2)
      · exact .inl ⟨h1, h2⟩

/-- The waves are those of the document, for the waves so far. -/
def WvOk (g : List Vx) (ls : List Int) (O : List Nat) (wv : Nat → Nat) : Prop := ∀ k (h : k < g.length), wv (plV g[k]) = owN g ls O k
theorem wv_zero (g : List Vx) (ls : List Int) : WvOk g ls [] fun _ => 0 := fun _ _ => rfl
section
variable {c : List Int} {g : List Vx} {ls : List Int} {O : List Nat} (ok : Good21 c g ls)
include ok
/-- Behind a wave that has been gathered from its leader vertex. -/
theorem wv_step {w : Nat} {wv wv' : Nat → Nat} (hO : ∀ v ∈ O, 1 ≤ v) (hw1 : 1 ≤ w) (h0 : 0 ≤ ldZ g ls w) (h : WvOk g ls O wv) (hg : Gth g (ldV g ls w) (2 * (w : Int) - 7) w wv wv') : WvOk g ls (O ++ [w]) wv' := by
  obtain ⟨hLg, hLr, _⟩ := ldV_at h0
  intro k hk
  rw [ow_snoc hO, ← h k hk]
  by_cases e : wv (plV g[k]) = 0
  · by_cases hh : hitB g ls w k = true
    · rw [if_pos ⟨e, hh⟩]
      have hr := (hit_iff ok h0 hk).1 hh
      have hpos : 0 < wv' (plV g[k]) := by
        have key : ∀ {x z : Vx}, Rch g x z → x ∈ g → x.r ≤ (ldV g ls w).r → 0 < wv' (plV x) → 2 * (w : Int) - 7 ≤ z.r → 0 < wv' (plV z) := by
          intro x z hrch
          induction hrch with
          | refl => intro _ _ h2 _; exact h2
          | step hy hyr hya _ ih =>
            intro hx hxr hm hz
            rename_i hrest
            have hyz := rch_round hrest
            refine ih hy (by omega) ?_ hz
            have := hg.cls _ hx hxr hm (by omega) _ hya
            unfold plV
            rw [hyr]; exact this
        exact key hr.1 hLg (Int.le_refl _) (hg.it (by omega)) hr.2
      rcases hg.new (plV g[k]) with h' | ⟨_, h', _⟩
      · omega
      · exact h'
    · rw [if_neg (fun h2 => hh h2.2)]
      rcases hg.new (plV g[k]) with h' | ⟨_, h', _⟩
      · exact h'
      · exfalso
        obtain ⟨h3, h4⟩ := hg.only (Rch g (ldV g ls w)) (fun y hy hp p hpp z hz hzr hza => hp.snoc hz hzr (by rw [hza]; exact hpp)) (.refl _) g[k] (List.getElem_mem hk) e (by omega)
        exact hh ((hit_iff ok h0 hk).2 ⟨h3, h4⟩)
  · rw [if_neg (fun h2 => e h2.1)]
    exact hg.up _ (by omega)
/-- The next wave's start: what has a wave is closed from its floor on. -/
theorem cls_next {w : Nat} {wv : Nat → Nat} (cO : ∀ v ∈ O, 1 ≤ v ∧ 0 ≤ ldZ g ls v) (hlt : ∀ v ∈ O, v < w) (h : WvOk g ls O wv) (n : Int) : ClsO g wv (2 * (w : Int) - 7) n := by
  intro z hz _ hm hf p hp
  obtain ⟨k, hk, rfl⟩ := List.mem_iff_getElem.1 hz
  obtain ⟨x, hx, exr, exa⟩ := ok.par _ hz p hp
  obtain ⟨j, hj, rfl⟩ := List.mem_iff_getElem.1 hx
  rw [h k hk] at hm
  obtain ⟨h1, h2⟩ := ow_find (g := g) (ls := ls) (O := O) (k := k) (by omega)
  have hv := hlt _ h1
  have hr := (hit_iff ok (cO _ h1).2 hk).1 h2
  have hrj : Rch g (ldV g ls (owN g ls O k)) g[j] := hr.1.snoc (List.getElem_mem hj) exr (by rw [exa]; exact hp)
  have hh := (hit_iff ok (cO _ h1).2 hj).2 ⟨hrj, by omega⟩
  have e : plN (g[k].r - 1) p = plV g[j] := by unfold plV; rw [exr, exa]
  rw [e, h j hj]
  have : owN g ls O j ≠ 0 := by
    intro e0
    unfold owN at e0
    cases hf2 : O.find? fun w => hitB g ls w j with
    | none => have := List.find?_eq_none.1 hf2 _ h1; rw [hh] at this; exact this rfl
    | some v =>
      rw [hf2] at e0
      have := (cO v (List.mem_of_find?_eq_some hf2)).1
      simp at e0; omega
  omega
omit ok in
/-- What has the wave of the last of the waves is what that wave orders. -/
theorem wt_seg {w : Nat} {wv : Nat → Nat} {L : List Vx} (h : WvOk g ls O wv) (hs : Srt g) (hL : Wtg g w wv L) : L.Perm (segV g ls O w) := by
  have hnd : (segV g ls O w).Nodup := by
    refine (seg_srt (ls := ls) (O := O) (w := w) hs).imp fun {a b} hab e => ?_
    subst e; exact srtx_irr hab
  refine (List.perm_ext_iff_of_nodup hL.1 hnd).2 fun z => ?_
  rw [hL.2 z, seg_mem]
  constructor
  · rintro ⟨hz, e⟩
    obtain ⟨k, hk, rfl⟩ := List.mem_iff_getElem.1 hz
    exact ⟨k, hk, rfl, by rw [← h k hk]; exact e⟩
  · rintro ⟨k, hk, rfl, e⟩
    exact ⟨List.getElem_mem hk, by rw [h k hk]; exact e⟩
end
/-- Behind the pops: what came out is in order, and all of it. -/
theorem srt_perm {a b : List Vx} (ha : Srt a) (hb : Srt b) (h : a.Perm b) : a = b := srtx_ext ha hb fun _ => h.mem_iff
/-- One more comes out: the least of those left. -/
structure Pops (M T L : List Vx) : Prop where
  prm : (T ++ L).Perm M
  srt : Srt T
  lt : ∀ t ∈ T, ∀ l ∈ L, befB t l = true
theorem pops_start {M L : List Vx} (h : L.Perm M) : Pops M [] L := ⟨by simpa using h, .nil, fun _ h => by cases h⟩
theorem pops_step {M T L L' : List Vx} {n : Nat} (hin : ∀ y ∈ M, inPl y) (hM : Srt M) (h : Pops M T L) (hn : L.length = n + 1) (hh : HpN L (n + 1)) (hq : (L' ++ [L.getD 0 vx0]).Perm L) : Pops M (T ++ [L.getD 0 vx0]) L' := by

  generalize hx : L.getD 0 vx0 = x at *
  have hmem : ∀ z, z ∈ L ↔ z ∈ L' ∨ z = x := fun z => by rw [← hq.mem_iff]; simp
  have hperm : (T ++ [x] ++ L').Perm M := by
    refine List.Perm.trans ?_ h.prm
    rw [List.append_assoc]
    refine List.Perm.append_left T (List.Perm.trans ?_ hq)
    exact List.perm_append_comm
  have hMi : ∀ z ∈ L, z ∈ M := fun z hz => h.prm.mem_iff.1 (List.mem_append.2 (.inr hz))
  have hxL : x ∈ L := (hmem x).2 (.inr rfl)
  have hnd : (T ++ [x] ++ L').Nodup := hperm.nodup_iff.2 (hM.imp fun {a b} hab e => by subst e; exact srtx_irr hab)
  refine ⟨hperm, ?_, fun t ht l hl => ?_⟩
  · unfold Srt
    rw [List.pairwise_append]
    exact ⟨h.srt, by simp, fun a ha b hb => by rw [List.mem_singleton] at hb; subst hb; exact h.lt a ha _ hxL⟩
  · rcases List.mem_append.1 ht with ht | ht
    · exact h.lt t ht l ((hmem l).2 (.inl hl))
    · rw [List.mem_singleton] at ht
      subst ht
      have hlL : l ∈ L := (hmem l).2 (.inl hl)
      obtain ⟨i, hi, e⟩ := List.mem_iff_getElem.1 hlL
      have hmin := hpn_min hh i (by omega)
      have k1 : kyA L i = kyV l := by unfold kyA; rw [getV hi, e]
      have k0 : kyA L 0 = kyV t := by unfold kyA; rw [hx]
      have ne : t ≠ l := by
        intro e2
        subst e2
        rw [List.append_assoc] at hnd
        have := (List.nodup_append.1 (List.nodup_append.1 hnd).2.1).2.2 t (by simp) t hl
        exact this rfl
      have i1 := hin t (hMi _ hxL)
      have i2 := hin l (hMi _ hlL)
      refine (ky_bef i1 i2).2 ?_
      rcases Nat.lt_or_ge (kyV t) (kyV l) with hlt | hge
      · exact hlt
      · exfalso
        have e3 : kyV l = kyV t := by omega
        obtain ⟨e4, e5⟩ := plV_inj i1 i2 (show plV l = plV t from e3)
        exact ne (srt_uni hM (hMi _ hxL) (hMi _ hlL) e4.symm e5.symm)
theorem pops_end {M T : List Vx} (hM : Srt M) (h : Pops M T []) : T = M := srt_perm h.srt hM (by simpa using h.prm)

end Go.Proofs.YtjaacdapibokiaaGreatDoor

/- The order of vertices in memory: its struct, the list of those that are ordered, the waves, the list of those that wait; what stays of it when other memory is made or written; no conditions. -/
namespace Go.Proofs.YtjaacdapibokiaaGreatDoor
open Go.RowKit

/-- The block of a vertex. -/
def qV (h : Nat → Value) (y : Vx) : Nat := match h (plV y) with | .pointer (some a) => a.block | _ => 0
theorem qV_of {h : Nat → Value} {y : Vx} {q : Nat} (e : h (plN y.r y.a) = ptrV q) : qV h y = q := by
  unfold qV plV; rw [e]; rfl
section
variable {E : TypeId} {w w' : World} {B : Nat} {v : Value} {qs : List Nat}
theorem OwnP.mono {B' : Nat} (h : OwnP E w B v qs) (hB : B' ≤ B) : OwnP E w B' v qs := by
  refine ⟨h.1, ?_⟩
  rcases h.2 with h0 | ⟨g, cap, cur, rfl, hb, hg, rest⟩
  · exact .inl h0
  · exact .inr ⟨g, cap, cur, rfl, by omega, hg, rest⟩
theorem OwnP.same (h : OwnP E w B v qs) (hb : ∀ g, v.ownBlock = some g → w'.heap[g]? = w.heap[g]?) : OwnP E w' B v qs := by
  refine ⟨h.1, ?_⟩
  rcases h.2 with h0 | ⟨g, cap, cur, rfl, hb', hg, rest⟩
  · exact .inl h0
  · exact .inr ⟨g, cap, cur, rfl, hb', (hb g rfl).trans hg, rest⟩
theorem OwnP.row (h : OwnP E w B v qs) (hx : 0 < qs.length) : ∃ g cap, v = .slice (some ⟨g, 0, none⟩) qs.length cap ∧ B ≤ g ∧ g < w.heap.size ∧ qs.length ≤ cap ∧
    (∀ j (h : j < qs.length), w.cell? ⟨g, j, none⟩ = some (ptrV qs[j])) ∧ ∀ j, w.frozen? ⟨g, j, none⟩ = false := by
  rcases h.2 with ⟨rfl, h0⟩ | ⟨g, cap, cur, rfl, hb, hg, hn, hm, hs, ht⟩
  · omega
  · refine ⟨g, cap, rfl, hb, (Array.getElem?_eq_some_iff.1 hg).1, hn, fun j hj => ?_, fun j => frozen_of_row w g j cur E hg⟩
    have hc := World.ownsRow.cells (w := w) (base := B) (e := E) (size := 1) (v := .slice (some ⟨g, 0, none⟩) qs.length cap) (n := qs.length) (xs := qs.map ptrV) h (g := g) rfl j (ptrV qs[j]) (by simp [hj])
    rwa [addr_add] at hc
theorem OwnP.store {g cap n : Nat} (h : OwnP E w B (.slice (some ⟨g, 0, none⟩) n cap) qs) (hn : n = qs.length) (j q : Nat) :
    OwnP E (w.setCell ⟨g, j, none⟩ (ptrV q)) B (.slice (some ⟨g, 0, none⟩) n cap) (qs.set j q) ∧ w.grownBy (w.setCell ⟨g, j, none⟩ (ptrV q)) (some g) := by
  subst hn
  have := World.ownsRow.stored (w := w) (base := B) (e := E) (size := 1) (g := g) (n := qs.length) (cap := cap) h j (ptrV q)
  refine ⟨?_, this.2⟩
  unfold OwnP
  rw [List.map_set, List.length_set]
  exact this.1
theorem OwnP.pop {g cap n : Nat} (h : OwnP E w B (.slice (some ⟨g, 0, none⟩) (n + 1) cap) qs) (hn : qs.length = n + 1) : OwnP E w B (.slice (some ⟨g, 0, none⟩) n cap) qs.dropLast := by
  have hl : qs.dropLast.length = n := by rw [List.length_dropLast, hn]; rfl
  have hne : qs ≠ [] := by intro e; rw [e] at hn; simp at hn
  unfold OwnP at h ⊢
  rw [hl]
  rw [hn] at h
  have e : qs.map ptrV = qs.dropLast.map ptrV ++ [ptrV (qs.getLast hne)] := by
    rw [← List.map_singleton (f := ptrV), ← List.map_append, List.dropLast_concat_getLast hne]
  rw [e] at h
  exact ownsRow_pop (size := 1) (by rw [List.length_map, hl, Nat.mul_one]) h
end
theorem Below.str {B0 : Nat} {w w' : World} {B : Nat} {t : TypeId} {vs : Array Value} (hb : Below B0 w w') (h : Str w B t vs) (hl : B < B0) : Str w' B t vs := (hb.block B hl).trans h

/-- The cells of an order. -/
def ordF (vs wt : Value) (wv : Nat → Nat) : Nat → Value := fun i => if i = 0 then vs else if i = 218 then wt else .int .i64 (wv i)
def ordA (vs wt : Value) (wv : Nat → Nat) : Array Value := arrP 219 (ordF vs wt wv)
theorem ordA_vs (vs wt : Value) (wv : Nat → Nat) : (ordA vs wt wv)[0]? = some vs := by unfold ordA; rw [arrP_get (by omega)]; rfl
theorem ordA_wt (vs wt : Value) (wv : Nat → Nat) : (ordA vs wt wv)[218]? = some wt := by unfold ordA; rw [arrP_get (by omega)]; rfl
theorem ordA_wv (vs wt : Value) (wv : Nat → Nat) {i : Nat} (h0 : 1 ≤ i) (h1 : i < 218) : (ordA vs wt wv)[i]? = some (.int .i64 (wv i)) := by
  unfold ordA; rw [arrP_get (by omega)]; unfold ordF; rw [if_neg (by omega), if_neg (by omega)]
theorem ordA_setVs (vs wt : Value) (wv : Nat → Nat) (v : Value) : (ordA vs wt wv).setIfInBounds 0 v = ordA v wt wv := by
  unfold ordA; rw [arrP_set]; congr 1; funext i; unfold ordF
  by_cases h : i = 0
  · simp [h]
  · simp [h]
theorem ordA_setWt (vs wt : Value) (wv : Nat → Nat) (v : Value) : (ordA vs wt wv).setIfInBounds 218 v = ordA vs v wv := by
  unfold ordA; rw [arrP_set]; congr 1; funext i; unfold ordF
  by_cases h : i = 218
  · simp [h]
  · simp [h]
theorem ordA_setWv (vs wt : Value) (wv : Nat → Nat) (i W : Nat) (h0 : 1 ≤ i) (h1 : i < 218) : (ordA vs wt wv).setIfInBounds i (.int .i64 (W : Nat)) = ordA vs wt (setO wv i W) := by
  unfold ordA; rw [arrP_set]; congr 1; funext j; unfold ordF setO
  by_cases h : j = i
  · subst h; simp; rw [if_neg (by omega), if_neg (by omega)]
  · simp [h]

/-- All below hi stays, but for block B. -/
structure Bx (hi B : Nat) (w w' : World) : Prop where
  os : w'.os = w.os
  tape : w'.tape = w.tape
  output : w'.output = w.output
  size : w.heap.size ≤ w'.heap.size
  block : ∀ k, k < hi → k ≠ B → w'.heap[k]? = w.heap[k]?
theorem Bx.refl (hi B : Nat) (w : World) : Bx hi B w w := ⟨rfl, rfl, rfl, Nat.le_refl _, fun _ _ _ => rfl⟩
theorem Bx.trans {hi B : Nat} {a b c : World} (h : Bx hi B a b) (k : Bx hi B b c) : Bx hi B a c :=
  ⟨k.os.trans h.os, k.tape.trans h.tape, k.output.trans h.output, Nat.le_trans h.size k.size, fun i hi' hb => (k.block i hi' hb).trans (h.block i hi' hb)⟩
theorem Bx.of {s hi B : Nat} {w w' : World} (h : Below s w w') (hs : hi ≤ s) : Bx hi B w w' := ⟨h.os, h.tape, h.output, h.size, fun k hk _ => h.block k (Nat.lt_of_lt_of_le hk hs)⟩
theorem Bx.drew {hi B : Nat} {a w : World} (h : Bx hi B a w) : Bx hi B a w.drew := ⟨h.os, h.tape, h.output, h.size, h.block⟩
theorem Bx.setCell {hi B : Nat} {a w : World} (h : Bx hi B a w) {p : Addr} (hp : hi ≤ p.block ∨ p.block = B) (u : Value) : Bx hi B a (w.setCell p u) := by
  refine ⟨h.os, h.tape, h.output, by rw [World.size_setCell]; exact h.size, fun k hk hb => ?_⟩
  rw [Below.heap_setCell w p u k (fun e => by subst e; omega)]
  exact h.block k hk hb
theorem Bx.grown {hi B : Nat} {a w w' : World} {row : Option Nat} (h : Bx hi B a w) (hg : w.grownBy w' row) (hz : hi ≤ w.heap.size) (hr : ∀ k, row = some k → hi ≤ k) : Bx hi B a w' :=
  ⟨hg.os.trans h.os, hg.tape.trans h.tape, hg.output.trans h.output, Nat.le_trans h.size hg.size, fun k hk hb => (hg.block k (Nat.lt_of_lt_of_le hk hz) (fun e => by have := hr k e.symm; omega)).trans (h.block k hk hb)⟩
theorem Bx.low {lo hi B : Nat} {w w' : World} (h : Bx hi B w w') (h1 : lo ≤ hi) (h2 : lo ≤ B) : Below lo w w' := ⟨h.os, h.tape, h.output, h.size, fun k hk => h.block k (by omega) (by omega)⟩

/-- An order in memory: T is ordered, wv are the waves, L waits. -/
structure Oq (w : World) (lo hi B : Nat) (h : Nat → Value) (vs wt : Value) (T : List Vx) (wv : Nat → Nat) (L : List Vx) : Prop where
  hB : lo ≤ B
  hl : lo ≤ hi
  hz : hi ≤ w.heap.size
  st : Str w B 60 (ordA vs wt wv)
  ov : OwnP 61 w hi vs (T.map (qV h))
  ow : OwnP 61 w hi wt (L.map (qV h))
  nv : vs.ownBlock ≠ some B
  nw : wt.ownBlock ≠ some B
  ne : ∀ b, vs.ownBlock = some b → wt.ownBlock ≠ some b
section
variable {w w' : World} {lo hi B : Nat} {h : Nat → Value} {vs wt : Value} {T L : List Vx} {wv : Nat → Nat}
theorem Oq.lt (o : Oq w lo hi B h vs wt T wv L) : B < w.heap.size := o.st.lt
theorem Oq.cvs (o : Oq w lo hi B h vs wt T wv L) : w.cell? ⟨B, 0, none⟩ = some vs := o.st.cell 0 (ordA_vs _ _ _)
theorem Oq.cwt (o : Oq w lo hi B h vs wt T wv L) : w.cell? ⟨B, 218, none⟩ = some wt := o.st.cell 218 (ordA_wt _ _ _)
theorem Oq.cwv (o : Oq w lo hi B h vs wt T wv L) {i : Nat} (h0 : 1 ≤ i) (h1 : i < 218) : w.cell? ⟨B, i, none⟩ = some (.int .i64 (wv i)) := o.st.cell i (ordA_wv _ _ _ h0 h1)
theorem Oq.kept (o : Oq w lo hi B h vs wt T wv L) (hg : w.grownBy w' none) : Oq w' lo hi B h vs wt T wv L :=
  ⟨o.hB, o.hl, Nat.le_trans o.hz hg.size, o.st.kept hg (by simp), o.ov.kept hg (by cases hv : vs.ownBlock <;> simp), o.ow.kept hg (by cases hv : wt.ownBlock <;> simp), o.nv, o.nw, o.ne⟩
theorem Oq.below (o : Oq w lo hi B h vs wt T wv L) (hb : Below w.heap.size w w') : Oq w' lo hi B h vs wt T wv L := o.kept (below_grown hb)
theorem Oq.drew (o : Oq w lo hi B h vs wt T wv L) : Oq w.drew lo hi B h vs wt T wv L := o.below (Below.refl _ _).drew
/-- A wave is written. -/
theorem Oq.setWv (o : Oq w lo hi B h vs wt T wv L) (i W : Nat) (h0 : 1 ≤ i) (h1 : i < 218) : Oq (w.setCell ⟨B, i, none⟩ (.int .i64 (W : Nat))) lo hi B h vs wt T (setO wv i W) L := by
  have hg := grownBy_set w B i (.int .i64 (W : Nat))
  refine ⟨o.hB, o.hl, Nat.le_trans o.hz hg.size, ?_, o.ov.kept hg (.inr o.nv), o.ow.kept hg (.inr o.nw), o.nv, o.nw, o.ne⟩
  have := o.st.set i (.int .i64 (W : Nat))
  rwa [ordA_setWv _ _ _ _ _ h0 h1] at this
/-- Two that wait are changed. -/
theorem Oq.swap {g cap n : Nat} (o : Oq w lo hi B h vs (.slice (some ⟨g, 0, none⟩) n cap) T wv L) (hn : n = L.length) (i j : Nat) (_hi' : i < L.length) (_hj : j < L.length) :
    Oq ((w.setCell ⟨g, i, none⟩ (ptrV (qV h (L.getD j vx0)))).setCell ⟨g, j, none⟩ (ptrV (qV h (L.getD i vx0)))) lo hi B h vs (.slice (some ⟨g, 0, none⟩) n cap) T wv (swpL L i j) := by
  have hgB : g ≠ B := fun e => o.nw (by rw [e]; rfl)
  obtain ⟨s1, g1⟩ := o.ow.store (by rw [List.length_map]; exact hn) i (qV h (L.getD j vx0))
  obtain ⟨s2, g2⟩ := s1.store (by rw [List.length_set, List.length_map]; exact hn) j (qV h (L.getD i vx0))
  refine ⟨o.hB, o.hl, Nat.le_trans o.hz (Nat.le_trans g1.size g2.size), (o.st.kept g1 (by simpa using fun e => hgB e.symm)).kept g2 (by simpa using fun e => hgB e.symm), (o.ov.kept g1 ?_).kept g2 ?_, ?_, o.nv, o.nw, o.ne⟩
  · cases hv : vs.ownBlock with
    | none => exact .inl rfl
    | some b => exact .inr fun e => o.ne b hv (by rw [e]; rfl)
  · cases hv : vs.ownBlock with
    | none => exact .inl rfl
    | some b => exact .inr fun e => o.ne b hv (by rw [e]; rfl)
  · unfold swpL
    rw [List.map_set, List.map_set]
    exact s2
/-- The last one that waits is struck. -/
theorem Oq.pop {g cap n : Nat} (o : Oq w lo hi B h vs (.slice (some ⟨g, 0, none⟩) (n + 1) cap) T wv L) (hn : L.length = n + 1) :
    Oq (w.setCell ⟨B, 218, none⟩ (.slice (some ⟨g, 0, none⟩) n cap)) lo hi B h vs (.slice (some ⟨g, 0, none⟩) n cap) T wv L.dropLast := by
  have hg := grownBy_set w B 218 (.slice (some ⟨g, 0, none⟩) n cap)
  have hnw : (Value.slice (some ⟨g, 0, none⟩) n cap).ownBlock ≠ some B := o.nw
  refine ⟨o.hB, o.hl, Nat.le_trans o.hz hg.size, ?_, o.ov.kept hg (.inr o.nv), ?_, o.nv, hnw, o.ne⟩
  · have := o.st.set 218 (.slice (some ⟨g, 0, none⟩) n cap)
    rwa [ordA_setWt] at this
  · have h1 := o.ow.pop (by rw [List.length_map]; exact hn)
    rw [← List.map_dropLast] at h1
    exact h1.kept hg (.inr hnw)
/-- One more waits: behind the append and the store. -/
theorem Oq.pushW {w1 : World} {wt' : Value} {y : Vx} {q : Nat} (o : Oq w lo hi B h vs wt T wv L) (hq : qV h y = q) (h1 : OwnP 61 w1 hi wt' (L.map (qV h) ++ [q])) (hg : w.grownBy w1 wt.ownBlock) (hl : ∀ g, wt'.ownBlock = some g → wt.ownBlock = some g ∨ w.heap.size ≤ g) :
    Oq (w1.setCell ⟨B, 218, none⟩ wt') lo hi B h vs wt' T wv (L ++ [y]) := by
  have hg2 := grownBy_set w1 B 218 wt'
  have hnw : wt'.ownBlock ≠ some B := fun e => by
    rcases hl B e with h | h
    · exact o.nw h
    · have := o.lt; omega
  have hvl : ∀ b, vs.ownBlock = some b → b < w.heap.size := fun b e => (World.ownsRow.lt o.ov b e).2
  refine ⟨o.hB, o.hl, Nat.le_trans o.hz (Nat.le_trans hg.size hg2.size), ?_, (o.ov.kept hg ?_).kept hg2 (.inr o.nv), ?_, o.nv, hnw, fun b e e2 => ?_⟩
  · have := (o.st.kept hg (fun e => o.nw e.symm)).set 218 wt'
    rwa [ordA_setWt] at this
  · cases hv : vs.ownBlock with
    | none => exact .inl rfl
    | some b => exact .inr fun e => o.ne b hv (by rw [← e])
  · rw [List.map_append, List.map_singleton, hq]
    exact h1.kept hg2 (.inr hnw)
  · rcases hl b e2 with h3 | h3
    · exact o.ne b e h3
    · have := hvl b e; omega
/-- One more is ordered: behind the append and the store. -/
theorem Oq.pushV {w1 : World} {vs' : Value} {y : Vx} {q : Nat} (o : Oq w lo hi B h vs wt T wv L) (hq : qV h y = q) (h1 : OwnP 61 w1 hi vs' (T.map (qV h) ++ [q])) (hg : w.grownBy w1 vs.ownBlock) (hl : ∀ g, vs'.ownBlock = some g → vs.ownBlock = some g ∨ w.heap.size ≤ g) :
    Oq (w1.setCell ⟨B, 0, none⟩ vs') lo hi B h vs' wt (T ++ [y]) wv L := by
  have hg2 := grownBy_set w1 B 0 vs'
  have hnv : vs'.ownBlock ≠ some B := fun e => by
    rcases hl B e with h | h
    · exact o.nv h
    · have := o.lt; omega
  have hwl : ∀ b, wt.ownBlock = some b → b < w.heap.size := fun b e => (World.ownsRow.lt o.ow b e).2
  refine ⟨o.hB, o.hl, Nat.le_trans o.hz (Nat.le_trans hg.size hg2.size), ?_, ?_, (o.ow.kept hg ?_).kept hg2 (.inr o.nw), hnv, o.nw, fun b e e2 => ?_⟩
  · have := (o.st.kept hg (fun e => o.nv e.symm)).set 0 vs'
    rwa [ordA_setVs] at this
  · rw [List.map_append, List.map_singleton, hq]
    exact h1.kept hg2 (.inr hnv)
  · cases hw : wt.ownBlock with
    | none => exact .inl rfl
    | some b => exact .inr fun e => o.ne b (by rw [← e]) hw
  · rcases hl b e with h3 | h3
    · exact o.ne b h3 e2
    · have := hwl b e2; omega
end

end Go.Proofs.YtjaacdapibokiaaGreatDoor

/- A graph of pointers while an order beside it changes: it stays as it was; its vertices by their blocks. -/
namespace Go.Proofs.YtjaacdapibokiaaGreatDoor
open Go.RowKit

theorem Nd.low {w0 w w' : World} {hi G q : Nat} {h : Nat → Value} {y : Vx} (n : Nd w0 w hi G h q y) (hb : Below hi w w') : Nd w0 w' hi G h q y := by
  obtain ⟨pa, pc, pv, qs, s, i, c, o, ob, l, p⟩ := n.ex
  exact ⟨n.lo, n.lt, n.ne, pa, pc, pv, qs, (hb.block _ n.lt).trans s, i, c, o.same fun g e => hb.block g (ob g e).2, ob, l, p⟩
theorem Lk.low {w0 w w' : World} {hi G : Nat} {mv : Value} {h : Nat → Value} {g : List Vx} (l : Lk w0 w hi G mv h g) (hb : Below hi w w') : Lk w0 w' hi G mv h g :=
  ⟨l.lo, l.lt, Nat.le_trans l.le hb.size, (hb.block _ l.lt).trans l.str, l.mem, fun y hy => by
    obtain ⟨q, e, n⟩ := l.has y hy
    exact ⟨q, e, n.low hb⟩, l.non⟩
/-- A vertex's struct, by its block. -/
def Vs (w : World) (hi : Nat) (h : Nat → Value) (y : Vx) : Prop := ∃ pa pc pv, Str w (qV h y) 63 #[.int .i64 y.r, .int .i64 y.a, .slice pa y.ps.length pc, .int .i64 y.d, pv] ∧ qV h y < hi
theorem Lk.vs {w0 w : World} {hi G : Nat} {mv : Value} {h : Nat → Value} {g : List Vx} (l : Lk w0 w hi G mv h g) {y : Vx} (hy : y ∈ g) : Vs w hi h y ∧ h (plN y.r y.a) = ptrV (qV h y) := by
  obtain ⟨q, e, n⟩ := l.has y hy
  have e2 := qV_of e
  obtain ⟨pa, pc, pv, qs, s, _⟩ := n.ex
  exact ⟨⟨pa, pc, pv, by rw [e2]; exact s, by rw [e2]; exact n.lt⟩, by rw [e2]; exact e⟩
theorem Vs.low {w w' : World} {hi : Nat} {h : Nat → Value} {y : Vx} (v : Vs w hi h y) (hb : Below hi w w') : Vs w' hi h y := by
  obtain ⟨pa, pc, pv, s, hl⟩ := v
  exact ⟨pa, pc, pv, (hb.block _ hl).trans s, hl⟩
/-- All the vertices of a list. -/
def VsA (w : World) (hi : Nat) (h : Nat → Value) (g : List Vx) : Prop := ∀ y ∈ g, Vs w hi h y
theorem VsA.low {w w' : World} {hi : Nat} {h : Nat → Value} {g : List Vx} (v : VsA w hi h g) (hb : Below hi w w') : VsA w' hi h g := fun y hy => (v y hy).low hb
theorem Lk.vsA {w0 w : World} {hi G : Nat} {mv : Value} {h : Nat → Value} {g : List Vx} (l : Lk w0 w hi G mv h g) : VsA w hi h g := fun _ hy => (l.vs hy).1

end Go.Proofs.YtjaacdapibokiaaGreatDoor

/- A region that draws its order and stores twice: a condition on the world is kept up to the first store; behind it each operation comes up alone. General steps; nothing here speaks of the program. -/
namespace Go.Proofs.YtjaacdapibokiaaGreatDoor
open Go.RowKit

section
variable {P : Program} {md : Region.Mode} {ops : Array Oper} {Q : Exit → Act → World → Prop} {S : World → Prop} {m : Nat}
theorem firstP {i : Nat} {oi : Oper} {v : Value} (hi : ops[i]? = some oi) (hsel : ∀ (j : Nat) (o : Oper) cs b, ops[j]? = some o → o.op ≠ .select cs b)
    (hQ : ∀ c a w, Q (.panic c) (a.put oi.dst v) w → Q (.panic c) a w) (him : i ≠ m) (fuel : Nat) :
    ∀ (listed : Array Bool) (a : Act) (w : World), FreeAt md ops oi i listed → i ∈ Region.ready md ops listed → YieldsIf P ops (fun _ => True) oi v a → (listed.getD m true = false → S w) →
      wpAnyL P md ops Q m S fuel (listed.setIfInBounds i true) (a.put oi.dst v) w → wpAnyL P md ops Q m S (fuel + 1) listed a w := by
  induction fuel with
  | zero =>
    intro listed a w _ hr hy hS H
    refine ⟨fun h => absurd hr (by rw [h]; simp), fun j hj => ?_⟩
    rcases Nat.decEq j i with hji | rfl
    · exact absurd (ready_mono hj hji) (by rw [H.1]; simp)
    · exact hy.wpOp hi trivial ⟨fun e => hS (by rwa [getD_set_ne true him] at e), H⟩
  | succ fuel ih =>
    intro listed a w hfree hr hy hS H
    refine ⟨fun h => absurd hr (by rw [h]; simp), fun j hj => ?_⟩
    rcases Nat.decEq j i with hji | rfl
    · obtain ⟨hjun, oj, hoj, hno⟩ := ready_pair hr hj
      refine wpOp_mono (fun a' w' h3 => ?_) (wpOp_putIf hoj (hfree j oj hoj hji hjun hno) (fun cs b => hsel i oi cs b hi) (fun cs b => hsel j oj cs b hoj) hQ hy (H.2 j (ready_mono hj hji)))
      have hS' : (listed.setIfInBounds j true).getD m true = false → S w' := fun e => h3.2.1 (by rw [Array.setIfInBounds_comm _ _ (Ne.symm hji), getD_set_ne true him]; exact e)
      exact ⟨hS', ih _ a' w' (hfree.set hjun) (ready_mono hr (Ne.symm hji)) h3.1 hS' (by rw [Array.setIfInBounds_comm _ _ hji]; exact h3.2.2)⟩
    · exact hy.wpOp hi trivial ⟨fun e => hS (by rwa [getD_set_ne true him] at e), H⟩
end

section
variable {P : Program} {md : Region.Mode} {l : List Oper} {Q : Exit → Act → World → Prop} {S : World → Prop} {oi : Oper} {rest : List Oper} {fuel m : Nat} {listed : Array Bool} {a : Act} {w : World}
/-- Take number i first: it yields v in every world, whether or not the first store has come up. -/
theorem takeP (i : Nat) {v : Value} (hi : l.drop i = oi :: rest) (hs : Region.noSelect l.toArray = true) (hf : Region.free md l.toArray listed i = true) (hr : (Region.ready md l.toArray listed).contains i = true) (him : (i != m) = true)
    (hQ : ∀ c a w, Q (.panic c) (a.put oi.dst v) w → Q (.panic c) a w) (hS : S w) (hw : Region.wanted oi (yielded l.toArray a.tmps) = true)
    (hy : ∀ w, (execOp a.eval oi).run P w = .ok (.value v) w)
    (h : wpAnyL P md l.toArray Q m S fuel (listed.setIfInBounds i true) (a.put oi.dst v) w) : wpAnyL P md l.toArray Q m S (fuel + 1) listed a w :=
  firstP (drop_at hi) (Region.noSelect_spec hs) hQ (by simpa using him) fuel listed a w (Region.free_spec (drop_at hi) hf) (by simpa using hr) (.inl ⟨hw, fun w _ => hy w⟩) (fun _ => hS) h
/-- Number i alone may come up; it is the first store, or the first store has come up: nothing is asked behind it. -/
theorem aloneL (i : Nat) (hi : l.drop i = oi :: rest) (hr : Region.ready md l.toArray listed = [i]) (hm : (listed.setIfInBounds i true).getD m true = true) (hw : Region.wanted oi (yielded l.toArray a.tmps) = true)
    (h : ∀ K' : Act → World → Prop, Shut (∀ a w, wpAnyL P md l.toArray Q m S fuel (listed.setIfInBounds i true) a w → K' a w) → Oper.wp P oi a w K' Q) : wpAnyL P md l.toArray Q m S (fuel + 1) listed a w := by
  refine ⟨fun h0 => absurd (hr ▸ h0) (by simp), fun j hj => ?_⟩
  rw [hr] at hj
  have : j = i := by simpa using hj
  subst this
  exact wpOp_step (drop_at hi) fun K' hK => by rw [if_pos hw]; exact h K' fun a w hW => hK a w ⟨fun e => absurd (hm.symm.trans e) (by simp), hW⟩
/-- Nothing is left. -/
theorem endL (hr : Region.ready md l.toArray listed = []) (h : Q .normal a w) : wpAnyL P md l.toArray Q m S fuel listed a w := by
  cases fuel with
  | zero => exact ⟨hr, h⟩
  | succ f => exact ⟨fun _ => h, by rw [hr]; simp⟩
end

end Go.Proofs.YtjaacdapibokiaaGreatDoor

/- The methods of the heap of waiting vertices, each by a walk of its text, and the calls of them through the interface; no conditions but that the list is shorter than 2^40. -/
namespace Go.Proofs.YtjaacdapibokiaaGreatDoor
open Go.RowKit

theorem wait_Len (a : Option Addr) (n cap : Nat) (w : World) : Calls Tryz.prog 77 #[.slice a n cap] w fun e w' => e = .returned (.int .i64 n) ∧ w = w' := by
  go_enter Tryz.func77, Tryz.ntmps77
  go_wp2
  go_ret
  exact ⟨rfl, rfl⟩

set_option maxRecDepth 8000 in
set_option maxHeartbeats 1000000 in
theorem wait_Less {w : World} {lo hi B : Nat} {h : Nat → Value} {vs : Value} {T L : List Vx} {wv : Nat → Nat} {a : Option Addr} {n cap : Nat} (o : Oq w lo hi B h vs (.slice a n cap) T wv L) (hv : VsA w lo h L) (i j : Nat) (hn : n = L.length) (hi' : i < L.length) (hj : j < L.length) (hL : L.length ≤ 1099511627776) :
    Calls Tryz.prog 121 #[.slice a n cap, .int .i64 i, .int .i64 j] w fun e w' => e = .returned (.bool (befB (L.getD i vx0) (L.getD j vx0))) ∧ Below w.heap.size w w' := by
  subst hn
  obtain ⟨gb, cap', ep, _, _, _, hcell, _⟩ := o.ow.row (by rw [List.length_map]; omega)
  simp only [Value.slice.injEq, List.length_map, true_and] at ep
  obtain ⟨rfl, rfl⟩ := ep
  have ci := hcell i (by rw [List.length_map]; exact hi')
  have cj := hcell j (by rw [List.length_map]; exact hj)
  rw [List.getElem_map] at ci cj
  obtain ⟨pa, pc, pv, s1, _⟩ := hv L[i] (List.getElem_mem hi')
  obtain ⟨pa', pc', pv', s2, _⟩ := hv L[j] (List.getElem_mem hj)
  rw [getV hi', getV hj]
  generalize hx : L[i] = x at *
  generalize hy : L[j] = y at *
  generalize hq1 : qV h x = q1 at *
  generalize hq2 : qV h y = q2 at *
  unfold ptrV at ci cj
  have hi1 : (i : Int) < (L.length : Int) := by omega
  have hj1 : (j : Int) < (L.length : Int) := by omega
  have c0 := s1.cell 0 (v := .int .i64 x.r) rfl
  have c1 := s1.cell 1 (v := .int .i64 x.a) rfl
  have c2 := s1.cell 2 (v := .slice pa x.ps.length pc) rfl
  have c3 := s1.cell 3 (v := .int .i64 x.d) rfl
  have d0 := s2.cell 0 (v := .int .i64 y.r) rfl
  have d1 := s2.cell 1 (v := .int .i64 y.a) rfl
  have d2 := s2.cell 2 (v := .slice pa' y.ps.length pc') rfl
  have d3 := s2.cell 3 (v := .int .i64 y.d) rfl
  have HB := Lib.hid (fun W => vertex_isBefore x y pa pa' pc pc' W)
  have hgl := World.block_lt_of_cell? _ _ ci
  have hq1l := s1.lt
  have hq2l := s2.lt
  generalize befB x y = bb at *
  obtain ⟨xr, xa, xp, xd⟩ := x
  obtain ⟨yr, ya, yp, yd⟩ := y
  dsimp only at *
  clear o hv hcell s1 s2 hx hy hq1 hq2
  go_enter Tryz.func121, Tryz.ntmps121
  go_wp2_with fail
  refine wp_region_held_drew (S := fun W => Below w.heap.size w W ∧ W.cell? ⟨gb, i, none⟩ = some (.pointer (some ⟨q1, 0, none⟩)) ∧ W.cell? ⟨gb, j, none⟩ = some (.pointer (some ⟨q2, 0, none⟩)) ∧ W.cell? ⟨q1, 0, none⟩ = some (.int .i64 xr) ∧ W.cell? ⟨q1, 1, none⟩ = some (.int .i64 xa) ∧ W.cell? ⟨q1, 2, none⟩ = some (.slice pa xp.length pc) ∧ W.cell? ⟨q1, 3, none⟩ = some (.int .i64 xd) ∧ W.cell? ⟨q2, 0, none⟩ = some (.int .i64 yr) ∧ W.cell? ⟨q2, 1, none⟩ = some (.int .i64 ya) ∧ W.cell? ⟨q2, 2, none⟩ = some (.slice pa' yp.length pc') ∧ W.cell? ⟨q2, 3, none⟩ = some (.int .i64 yd)) (by kernel_rfl) ⟨(Below.refl _ _).drew, ci, cj, c0, c1, c2, c3, d0, d1, d2, d3⟩ (fun hH => ?_)
  refine takeH 0 (v := ?vls1) rfl (by kernel_rfl) (by kernel_rfl) (by kernel_rfl) (fun _ _ _ h => h) hH rfl ?yls1 ?rls1
  case yls1 => intro W hSw; go_simp; try with_reducible rfl
  try simp only [Act.put, List.setIfInBounds_toArray, List.set_cons_zero, List.set_cons_succ]
  refine takeH 1 (v := ?vls2) rfl (by kernel_rfl) (by kernel_rfl) (by kernel_rfl) (fun _ _ _ h => h) hH rfl ?yls2 ?rls2
  case yls2 => intro W hSw; go_simp; try with_reducible rfl
  try simp only [Act.put, List.setIfInBounds_toArray, List.set_cons_zero, List.set_cons_succ]
  refine takeH 2 (v := ?vls3) rfl (by kernel_rfl) (by kernel_rfl) (by kernel_rfl) (fun _ _ _ h => h) hH rfl ?yls3 ?rls3
  case yls3 => intro W hSw; go_simp; try with_reducible rfl
  try simp only [Act.put, List.setIfInBounds_toArray, List.set_cons_zero, List.set_cons_succ]
  refine takeH 3 (v := ?vls4) rfl (by kernel_rfl) (by kernel_rfl) (by kernel_rfl) (fun _ _ _ h => h) hH rfl ?yls4 ?rls4
  case yls4 => intro W hSw; go_simp; try with_reducible rfl
  try simp only [Act.put, List.setIfInBounds_toArray, List.set_cons_zero, List.set_cons_succ]
  refine takeH 4 (v := ?vls5) rfl (by kernel_rfl) (by kernel_rfl) (by kernel_rfl) (fun _ _ _ h => h) hH rfl ?yls5 ?rls5
  case yls5 => intro W hSw; go_simp; try with_reducible rfl
  try simp only [Act.put, List.setIfInBounds_toArray, List.set_cons_zero, List.set_cons_succ]
  refine takeH 5 (v := ?vls6) rfl (by kernel_rfl) (by kernel_rfl) (by kernel_rfl) (fun _ _ _ h => h) hH rfl ?yls6 ?rls6
  case yls6 => intro W hSw; go_simp; try with_reducible rfl
  try simp only [Act.put, List.setIfInBounds_toArray, List.set_cons_zero, List.set_cons_succ]
  refine takeH 6 (v := ?vls7) rfl (by kernel_rfl) (by kernel_rfl) (by kernel_rfl) (fun _ _ _ h => h) hH rfl ?yls7 ?rls7
  case yls7 => intro W hSw; go_simp; try with_reducible rfl
  try simp only [Act.put, List.setIfInBounds_toArray, List.set_cons_zero, List.set_cons_succ]
  refine takeH 7 (v := ?vls8) rfl (by kernel_rfl) (by kernel_rfl) (by kernel_rfl) (fun _ _ _ h => h) hH rfl ?yls8 ?rls8
  case yls8 => intro W hSw; go_simp; try with_reducible rfl
  try simp only [Act.put, List.setIfInBounds_toArray, List.set_cons_zero, List.set_cons_succ]
  refine takeH 8 (v := ?vls9) rfl (by kernel_rfl) (by kernel_rfl) (by kernel_rfl) (fun _ _ _ h => h) hH rfl ?yls9 ?rls9
  case yls9 => intro W hSw; go_simp; try with_reducible rfl
  try simp only [Act.put, List.setIfInBounds_toArray, List.set_cons_zero, List.set_cons_succ]
  refine takeH 9 (v := ?vls10) rfl (by kernel_rfl) (by kernel_rfl) (by kernel_rfl) (fun _ _ _ h => h) hH rfl ?yls10 ?rls10
  case yls10 => intro W hSw; go_simp; try with_reducible rfl
  try simp only [Act.put, List.setIfInBounds_toArray, List.set_cons_zero, List.set_cons_succ]
  refine takeH 10 (v := ?vls11) rfl (by kernel_rfl) (by kernel_rfl) (by kernel_rfl) (fun _ _ _ h => h) hH rfl ?yls11 ?rls11
  case yls11 => intro W hSw; go_simp; try with_reducible rfl
  try simp only [Act.put, List.setIfInBounds_toArray, List.set_cons_zero, List.set_cons_succ]
  refine takeH 11 (v := ?vls12) rfl (by kernel_rfl) (by kernel_rfl) (by kernel_rfl) (fun _ _ _ h => h) hH rfl ?yls12 ?rls12
  case yls12 => intro W hSw; go_simp; try with_reducible rfl
  try simp only [Act.put, List.setIfInBounds_toArray, List.set_cons_zero, List.set_cons_succ]
  refine takeH 12 (v := ?vls13) rfl (by kernel_rfl) (by kernel_rfl) (by kernel_rfl) (fun _ _ _ h => h) hH rfl ?yls13 ?rls13
  case yls13 => intro W hSw; go_simp; try with_reducible rfl
  try simp only [Act.put, List.setIfInBounds_toArray, List.set_cons_zero, List.set_cons_succ]
  refine takeH 13 (v := ?vls14) rfl (by kernel_rfl) (by kernel_rfl) (by kernel_rfl) (fun _ _ _ h => h) hH rfl ?yls14 ?rls14
  case yls14 => intro W hSw; go_simp; try with_reducible rfl
  try simp only [Act.put, List.setIfInBounds_toArray, List.set_cons_zero, List.set_cons_succ]
  refine callH 14 rfl (by kernel_rfl) rfl (fun K hK => ?_)
  go_simp
  go_at_call 65
  refine (HB.out _).mono ?_
  rintro e wz ⟨rfl, hbz⟩
  refine hK.out _ _ ⟨below_step hH.1 hH.1.size hbz, (hbz.cell (p := ⟨gb, i, none⟩) (Nat.lt_of_lt_of_le hgl hH.1.size)).trans hH.2.1, (hbz.cell (p := ⟨gb, j, none⟩) (Nat.lt_of_lt_of_le hgl hH.1.size)).trans hH.2.2.1, (hbz.cell (p := ⟨q1, 0, none⟩) (Nat.lt_of_lt_of_le hq1l hH.1.size)).trans hH.2.2.2.1, (hbz.cell (p := ⟨q1, 1, none⟩) (Nat.lt_of_lt_of_le hq1l hH.1.size)).trans hH.2.2.2.2.1, (hbz.cell (p := ⟨q1, 2, none⟩) (Nat.lt_of_lt_of_le hq1l hH.1.size)).trans hH.2.2.2.2.2.1, (hbz.cell (p := ⟨q1, 3, none⟩) (Nat.lt_of_lt_of_le hq1l hH.1.size)).trans hH.2.2.2.2.2.2.1, (hbz.cell (p := ⟨q2, 0, none⟩) (Nat.lt_of_lt_of_le hq2l hH.1.size)).trans hH.2.2.2.2.2.2.2.1, (hbz.cell (p := ⟨q2, 1, none⟩) (Nat.lt_of_lt_of_le hq2l hH.1.size)).trans hH.2.2.2.2.2.2.2.2.1, (hbz.cell (p := ⟨q2, 2, none⟩) (Nat.lt_of_lt_of_le hq2l hH.1.size)).trans hH.2.2.2.2.2.2.2.2.2.1, (hbz.cell (p := ⟨q2, 3, none⟩) (Nat.lt_of_lt_of_le hq2l hH.1.size)).trans hH.2.2.2.2.2.2.2.2.2.2⟩ (fun hH => ?_)
  clear hK K
  try simp only [Act.put, List.setIfInBounds_toArray, List.set_cons_zero, List.set_cons_succ]
  refine takeH 15 (v := ?vls15) rfl (by kernel_rfl) (by kernel_rfl) (by kernel_rfl) (fun _ _ _ h => h) hH rfl ?yls15 ?rls15
  case yls15 => intro W hSw; go_simp; try with_reducible rfl
  try simp only [Act.put, List.setIfInBounds_toArray, List.set_cons_zero, List.set_cons_succ]
  have Hbz := Lib.hid hH.1
  refine wpAnyH_done (by kernel_rfl) ?_ _
  try simp only [Act.put]
  clear hH
  go_wp2
  go_ret
  exact ⟨rfl, Hbz.out⟩

set_option maxRecDepth 8000 in
set_option maxHeartbeats 1000000 in
theorem wait_Swap {w : World} {lo hi B : Nat} {h : Nat → Value} {vs : Value} {T L : List Vx} {wv : Nat → Nat} {a : Option Addr} {n cap : Nat} (o : Oq w lo hi B h vs (.slice a n cap) T wv L) (i j : Nat) (hn : n = L.length) (hi' : i < L.length) (hj : j < L.length) (hL : L.length ≤ 1099511627776) :
    Calls Tryz.prog 122 #[.slice a n cap, .int .i64 i, .int .i64 j] w fun e w' => e = .returned (.tuple #[]) ∧ Oq w' lo hi B h vs (.slice a n cap) T wv (swpL L i j) ∧ Bx hi B w w' := by
  obtain ⟨gb, cap', ep, hgh, hgl, _, hcell, hfr⟩ := o.ow.row (by rw [List.length_map]; omega)
  simp only [Value.slice.injEq, List.length_map] at ep
  obtain ⟨rfl, rfl, rfl⟩ := ep
  have ci := hcell i (by rw [List.length_map]; exact hi')
  have cj := hcell j (by rw [List.length_map]; exact hj)
  rw [List.getElem_map, ← getV hi'] at ci
  rw [List.getElem_map, ← getV hj] at cj
  have HS := Lib.hid (fun W (hW : W.heap[gb]? = w.heap[gb]?) (o : Oq W lo hi B h vs (.slice (some ⟨gb, 0, none⟩) L.length cap) T wv L) => o.swap rfl i j hi' hj)
  have Ho := Lib.hid o
  generalize qV h (L.getD i vx0) = q1 at *
  generalize qV h (L.getD j vx0) = q2 at *
  unfold ptrV at *
  have hi1 : (i : Int) < (L.length : Int) := by omega
  have hj1 : (j : Int) < (L.length : Int) := by omega
  have hfi := hfr i
  have hfj := hfr j
  have hz2 : ∃ z, (w.setCell ⟨gb, i, none⟩ (.pointer (some ⟨q2, 0, none⟩))).cell? ⟨gb, j, none⟩ = some z := by
    obtain ⟨s1, _⟩ := o.ow.store (by rw [List.length_map]) i q2
    obtain ⟨g', c', e, _, _, _, hc, _⟩ := s1.row (by rw [List.length_set, List.length_map]; omega)
    simp only [Value.slice.injEq, Option.some.injEq, Addr.mk.injEq, and_true] at e
    obtain ⟨rfl, _⟩ := e
    exact ⟨_, hc j (by rw [List.length_set, List.length_map]; exact hj)⟩
  have hf2 : (w.setCell ⟨gb, i, none⟩ (.pointer (some ⟨q2, 0, none⟩))).frozen? ⟨gb, j, none⟩ = false := by
    obtain ⟨s1, _⟩ := o.ow.store (by rw [List.length_map]) i q2
    obtain ⟨g', c', e, _, _, _, _, hf⟩ := s1.row (by rw [List.length_set, List.length_map]; omega)
    simp only [Value.slice.injEq, Option.some.injEq, Addr.mk.injEq, and_true] at e
    obtain ⟨rfl, _⟩ := e
    exact hf j
  obtain ⟨z2, hz2⟩ := hz2
  have Hof := Lib.hid (HS.out w rfl o).drew
  have hB : Bx hi B w ((w.setCell ⟨gb, i, none⟩ (.pointer (some ⟨q2, 0, none⟩))).setCell ⟨gb, j, none⟩ (.pointer (some ⟨q1, 0, none⟩))).drew := (((Bx.refl _ _ _).setCell (.inl hgh) _).setCell (.inl hgh) _).drew
  have HB := Lib.hid hB
  clear o hcell hfr hB HS Ho
  go_enter Tryz.func122, Tryz.ntmps122
  go_wp2_with fail
  refine wp_region_L 13 (fun W => W.cell? ⟨gb, i, none⟩ = some (.pointer (some ⟨q1, 0, none⟩)) ∧ W.cell? ⟨gb, j, none⟩ = some (.pointer (some ⟨q2, 0, none⟩))) (by kernel_rfl) ⟨ci, cj⟩ (fun hH => ?_)
  refine takeP 2 (v := ?vsw1) rfl (by kernel_rfl) (by kernel_rfl) (by kernel_rfl) (by kernel_rfl) (fun _ _ _ h => h) hH rfl ?ysw1 ?rsw1
  case ysw1 => intro W; go_simp; try with_reducible rfl
  try simp only [Act.put, List.setIfInBounds_toArray, List.set_cons_zero, List.set_cons_succ]
  refine takeP 3 (v := ?vsw2) rfl (by kernel_rfl) (by kernel_rfl) (by kernel_rfl) (by kernel_rfl) (fun _ _ _ h => h) hH rfl ?ysw2 ?rsw2
  case ysw2 => intro W; go_simp; try with_reducible rfl
  try simp only [Act.put, List.setIfInBounds_toArray, List.set_cons_zero, List.set_cons_succ]
  refine takeP 8 (v := ?vsw3) rfl (by kernel_rfl) (by kernel_rfl) (by kernel_rfl) (by kernel_rfl) (fun _ _ _ h => h) hH rfl ?ysw3 ?rsw3
  case ysw3 => intro W; go_simp; try with_reducible rfl
  try simp only [Act.put, List.setIfInBounds_toArray, List.set_cons_zero, List.set_cons_succ]
  refine takeP 9 (v := ?vsw4) rfl (by kernel_rfl) (by kernel_rfl) (by kernel_rfl) (by kernel_rfl) (fun _ _ _ h => h) hH rfl ?ysw4 ?rsw4
  case ysw4 => intro W; go_simp; try with_reducible rfl
  try simp only [Act.put, List.setIfInBounds_toArray, List.set_cons_zero, List.set_cons_succ]
  refine takeP 10 (v := ?vsw5) rfl (by kernel_rfl) (by kernel_rfl) (by kernel_rfl) (by kernel_rfl) (fun _ _ _ h => h) hH rfl ?ysw5 ?rsw5
  case ysw5 => intro W; go_simp; try with_reducible rfl
  try simp only [Act.put, List.setIfInBounds_toArray, List.set_cons_zero, List.set_cons_succ]
  refine takeL 0 (v := ?vsw6) rfl (by kernel_rfl) (by kernel_rfl) (by kernel_rfl) (by kernel_rfl) (by kernel_rfl) (fun _ _ _ h => h) hH rfl ?ysw6 ?rsw6
  case ysw6 => intro W hSw; go_simp; try with_reducible rfl
  try simp only [Act.put, List.setIfInBounds_toArray, List.set_cons_zero, List.set_cons_succ]
  refine takeL 1 (v := ?vsw7) rfl (by kernel_rfl) (by kernel_rfl) (by kernel_rfl) (by kernel_rfl) (by kernel_rfl) (fun _ _ _ h => h) hH rfl ?ysw7 ?rsw7
  case ysw7 => intro W hSw; go_simp; try with_reducible rfl
  try simp only [Act.put, List.setIfInBounds_toArray, List.set_cons_zero, List.set_cons_succ]
  refine takeL 4 (v := ?vsw8) rfl (by kernel_rfl) (by kernel_rfl) (by kernel_rfl) (by kernel_rfl) (by kernel_rfl) (fun _ _ _ h => h) hH rfl ?ysw8 ?rsw8
  case ysw8 => intro W hSw; go_simp; try with_reducible rfl
  try simp only [Act.put, List.setIfInBounds_toArray, List.set_cons_zero, List.set_cons_succ]
  refine takeL 5 (v := ?vsw9) rfl (by kernel_rfl) (by kernel_rfl) (by kernel_rfl) (by kernel_rfl) (by kernel_rfl) (fun _ _ _ h => h) hH rfl ?ysw9 ?rsw9
  case ysw9 => intro W hSw; go_simp; try with_reducible rfl
  try simp only [Act.put, List.setIfInBounds_toArray, List.set_cons_zero, List.set_cons_succ]
  refine takeL 6 (v := ?vsw10) rfl (by kernel_rfl) (by kernel_rfl) (by kernel_rfl) (by kernel_rfl) (by kernel_rfl) (fun _ _ _ h => h) hH rfl ?ysw10 ?rsw10
  case ysw10 => intro W hSw; go_simp; try with_reducible rfl
  try simp only [Act.put, List.setIfInBounds_toArray, List.set_cons_zero, List.set_cons_succ]
  refine takeL 7 (v := ?vsw11) rfl (by kernel_rfl) (by kernel_rfl) (by kernel_rfl) (by kernel_rfl) (by kernel_rfl) (fun _ _ _ h => h) hH rfl ?ysw11 ?rsw11
  case ysw11 => intro W hSw; go_simp; try with_reducible rfl
  try simp only [Act.put, List.setIfInBounds_toArray, List.set_cons_zero, List.set_cons_succ]
  refine takeL 11 (v := ?vsw12) rfl (by kernel_rfl) (by kernel_rfl) (by kernel_rfl) (by kernel_rfl) (by kernel_rfl) (fun _ _ _ h => h) hH rfl ?ysw12 ?rsw12
  case ysw12 => intro W hSw; go_simp; try with_reducible rfl
  try simp only [Act.put, List.setIfInBounds_toArray, List.set_cons_zero, List.set_cons_succ]
  have ci' : w.drew.cell? ⟨gb, i, none⟩ = some (.pointer (some ⟨q1, 0, none⟩)) := ci
  have hfi' : w.drew.frozen? ⟨gb, i, none⟩ = false := hfi
  skip
  refine callL 12 rfl (by kernel_rfl) rfl (fun K hK => ?_)
  go_simp
  refine hK.out _ _ hH (fun hH => ?_)
  clear hK K
  try simp only [Act.put, List.setIfInBounds_toArray, List.set_cons_zero, List.set_cons_succ]
  refine aloneL 13 rfl (by kernel_rfl) (by kernel_rfl) rfl (fun K hK => ?_)
  go_simp
  refine hK.out _ _ ?_
  clear hK K
  try simp only [Act.put, List.setIfInBounds_toArray, List.set_cons_zero, List.set_cons_succ]
  refine aloneL 14 rfl (by kernel_rfl) (by kernel_rfl) rfl (fun K hK => ?_)
  go_simp
  refine hK.out _ _ ?_
  clear hK K
  try simp only [Act.put, List.setIfInBounds_toArray, List.set_cons_zero, List.set_cons_succ]
  refine aloneL 15 rfl (by kernel_rfl) (by kernel_rfl) rfl (fun K hK => ?_)
  go_simp
  refine hK.out _ _ ?_
  clear hK K
  try simp only [Act.put, List.setIfInBounds_toArray, List.set_cons_zero, List.set_cons_succ]
  refine endL (by kernel_rfl) ?_
  try simp only [Act.put]
  clear ci cj hfi hfj hz2 hf2
  go_wp2
  go_end0
  exact ⟨rfl, Hof.out, HB.out⟩

end Go.Proofs.YtjaacdapibokiaaGreatDoor

/- Adding to the list of waiting vertices and taking the last one from it, by walks of the program's text; condition: the list is shorter than 2^40. -/
namespace Go.Proofs.YtjaacdapibokiaaGreatDoor
open Go.RowKit

/-- 'append(s, p)', p a pointer, as an operation of a region. -/
theorem op_pushP {P : Program} {T E : TypeId} (hsl : P.underlying T = some (.slice E)) (hinf : (P.info? E).map (fun i => (i.zero, i.size, i.bytes)) = some (some (.pointer none), 1, 8)) {w : World} {o : Oper} {a : Act} {K : Act → World → Prop} {Q : Exit → Act → World → Prop} (s x : Operand)
    (ho : o.op = .call { callee := .builtin .append, args := #[s, x], argTypes := #[T, T] }) (B : Nat) (v : Value) (qs : List Nat) (q : Nat) (hs : a.eval s = v) (hown : OwnP E w B v qs)
    (hlen : qs.length ≤ 1099511627776) (hx : a.eval x = .slice (some ⟨w.heap.size, 0, none⟩) 1 1) (hB : B ≤ w.heap.size)
    (h : ∀ v' w', OwnP E w' B v' (qs ++ [q]) → w.grownBy w' v.ownBlock → (∀ g, v'.ownBlock = some g → v.ownBlock = some g ∨ w.heap.size ≤ g) → K (a.put o.dst v') w') : Oper.wp P o a (w.alloc (.cells #[.pointer (some ⟨q, 0, none⟩)] E)) K Q := by
  obtain ⟨i, hi, hz, hsz, hby⟩ := info_parts hinf
  obtain ⟨v', w', hrun, h1, h2, _, h4⟩ := run_append_own_at (P := P) (w.alloc (.cells #[.pointer (some ⟨q, 0, none⟩)] E)) B T o.type E i (.pointer none) 1 8 hsl hi hz hsz hby rfl (by decide) v qs.length _ (World.ownsRow.alloc hown _) ⟨w.heap.size, 0, none⟩ 1 1 [ptrV q] rfl
    (cells_ptr w E q) (by intro u hu; simp at hu; subst hu; rfl) (by unfold maxLen; omega) (by omega) (by simp; omega)
  unfold Oper.wp execOp
  simp only [ho, resolve, invoke, builtin, Sem.run_bind, Sem.run_pure, Result.andThen_ok, List.map_toArray, List.map_cons, List.map_nil, hs, hx, hrun]
  refine h v' w' ?_ (grownBy_trans (World.grownBy_alloc _ _ _) h2) fun g e => ?_
  · unfold OwnP; simpa using h1
  · rcases h4 with h4 | h4
    · exact .inl (by rw [← h4]; exact e)
    · rw [h4] at e; cases e; exact .inr (by simp)

theorem wait_assert (v : Value) (w : World) : (Instr.typeAssert (.iface 61 v) 20 61 false).run Tryz.prog w = .ok v w := by kernel_rfl
set_option maxRecDepth 8000 in
set_option maxHeartbeats 1000000 in
theorem wait_Push {w : World} {lo hi B : Nat} {h : Nat → Value} {vs wt : Value} {T L : List Vx} {wv : Nat → Nat} (o : Oq w lo hi B h vs wt T wv L) (y : Vx) (q : Nat) (hq : qV h y = q) (hL : L.length ≤ 1048576) :
    Calls Tryz.prog 126 #[.pointer (some ⟨B, 218, none⟩), .iface 61 (.pointer (some ⟨q, 0, none⟩))] w fun e w' => e = .returned (.tuple #[]) ∧ ∃ wt', Oq w' lo hi B h vs wt' T wv (L ++ [y]) ∧ Bx hi B w w' := by
  have cw := o.drew.cwt
  have hs := wait_assert
  have Hown := Lib.hid o.drew.ow
  have hl : (L.map (qV h)).length ≤ 1099511627776 := by rw [List.length_map]; omega
  have HP := Lib.hid (fun w1 wt' => o.drew.pushW (w1 := w1) (wt' := wt') (y := y) hq)
  have hBl := o.drew.lt
  have Hst := Lib.hid o.drew.st
  have Hnw := Lib.hid o.nw
  have Hlt := Lib.hid (World.ownsRow.lt o.drew.ow)
  have Hb0 := Lib.hid (show Bx hi B w w.drew from (Bx.refl _ _ _).drew)
  have hoz := o.drew.hz
  obtain ⟨aw, cw', rfl, _⟩ := o.ow.slice
  rw [List.length_map] at *
  clear o
  go_enter Tryz.func126, Tryz.ntmps126
  go_wp2_with fail
  refine wp_region_L 9 (fun W => W.cell? ⟨B, 218, none⟩ = some (.slice aw L.length cw')) (by kernel_rfl) cw (fun hH => ?_)
  generalize w.drew = W0 at *
  have hhz : hi ≤ W0.heap.size := hoz
  refine takeL 0 (v := ?vpu1) rfl (by kernel_rfl) (by kernel_rfl) (by kernel_rfl) (by kernel_rfl) (by kernel_rfl) (fun _ _ _ h => h) hH rfl ?ypu1 ?rpu1
  case ypu1 => intro W hSw; go_simp; try with_reducible rfl
  try simp only [Act.put, List.setIfInBounds_toArray, List.set_cons_zero, List.set_cons_succ]
  refine takeL 1 (v := ?vpu2) rfl (by kernel_rfl) (by kernel_rfl) (by kernel_rfl) (by kernel_rfl) (by kernel_rfl) (fun _ _ _ h => h) hH rfl ?ypu2 ?rpu2
  case ypu2 => intro W hSw; go_simp; try with_reducible rfl
  try simp only [Act.put, List.setIfInBounds_toArray, List.set_cons_zero, List.set_cons_succ]
  refine takeL 2 (v := ?vpu3) rfl (by kernel_rfl) (by kernel_rfl) (by kernel_rfl) (by kernel_rfl) (by kernel_rfl) (fun _ _ _ h => h) hH rfl ?ypu3 ?rpu3
  case ypu3 => intro W hSw; go_simp; try with_reducible rfl
  try simp only [Act.put, List.setIfInBounds_toArray, List.set_cons_zero, List.set_cons_succ]
  refine takeL 3 (v := ?vpu4) rfl (by kernel_rfl) (by kernel_rfl) (by kernel_rfl) (by kernel_rfl) (by kernel_rfl) (fun _ _ _ h => h) hH rfl ?ypu4 ?rpu4
  case ypu4 => intro W hSw; go_simp; try with_reducible rfl
  try simp only [Act.put, List.setIfInBounds_toArray, List.set_cons_zero, List.set_cons_succ]
  refine takeL 4 (v := ?vpu5) rfl (by kernel_rfl) (by kernel_rfl) (by kernel_rfl) (by kernel_rfl) (by kernel_rfl) (fun _ _ _ h => h) hH rfl ?ypu5 ?rpu5
  case ypu5 => intro W hSw; go_simp; try with_reducible rfl
  try simp only [Act.put, List.setIfInBounds_toArray, List.set_cons_zero, List.set_cons_succ]
  refine takeL 5 (v := ?vpu6) rfl (by kernel_rfl) (by kernel_rfl) (by kernel_rfl) (by kernel_rfl) (by kernel_rfl) (fun _ _ _ h => h) hH rfl ?ypu6 ?rpu6
  case ypu6 => intro W hSw; go_simp; try with_reducible rfl
  try simp only [Act.put, List.setIfInBounds_toArray, List.set_cons_zero, List.set_cons_succ]
  refine callL 6 rfl (by kernel_rfl) rfl (fun K hK => ?_)
  go_simp
  have hal : Below W0.heap.size W0 (W0.alloc (.cells #[.pointer (some ⟨q, 0, none⟩)] 61)) := (Below.refl _ _).alloc (Nat.le_refl _) _
  have hc1 := (hal.cell (p := ⟨B, 218, none⟩) hBl).trans cw
  refine hK.out _ _ hc1 (fun hH => ?_)
  clear hK K
  try simp only [Act.put, List.setIfInBounds_toArray, List.set_cons_zero, List.set_cons_succ]
  refine callL 7 rfl (by kernel_rfl) rfl (fun K hK => ?_)
  refine op_pushP Tryz.underlying58 (by kernel_rfl) (.tmp 7) (.tmp 10) rfl hi _ (L.map (qV h)) q rfl Hown.out (by rw [List.length_map]; omega) rfl hhz ?_
  intro v8 w8 hown8 hg8 hloc8
  have s8 := Str.kept Hst.out hg8 (fun e => Hnw.out e.symm)
  have c8 := s8.cell 218 (ordA_wt _ _ _)
  have f8 := s8.frozen 218
  have Hfin := Lib.hid (HP.out w8 v8 hown8 hg8 hloc8)
  have Hb8 := Lib.hid ((Hb0.out.grown hg8 hhz (fun g e => (Hlt.out g e).1)).setCell (p := ⟨B, 218, none⟩) (.inr rfl) v8)
  clear hg8 hloc8 s8
  obtain ⟨a8, n8, rfl, hm8⟩ := hown8.slice
  rw [List.length_append, List.length_map, List.length_singleton] at *
  clear hown8
  refine hK.out _ _ c8 (fun hH => ?_)
  clear hK K
  try simp only [Act.put, List.setIfInBounds_toArray, List.set_cons_zero, List.set_cons_succ]
  refine callL 8 rfl (by kernel_rfl) rfl (fun K hK => ?_)
  go_simp
  refine hK.out _ _ hH (fun hH => ?_)
  clear hK K
  try simp only [Act.put, List.setIfInBounds_toArray, List.set_cons_zero, List.set_cons_succ]
  refine lastL rfl (by kernel_rfl) (by kernel_rfl) (by kernel_rfl) rfl (fun K hK => ?_)
  go_simp
  refine hK.out _ _ ?_
  clear hK K
  try simp only [Act.put]
  go_wp2
  go_end0
  exact ⟨rfl, _, Hfin.out, Hb8.out⟩

set_option maxRecDepth 8000 in
set_option maxHeartbeats 1000000 in
theorem wait_Pop {w : World} {lo hi B : Nat} {h : Nat → Value} {vs wt : Value} {T L : List Vx} {wv : Nat → Nat} (o : Oq w lo hi B h vs wt T wv L) {n : Nat} (hn : L.length = n + 1) (hL : L.length ≤ 1048577) :
    Calls Tryz.prog 125 #[.pointer (some ⟨B, 218, none⟩)] w fun e w' => e = .returned (.iface 61 (.pointer (some ⟨qV h (L.getD n vx0), 0, none⟩))) ∧ ∃ wt', Oq w' lo hi B h vs wt' T wv L.dropLast ∧ Bx hi B w w' := by
  have cw := o.cwt
  obtain ⟨gb, cap, rfl, hgh, hgl, hcp, hcell, _⟩ := o.ow.row (by rw [List.length_map]; omega)
  have hlm : (L.map (qV h)).length = n + 1 := by rw [List.length_map]; exact hn
  have cn := hcell n (by omega)
  rw [List.getElem_map, ← getV (by omega)] at cn
  rw [hlm] at o cw hcp
  have hf := o.st.frozen 218
  have hmk : ∀ x w, (Instr.makeInterface 61 x).run Tryz.prog w = .ok (.iface 61 x) w := fun x w => run_makeInterface w 61 x (by kernel_rfl)
  have Hfin := Lib.hid (o.pop hn)
  have HB := Lib.hid ((Bx.refl hi B w).setCell (p := ⟨B, 218, none⟩) (.inr rfl) (.slice (some ⟨gb, 0, none⟩) n cap))
  generalize qV h (L.getD n vx0) = q at *
  unfold ptrV at cn
  have e1 : IntKind.i64.wrap (((n + 1 : Nat) : Int) - 1) = (n : Int) := by rw [IntWalk.i64_in _ (by omega)]; omega
  have e2 : (n : Int) < ((n + 1 : Nat) : Int) := by omega
  have e3 : (n : Int) ≤ (cap : Int) := by omega
  clear o hcell
  go_enter Tryz.func125, Tryz.ntmps125
  go_wp2
  go_ret
  exact ⟨rfl, _, Hfin.out, HB.out⟩

end Go.Proofs.YtjaacdapibokiaaGreatDoor

/- The heap's operations of Go's library over the list of waiting vertices, by walks of their texts; condition: the list is shorter than 2^20. -/
namespace Go.Proofs.YtjaacdapibokiaaGreatDoor
open Go.RowKit

theorem run_then (a : Addr) (f : FuncId) (w : World) (v : Value) (h : w.cell? a = some v) : (do let v ← load a; pure (f, v) : Sem (FuncId × Value)).run Tryz.prog w = .ok (f, v) w := by
  rw [Sem.run_bind]
  go_simp
theorem wait_mLen (n B : Nat) (w : World) (v : Value) (h : w.cell? ⟨B, 218, none⟩ = some v) : (method (n + 1) 117 (.pointer (some ⟨B, 218, none⟩)) "Len").run Tryz.prog w = .ok (77, v) w := by
  have e : (method (n + 1) 117 (.pointer (some ⟨B, 218, none⟩)) "Len").run Tryz.prog w = (do let v ← load ⟨B, 218, none⟩; pure (77, v) : Sem (FuncId × Value)).run Tryz.prog w := by kernel_rfl
  rw [e]; exact run_then _ _ _ _ h
theorem wait_mLess (n B : Nat) (w : World) (v : Value) (h : w.cell? ⟨B, 218, none⟩ = some v) : (method (n + 1) 117 (.pointer (some ⟨B, 218, none⟩)) "Less").run Tryz.prog w = .ok (121, v) w := by
  have e : (method (n + 1) 117 (.pointer (some ⟨B, 218, none⟩)) "Less").run Tryz.prog w = (do let v ← load ⟨B, 218, none⟩; pure (121, v) : Sem (FuncId × Value)).run Tryz.prog w := by kernel_rfl
  rw [e]; exact run_then _ _ _ _ h
theorem wait_mSwap (n B : Nat) (w : World) (v : Value) (h : w.cell? ⟨B, 218, none⟩ = some v) : (method (n + 1) 117 (.pointer (some ⟨B, 218, none⟩)) "Swap").run Tryz.prog w = .ok (122, v) w := by
  have e : (method (n + 1) 117 (.pointer (some ⟨B, 218, none⟩)) "Swap").run Tryz.prog w = (do let v ← load ⟨B, 218, none⟩; pure (122, v) : Sem (FuncId × Value)).run Tryz.prog w := by kernel_rfl
  rw [e]; exact run_then _ _ _ _ h
theorem wait_mPush (n B : Nat) (w : World) : (method (n + 1) 117 (.pointer (some ⟨B, 218, none⟩)) "Push").run Tryz.prog w = .ok (126, .pointer (some ⟨B, 218, none⟩)) w := by kernel_rfl
theorem wait_mPop (n B : Nat) (w : World) : (method (n + 1) 117 (.pointer (some ⟨B, 218, none⟩)) "Pop").run Tryz.prog w = .ok (125, .pointer (some ⟨B, 218, none⟩)) w := by kernel_rfl
theorem wait_cLen (x : Array Value) (w : World) : (callFunc 77 x).run Tryz.prog w = .ok (.enter 77 x) w := by kernel_rfl
theorem wait_cLess (x : Array Value) (w : World) : (callFunc 121 x).run Tryz.prog w = .ok (.enter 121 x) w := by kernel_rfl
theorem wait_cSwap (x : Array Value) (w : World) : (callFunc 122 x).run Tryz.prog w = .ok (.enter 122 x) w := by kernel_rfl
theorem wait_cPush (x : Array Value) (w : World) : (callFunc 126 x).run Tryz.prog w = .ok (.enter 126 x) w := by kernel_rfl
theorem wait_cPop (x : Array Value) (w : World) : (callFunc 125 x).run Tryz.prog w = .ok (.enter 125 x) w := by kernel_rfl

/-- What the heap's vertices are: in range, and in memory. -/
def VsH (w : World) (hi : Nat) (h : Nat → Value) (L : List Vx) : Prop := VsA w hi h L ∧ ∀ y ∈ L, inPl y
theorem VsH.perm {w w' : World} {hi : Nat} {h : Nat → Value} {L L' : List Vx} (v : VsH w hi h L) (hb : Below hi w w') (hp : L'.Perm L) : VsH w' hi h L' :=
  ⟨fun y hy => (v.1 y (hp.mem_iff.1 hy)).low hb, fun y hy => v.2 y (hp.mem_iff.1 hy)⟩
theorem VsH.bef {w : World} {hi : Nat} {h : Nat → Value} {L : List Vx} (v : VsH w hi h L) {i j : Nat} (hi' : i < L.length) (hj : j < L.length) : befB (L.getD i vx0) (L.getD j vx0) = decide (kyA L i < kyA L j) := by
  have h1 := v.2 _ (List.getElem_mem hi'); have h2 := v.2 _ (List.getElem_mem hj)
  rw [Bool.eq_iff_iff, decide_eq_true_iff]
  unfold kyA
  rw [getV hi', getV hj]
  exact ky_bef h1 h2

set_option maxRecDepth 8000 in
set_option maxHeartbeats 1000000 in
theorem heap_up {w : World} {lo hi B : Nat} {h : Nat → Value} {vs : Value} {T L : List Vx} {wv : Nat → Nat} {a : Option Addr} {n cap : Nat} (o : Oq w lo hi B h vs (.slice a n cap) T wv L) (hv : VsH w lo h L) (j : Nat) (hn : n = L.length) (hj : j < L.length) (hL : L.length ≤ 1048576) (hu : HpU L L.length j) :
    Calls Tryz.prog 100 #[.iface 117 (.pointer (some ⟨B, 218, none⟩)), .int .i64 j] w fun e w' => e = .returned (.tuple #[]) ∧ ∃ L', Oq w' lo hi B h vs (.slice a n cap) T wv L' ∧ L'.Perm L ∧ HpN L' L'.length ∧ Bx hi B w w' := by
  subst hn
  have Ho := Lib.hid o
  have Hv := Lib.hid hv
  have Hu := Lib.hid hu
  have hlL := wait_mLess
  have hlS := wait_mSwap
  have hcL := wait_cLess
  have hcS := wait_cSwap
  clear o hv hu
  go_enter Tryz.func100, Tryz.ntmps100
  go_wp2_with fail
  go_loopw [1] (fun i wr => ∃ (k : Nat) (L' : List Vx), i = .int .i64 k ∧ k < L.length ∧ L'.Perm L ∧ HpU L' L.length k ∧ Oq wr lo hi B h vs (.slice a L.length cap) T wv L' ∧ Bx hi B w wr) (fun i _ => (intOf i).toNat)
  case atStart => exact ⟨j, L, rfl, hj, List.Perm.refl _, Hu.out, Ho.out, Bx.refl _ _ _⟩
  case round =>
    obtain ⟨k, L', rfl, hk, hp, hu, o, hb⟩ := hrel
    have hl := hp.length_eq
    have hw := o.cwt
    by_cases h0 : k = 0
    · subst h0
      have Hf := Lib.hid (hpu_end hu (fun h => by omega))
      go_wp2
      go_end0
      exact ⟨rfl, L', o, hp, by rw [hl]; exact Hf.out, hb⟩
    · have e1 : IntKind.i64.wrap ((k : Int) - 1) = ((k - 1 : Nat) : Int) := by rw [IntWalk.i64_in _ (by omega)]; omega
      obtain ⟨p, hpk⟩ : ∃ p, p = (k - 1) / 2 := ⟨_, rfl⟩
      have e2 : ((k - 1 : Nat) : Int) / 2 = (p : Int) := by omega
      have e4 : ((p : Int) == (k : Int)) = false := by rw [beq_eq_false_iff_ne]; omega
      have hvr := Hv.out.perm (hb.low o.hl o.hB) hp
      have hpl : p < L'.length := by omega
      have hkl : k < L'.length := by omega
      have HLs := Lib.hid (wait_Less o hvr.1 k p hl.symm hkl hpl (by omega))
      rw [hvr.bef hkl hpl] at HLs
      have Hp := Lib.hid hp; have Hb := Lib.hid hb; have Hu2 := Lib.hid hu; have Ho2 := Lib.hid o
      clear hp hb hu o hvr
      generalize hkq : (k - 1 : Nat) = k1 at *
      have Hkq := Lib.hid hkq; have Hpk := Lib.hid hpk
      clear hkq hpk
      go_wp2_with fail
      refine HLs.out.mono ?_
      rintro e w1 ⟨rfl, hb1⟩
      have o1 := Ho2.out.below hb1
      have hw1 := o1.cwt
      have Ho3 := Lib.hid o1
      have Hb3 := Lib.hid (Hb.out.trans (.of hb1 Ho2.out.hz))
      clear hb1 o1 hw
      by_cases hlt : kyA L' k < kyA L' p
      · rw [decide_eq_true hlt]
        have HSw := Lib.hid (wait_Swap Ho3.out p k hl.symm hpl hkl (by omega))
        have hpk2 : p < k := by have := Hpk.out; have := Hkq.out; omega
        have Hst := Lib.hid (show HpU (swpL L' p k) L.length p from by have hpk := Hpk.out; rw [← Hkq.out] at hpk; rw [hpk] at hlt ⊢; exact hpu_step hl.symm hk (by omega) Hu2.out hlt)
        clear hlt
        go_wp2_with fail
        refine HSw.out.mono ?_
        rintro e w2 ⟨rfl, o2, hb2⟩
        have Ho4 := Lib.hid o2; have Hb4 := Lib.hid (Hb3.out.trans hb2)
        have Hp4 := Lib.hid ((swp_perm hpl hkl).trans Hp.out)
        clear o2 hb2 hw1
        go_wp2
        go_roundw
        case rel => exact ⟨p, swpL L' p k, rfl, by omega, Hp4.out, Hst.out, Ho4.out, Hb4.out⟩
        case measure => simp [intOf]; omega
      · rw [decide_eq_false hlt]
        have Hf := Lib.hid (hpu_end Hu2.out (fun _ => by rw [Hkq.out, ← Hpk.out]; omega))
        go_wp2
        go_end0
        exact ⟨rfl, L', Ho3.out, Hp.out, by rw [hl]; exact Hf.out, Hb3.out⟩

set_option maxRecDepth 8000 in
set_option maxHeartbeats 1000000 in
theorem heap_Push {w : World} {lo hi B : Nat} {h : Nat → Value} {vs wt : Value} {T L : List Vx} {wv : Nat → Nat} (o : Oq w lo hi B h vs wt T wv L) (y : Vx) (q : Nat) (hq : qV h y = q) (hv : VsH w lo h (L ++ [y])) (hL : L.length ≤ 1048575) (hh : HpN L L.length) :
    Calls Tryz.prog 90 #[.iface 117 (.pointer (some ⟨B, 218, none⟩)), .iface 61 (.pointer (some ⟨q, 0, none⟩))] w fun e w' => e = .returned (.tuple #[]) ∧ ∃ wt' L', Oq w' lo hi B h vs wt' T wv L' ∧ L'.Perm (L ++ [y]) ∧ HpN L' L'.length ∧ Bx hi B w w' := by
  have hmL := wait_mLen
  have hmP := wait_mPush
  have hcL := wait_cLen
  have hcP := wait_cPush
  have HP := Lib.hid (wait_Push o y q hq (by omega))
  have Hu := Lib.hid (hpu_push (x := y) hh)
  have Hv := Lib.hid hv
  clear o hv hh hq
  go_enter Tryz.func90, Tryz.ntmps90
  go_wp2_with fail
  refine HP.out.mono ?_
  rintro e w1 ⟨rfl, wt1, o1, hb1⟩
  have hw1 := o1.cwt
  obtain ⟨a1, c1, rfl, _⟩ := o1.ow.slice
  rw [List.length_map] at *
  have hll : (L ++ [y]).length = L.length + 1 := by simp
  have HL := Lib.hid (fun W => wait_Len a1 (L ++ [y]).length c1 W)
  have e1 : IntKind.i64.wrap (((L ++ [y]).length : Int) - 1) = (L.length : Int) := by rw [IntWalk.i64_in _ (by omega)]; omega
  have HU := Lib.hid (heap_up o1 (Hv.out.perm (hb1.low o1.hl o1.hB) (List.Perm.refl _)) L.length rfl (by omega) (by omega) (by rw [hll]; exact Hu.out))
  have Hb1 := Lib.hid hb1
  clear o1 hb1
  generalize (L ++ [y]).length = m at *
  clear hll
  go_wp2_with fail
  refine (HL.out _).mono ?_
  rintro e w2 ⟨rfl, rfl⟩
  go_wp2_with fail
  refine HU.out.mono ?_
  rintro e w3 ⟨rfl, L', o3, hp3, hn3, hb3⟩
  have Ho3 := Lib.hid o3; have Hb3 := Lib.hid (Hb1.out.trans hb3)
  clear o3 hb3
  go_wp2
  go_end0
  exact ⟨rfl, _, L', Ho3.out, hp3, hn3, Hb3.out⟩

end Go.Proofs.YtjaacdapibokiaaGreatDoor

/- The heap's sifting down and its taking of the least, by walks of the library's texts; condition: the list is shorter than 2^20. -/
namespace Go.Proofs.YtjaacdapibokiaaGreatDoor
open Go.RowKit

set_option maxRecDepth 8000 in
set_option maxHeartbeats 4000000 in
theorem heap_down {w : World} {lo hi B : Nat} {h : Nat → Value} {vs : Value} {T L : List Vx} {wv : Nat → Nat} {a : Option Addr} {cap : Nat} (o : Oq w lo hi B h vs (.slice a L.length cap) T wv L) (hv : VsH w lo h L) (n : Nat) (hn : n ≤ L.length) (h0 : 0 < L.length) (hL : L.length ≤ 1048577) (hu : HpD L n 0) :
    Calls Tryz.prog 91 #[.iface 117 (.pointer (some ⟨B, 218, none⟩)), .int .i64 0, .int .i64 n] w fun e w' => ∃ v, e = .returned v ∧ ∃ L', Oq w' lo hi B h vs (.slice a L.length cap) T wv L' ∧ L'.Perm L ∧ HpN L' n ∧ (∀ z, n ≤ z → L'.getD z vx0 = L.getD z vx0) ∧ Bx hi B w w' := by
  have Ho := Lib.hid o
  have Hv := Lib.hid hv
  have Hu := Lib.hid hu
  have hlL := wait_mLess
  have hlS := wait_mSwap
  have hcL := wait_cLess
  have hcS := wait_cSwap
  clear o hv hu
  go_enter Tryz.func91, Tryz.ntmps91
  go_wp2_with fail
  go_loopw [7] (fun i wr => ∃ (k : Nat) (L' : List Vx), i = .int .i64 k ∧ k < L.length ∧ L'.Perm L ∧ HpD L' n k ∧ (∀ z, n ≤ z → L'.getD z vx0 = L.getD z vx0) ∧ Oq wr lo hi B h vs (.slice a L.length cap) T wv L' ∧ Bx hi B w wr) (fun i _ => L.length - (intOf i).toNat)
  case atStart => exact ⟨0, L, rfl, h0, List.Perm.refl _, Hu.out, fun _ _ => rfl, Ho.out, Bx.refl _ _ _⟩
  case round =>
    obtain ⟨k, L', rfl, hk, hp, hd, hby, o, hb⟩ := hrel
    have hl := hp.length_eq
    have hw := o.cwt
    have Hp := Lib.hid hp; have Hd := Lib.hid hd; have Hby := Lib.hid hby; have Ho1 := Lib.hid o; have Hb1 := Lib.hid hb
    have HV1 := Lib.hid (Hv.out.perm (hb.low o.hl o.hB) hp)
    clear hp hd hby o hb
    obtain ⟨j1, hj1⟩ : ∃ j1, j1 = 2 * k + 1 := ⟨_, rfl⟩
    have e1 : IntKind.i64.wrap (2 * (k : Int)) = 2 * (k : Int) := IntWalk.i64_in _ (by omega)
    have e2 : 2 * (k : Int) + 1 = (j1 : Int) := by omega
    have e3 : IntKind.i64.wrap (j1 : Int) = (j1 : Int) := IntWalk.i64_in _ (by omega)
    have e4 : ¬ (j1 : Int) < 0 := by omega
    have Hj1 := Lib.hid hj1
    clear hj1
    by_cases hge : n ≤ j1
    · have hge' : (n : Int) ≤ (j1 : Int) := by omega
      have Hf := Lib.hid (hpd_end Hd.out (fun c h1 h2 h3 => by have := Hj1.out; omega))
      go_wp2
      go_ret
      first | exact ⟨⟨_, rfl⟩, L', Ho1.out, Hp.out, Hf.out, Hby.out, Hb1.out⟩ | exact ⟨_, rfl, L', Ho1.out, Hp.out, Hf.out, Hby.out, Hb1.out⟩
    · have hge' : ¬ (n : Int) ≤ (j1 : Int) := by omega
      obtain ⟨j2, hj2⟩ : ∃ j2, j2 = j1 + 1 := ⟨_, rfl⟩
      have e5 : (j1 : Int) + 1 = (j2 : Int) := by omega
      have e6 : IntKind.i64.wrap (j2 : Int) = (j2 : Int) := IntWalk.i64_in _ (by omega)
      have Hj2 := Lib.hid hj2
      clear hj2
      have hk1 := Hj1.out
      have hk2 := Hj2.out
      have Hk1 := Lib.hid hk1; have Hk2 := Lib.hid hk2
      by_cases hlt2 : j2 < n
      · have hlt2' : (j2 : Int) < (n : Int) := by omega
        have HL1 := Lib.hid (wait_Less Ho1.out HV1.out.1 j2 j1 hl.symm (by omega) (by omega) (by omega))
        rw [HV1.out.bef (by omega) (by omega)] at HL1
        clear hk1 hk2
        go_wp2_with fail
        refine HL1.out.mono ?_
        rintro e w2 ⟨rfl, hb2⟩
        have Ho2 := Lib.hid (Ho1.out.below hb2)
        have hb2' : Bx hi B wr w2 := .of hb2 Ho1.out.hz
        have HV2 := Lib.hid (HV1.out.perm (hb2'.low Ho1.out.hl Ho1.out.hB) (List.Perm.refl _))
        have Hb2 := Lib.hid (Hb1.out.trans hb2')
        clear hb2 hb2' hw
        by_cases hc : kyA L' j2 < kyA L' j1
        · rw [decide_eq_true hc]
          have hk1 := Hk1.out; have hk2 := Hk2.out
          have Hc := Lib.hid (show ∀ c, 0 < c → c < n → (c - 1) / 2 = k → kyA L' j2 ≤ kyA L' c from fun c h1 h2 h3 => by
            have : c = j1 ∨ c = j2 := by omega
            rcases this with rfl | rfl
            · exact Nat.le_of_lt hc
            · exact Nat.le_refl _)
          clear hc
          have HLs := Lib.hid (wait_Less Ho2.out HV2.out.1 j2 k hl.symm (by omega) (by omega) (by omega))
          rw [HV2.out.bef (by omega) (by omega)] at HLs
          have hw2 := Ho2.out.cwt
          clear hk1 hk2
          go_wp2_with fail
          refine HLs.out.mono ?_
          rintro e w4 ⟨rfl, hb4⟩
          have hk1 := Hk1.out
          have hk2 := Hk2.out
          have o4 := Ho2.out.below hb4
          have hw4 := o4.cwt
          have Ho4 := Lib.hid o4
          have Hb4 := Lib.hid (Hb2.out.trans (.of hb4 Ho2.out.hz))
          clear hb4 o4 hw2
          by_cases hlt : kyA L' j2 < kyA L' k
          · rw [decide_eq_true hlt]
            have HSw := Lib.hid (wait_Swap Ho4.out k j2 hl.symm (by omega) (by omega) (by omega))
            have Hst := Lib.hid (show HpD (swpL L' k j2) n j2 from hpd_step (by omega) (by omega) (by omega) (by omega) Hd.out hlt (Hc.out))
            have Hbe := Lib.hid (show ∀ z, n ≤ z → (swpL L' k j2).getD z vx0 = L.getD z vx0 from fun z hz => by rw [swp_get (by omega) (by omega), if_neg (by omega), if_neg (by omega)]; exact Hby.out z hz)
            have Hp4 := Lib.hid ((swp_perm (L := L') (i := k) (j := j2) (by omega) (by omega)).trans Hp.out)
            clear hlt hk1 hk2
            go_wp2_with fail
            refine HSw.out.mono ?_
            rintro e w5 ⟨rfl, o5, hb5⟩
            have Ho5 := Lib.hid o5; have Hb5 := Lib.hid (Hb4.out.trans hb5)
            clear o5 hb5 hw4
            go_wp2
            go_roundw
            case rel => exact ⟨j2, swpL L' k j2, rfl, by have := Hk1.out; have := Hk2.out; omega, Hp4.out, Hst.out, Hbe.out, Ho5.out, Hb5.out⟩
            case measure => simp [intOf]; have := Hk1.out; have := Hk2.out; omega
          · rw [decide_eq_false hlt]
            have Hf := Lib.hid (hpd_end Hd.out (fun c h1 h2 h3 => Nat.le_trans (Nat.le_of_not_lt hlt) ((Hc.out) c h1 h2 h3)))
            clear hlt hk1 hk2
            go_wp2
            go_ret
            first | exact ⟨⟨_, rfl⟩, L', Ho4.out, Hp.out, Hf.out, Hby.out, Hb4.out⟩ | exact ⟨_, rfl, L', Ho4.out, Hp.out, Hf.out, Hby.out, Hb4.out⟩
        · rw [decide_eq_false hc]
          have hk1 := Hk1.out; have hk2 := Hk2.out
          have Hc := Lib.hid (show ∀ c, 0 < c → c < n → (c - 1) / 2 = k → kyA L' j1 ≤ kyA L' c from fun c h1 h2 h3 => by
            have : c = j1 ∨ c = j2 := by omega
            rcases this with rfl | rfl
            · exact Nat.le_refl _
            · exact Nat.le_of_not_lt hc)
          clear hc
          have HLs := Lib.hid (wait_Less Ho2.out HV2.out.1 j1 k hl.symm (by omega) (by omega) (by omega))
          rw [HV2.out.bef (by omega) (by omega)] at HLs
          have hw2 := Ho2.out.cwt
          clear hk1 hk2
          go_wp2_with fail
          refine HLs.out.mono ?_
          rintro e w4 ⟨rfl, hb4⟩
          have hk1 := Hk1.out
          have hk2 := Hk2.out
          have o4 := Ho2.out.below hb4
          have hw4 := o4.cwt
          have Ho4 := Lib.hid o4
          have Hb4 := Lib.hid (Hb2.out.trans (.of hb4 Ho2.out.hz))
          clear hb4 o4 hw2
          by_cases hlt : kyA L' j1 < kyA L' k
          · rw [decide_eq_true hlt]
            have HSw := Lib.hid (wait_Swap Ho4.out k j1 hl.symm (by omega) (by omega) (by omega))
            have Hst := Lib.hid (show HpD (swpL L' k j1) n j1 from hpd_step (by omega) (by omega) (by omega) (by omega) Hd.out hlt (Hc.out))
            have Hbe := Lib.hid (show ∀ z, n ≤ z → (swpL L' k j1).getD z vx0 = L.getD z vx0 from fun z hz => by rw [swp_get (by omega) (by omega), if_neg (by omega), if_neg (by omega)]; exact Hby.out z hz)
            have Hp4 := Lib.hid ((swp_perm (L := L') (i := k) (j := j1) (by omega) (by omega)).trans Hp.out)
            clear hlt hk1 hk2
            go_wp2_with fail
            refine HSw.out.mono ?_
            rintro e w5 ⟨rfl, o5, hb5⟩
            have Ho5 := Lib.hid o5; have Hb5 := Lib.hid (Hb4.out.trans hb5)
            clear o5 hb5 hw4
            go_wp2
            go_roundw
            case rel => exact ⟨j1, swpL L' k j1, rfl, by have := Hk1.out; have := Hk2.out; omega, Hp4.out, Hst.out, Hbe.out, Ho5.out, Hb5.out⟩
            case measure => simp [intOf]; have := Hk1.out; have := Hk2.out; omega
          · rw [decide_eq_false hlt]
            have Hf := Lib.hid (hpd_end Hd.out (fun c h1 h2 h3 => Nat.le_trans (Nat.le_of_not_lt hlt) ((Hc.out) c h1 h2 h3)))
            clear hlt hk1 hk2
            go_wp2
            go_ret
            first | exact ⟨⟨_, rfl⟩, L', Ho4.out, Hp.out, Hf.out, Hby.out, Hb4.out⟩ | exact ⟨_, rfl, L', Ho4.out, Hp.out, Hf.out, Hby.out, Hb4.out⟩
      · have hlt2' : ¬ (j2 : Int) < (n : Int) := by omega
        have Ho2 := Ho1
        have HV2 := HV1
        have Hb2 := Hb1
        have Hc := Lib.hid (show ∀ c, 0 < c → c < n → (c - 1) / 2 = k → kyA L' j1 ≤ kyA L' c from fun c h1 h2 h3 => by
          have : c = j1 := by omega
          subst this; exact Nat.le_refl _)
        clear hw
        have HLs := Lib.hid (wait_Less Ho2.out HV2.out.1 j1 k hl.symm (by omega) (by omega) (by omega))
        rw [HV2.out.bef (by omega) (by omega)] at HLs
        have hw2 := Ho2.out.cwt
        clear hk1 hk2
        go_wp2_with fail
        refine HLs.out.mono ?_
        rintro e w4 ⟨rfl, hb4⟩
        have hk1 := Hk1.out
        have hk2 := Hk2.out
        have o4 := Ho2.out.below hb4
        have hw4 := o4.cwt
        have Ho4 := Lib.hid o4
        have Hb4 := Lib.hid (Hb2.out.trans (.of hb4 Ho2.out.hz))
        clear hb4 o4 hw2
        by_cases hlt : kyA L' j1 < kyA L' k
        · rw [decide_eq_true hlt]
          have HSw := Lib.hid (wait_Swap Ho4.out k j1 hl.symm (by omega) (by omega) (by omega))
          have Hst := Lib.hid (show HpD (swpL L' k j1) n j1 from hpd_step (by omega) (by omega) (by omega) (by omega) Hd.out hlt (Hc.out))
          have Hbe := Lib.hid (show ∀ z, n ≤ z → (swpL L' k j1).getD z vx0 = L.getD z vx0 from fun z hz => by rw [swp_get (by omega) (by omega), if_neg (by omega), if_neg (by omega)]; exact Hby.out z hz)
          have Hp4 := Lib.hid ((swp_perm (L := L') (i := k) (j := j1) (by omega) (by omega)).trans Hp.out)
          clear hlt hk1 hk2
          go_wp2_with fail
          refine HSw.out.mono ?_
          rintro e w5 ⟨rfl, o5, hb5⟩
          have Ho5 := Lib.hid o5; have Hb5 := Lib.hid (Hb4.out.trans hb5)
          clear o5 hb5 hw4
          go_wp2
          go_roundw
          case rel => exact ⟨j1, swpL L' k j1, rfl, by have := Hk1.out; have := Hk2.out; omega, Hp4.out, Hst.out, Hbe.out, Ho5.out, Hb5.out⟩
          case measure => simp [intOf]; have := Hk1.out; have := Hk2.out; omega
        · rw [decide_eq_false hlt]
          have Hf := Lib.hid (hpd_end Hd.out (fun c h1 h2 h3 => Nat.le_trans (Nat.le_of_not_lt hlt) ((Hc.out) c h1 h2 h3)))
          clear hlt hk1 hk2
          go_wp2
          go_ret
          first | exact ⟨⟨_, rfl⟩, L', Ho4.out, Hp.out, Hf.out, Hby.out, Hb4.out⟩ | exact ⟨_, rfl, L', Ho4.out, Hp.out, Hf.out, Hby.out, Hb4.out⟩

set_option maxRecDepth 8000 in
set_option maxHeartbeats 1000000 in
theorem heap_Pop {w : World} {lo hi B : Nat} {h : Nat → Value} {vs wt : Value} {T L : List Vx} {wv : Nat → Nat} (o : Oq w lo hi B h vs wt T wv L) (hv : VsH w lo h L) {n : Nat} (hn : L.length = n + 1) (hL : L.length ≤ 1048577) (hh : HpN L L.length) :
    Calls Tryz.prog 78 #[.iface 117 (.pointer (some ⟨B, 218, none⟩))] w fun e w' => e = .returned (.iface 61 (.pointer (some ⟨qV h (L.getD 0 vx0), 0, none⟩))) ∧ ∃ wt' L', Oq w' lo hi B h vs wt' T wv L' ∧ (L' ++ [L.getD 0 vx0]).Perm L ∧ HpN L' L'.length ∧ Bx hi B w w' := by
  have hmL := wait_mLen
  have hmS := wait_mSwap
  have hmP := wait_mPop
  have hcL := wait_cLen
  have hcS := wait_cSwap
  have hcP := wait_cPop
  have hw := o.cwt
  obtain ⟨a, cap, rfl, _⟩ := o.ow.slice
  rw [List.length_map] at *
  have HL := Lib.hid (fun W => wait_Len a L.length cap W)
  have HS := Lib.hid (wait_Swap o 0 n rfl (by omega) (by omega) (by omega))
  have Hv := Lib.hid hv
  have Hd := Lib.hid (hpd_swap hn (hn ▸ hh))
  have Hpm := Lib.hid (swp_perm (L := L) (i := 0) (j := n) (by omega) (by omega))
  have Hge := Lib.hid (show (swpL L 0 n).getD n vx0 = L.getD 0 vx0 by rw [swp_get (by omega) (by omega), if_pos rfl])
  have e1 : IntKind.i64.wrap ((L.length : Int) - 1) = (n : Int) := by rw [IntWalk.i64_in _ (by omega)]; omega
  have Hn := Lib.hid hn
  clear o hv hh hn
  generalize L.getD 0 vx0 = x0 at *
  go_enter Tryz.func78, Tryz.ntmps78
  go_wp2_with fail
  refine (HL.out _).mono ?_
  rintro e w1 ⟨rfl, rfl⟩
  go_wp2_with fail
  refine HS.out.mono ?_
  rintro e w2 ⟨rfl, o2, hb2⟩
  have hl2 : (swpL L 0 n).length = L.length := swp_len _ _ _
  have hn := Hn.out
  have HD := Lib.hid (heap_down (hl2 ▸ o2) (Hv.out.perm (hb2.low o2.hl o2.hB) Hpm.out) n (by omega) (by omega) (by omega) Hd.out)
  have Hb2 := Lib.hid hb2
  clear o2 hb2 hw hn
  generalize swpL L 0 n = M at *
  have Hl2 := Lib.hid hl2
  clear hl2
  go_wp2_with fail
  refine HD.out.mono ?_
  rintro e w3 ⟨bv, rfl, L', o3, hp3, hn3, hby, hb3⟩
  have hlen : L'.length = n + 1 := by rw [hp3.length_eq, Hl2.out]; exact Hn.out
  have HP := Lib.hid (wait_Pop o3 hlen (by have := Hn.out; omega))
  have Hfin := Lib.hid (show (L'.dropLast ++ [x0]).Perm L by
    have e := perm_last hlen
    rw [hby n (Nat.le_refl _), Hge.out] at e
    rw [← e]
    exact hp3.trans Hpm.out)
  have Hqe : Hid (L'.getD n vx0 = x0) := Lib.hid ((hby n (Nat.le_refl _)).trans Hge.out)
  rw [Hqe.out] at HP
  have Hh := Lib.hid (hpn_drop hlen hn3)
  have Hb3 := Lib.hid (Hb2.out.trans hb3)
  clear o3 hb3 hby hn3 hp3 hlen
  go_wp2_with fail
  refine HP.out.mono ?_
  rintro e w4 ⟨rfl, wt4, o4, hb4⟩
  have Ho4 := Lib.hid o4; have Hb4 := Lib.hid (Hb3.out.trans hb4)
  clear o4 hb4
  go_wp2
  go_ret
  exact ⟨rfl, _, L'.dropLast, Ho4.out, Hfin.out, Hh.out, Hb4.out⟩

end Go.Proofs.YtjaacdapibokiaaGreatDoor

/- Gathering what a wave orders, by a walk of the program's text (it calls itself: by the vertex's round); the graph is valid. -/
namespace Go.Proofs.YtjaacdapibokiaaGreatDoor
open Go.RowKit

theorem wtg_len {g : List Vx} {W : Nat} {wv : Nat → Nat} {L : List Vx} (h : Wtg g W wv L) : L.length ≤ g.length := h.1.length_le_of_subset fun z hz => ((h.2 z).1 hz).1
theorem VsH.of {w : World} {hi : Nat} {h : Nat → Value} {g L : List Vx} (v : VsA w hi h g) (hin : ∀ y ∈ g, inPl y) (hs : ∀ y ∈ L, y ∈ g) : VsH w hi h L := ⟨fun y hy => v y (hs y hy), fun y hy => hin y (hs y hy)⟩

theorem run_wave (B : Nat) (r a : Int) (hr : 0 ≤ r) (hr2 : r ≤ 30) (ha : 0 ≤ a) (ha2 : a ≤ 6) : ∃ o1, (∀ w, (Instr.indexAt 57 (.pointer (some ⟨B, 1, none⟩)) (.int .i64 r)).run Tryz.prog w = .ok (.pointer (some ⟨B, o1, none⟩)) w) ∧
    ∀ w, (Instr.indexAt 56 (.pointer (some ⟨B, o1, none⟩)) (.int .i64 a)).run Tryz.prog w = .ok (.pointer (some ⟨B, plN r a, none⟩)) w := by
  refine ⟨1 + r.toNat * 7, fun w => ?_, fun w => ?_⟩
  · exact run_index_z (s := 7) Tryz.underlying57 (by kernel_rfl) (by omega) (by omega) w
  · have := run_index_z (P := Tryz.prog) (B := B) (o := 1 + r.toNat * 7) (s := 1) (k := a.toNat) (z := a) Tryz.underlying56 (by kernel_rfl) (by omega) (by omega) w
    rw [this]
    unfold plN
    rw [Nat.mul_one, Nat.add_assoc]
def GatPost (w : World) (lo hi B : Nat) (h : Nat → Value) (vs : Value) (T : List Vx) (W : Nat) (g : List Vx) (y : Vx) (fl : Int) (wv : Nat → Nat) : Ending → World → Prop := fun e w' =>
  e = .returned (.tuple #[]) ∧ ∃ wt' wv' L', Oq w' lo hi B h vs wt' T wv' L' ∧ Gth g y fl W wv wv' ∧ Wtg g W wv' L' ∧ HpN L' L'.length ∧ Bx hi B w w'
set_option maxRecDepth 8000 in
set_option maxHeartbeats 4000000 in
theorem order_gather (w0 wl : World) (lo hi G B : Nat) (mv vs : Value) (h : Nat → Value) (g T : List Vx) (W : Nat) (fl : Int) (hL : Lk w0 wl lo G mv h g) (hsrt : Srt g) (hin : ∀ y ∈ g, inPl y) (hpar : Par g) (hr0 : ∀ y ∈ g, y.r = 0 → y.ps.length = 0) (hgp : ∀ y ∈ g, y.ps.length ≤ 1099511627776) (hgl : g.length ≤ 1048575) (hW : 0 < W) (_hW2 : W ≤ 15) (hfl : -100 ≤ fl ∧ fl ≤ 100) :
    ∀ (n : Nat) (y : Vx) (q : Nat) (w : World) (wt : Value) (wv : Nat → Nat) (L : List Vx), y ∈ g → y.r.toNat = n → h (plN y.r y.a) = ptrV q → Below lo wl w → Oq w lo hi B h vs wt T wv L → Wtg g W wv L → HpN L L.length → ClsO g wv fl y.r →
      Calls Tryz.prog 76 #[.pointer (some ⟨B, 0, none⟩), .int .i64 W, .pointer (some ⟨q, 0, none⟩), .int .i64 fl] w (GatPost w lo hi B h vs T W g y fl wv) := by
  have hself : ∀ y ∈ g, ∀ p ∈ y.ps, ∃ z ∈ g, z.r = y.r - 1 ∧ z.a = p := hpar
  have HL := Lib.hid hL; clear hL
  have Hsrt := Lib.hid hsrt; clear hsrt
  have Hin := Lib.hid hin; clear hin
  have Hpar := Lib.hid hself; clear hself hpar
  have Hr0 := Lib.hid hr0; clear hr0
  have Hgp := Lib.hid hgp; clear hgp
  have hmk : ∀ x w, (Instr.makeInterface 61 x).run Tryz.prog w = .ok (.iface 61 x) w := fun x w => run_makeInterface w 61 x (by kernel_rfl)
  have hmw : ∀ x w, (Instr.makeInterface 117 x).run Tryz.prog w = .ok (.iface 117 x) w := fun x w => run_makeInterface w 117 x (by kernel_rfl)
  obtain ⟨hf1, hf2⟩ := hfl
  intro n
  induction n using Nat.strongRecOn with
  | _ n ih =>
  intro y q w wt wv L hy hn hq hbl o hwt hhp hc
  have iy := Hin.out y hy
  unfold inPl at iy
  obtain ⟨i0, i1, i2, i3⟩ := iy
  have hlw := HL.out.low hbl
  obtain ⟨q', hq', nd⟩ := hlw.has y hy
  have hqq : q' = q := by rw [hq] at hq'; unfold ptrV at hq'; simp at hq'; exact hq'.symm
  subst hqq
  obtain ⟨pa, pc, pv, qs, sq, iq, srq, own, hob, hql, hqp⟩ := nd.ex
  have hqhi : q' < lo := nd.lt
  obtain ⟨pp, pcap, rfl, _⟩ := own.slice
  have HN := Lib.hid (fun W' (hW : Below lo w W') => (⟨(hW.block _ hqhi).trans sq, own.same fun g e => hW.block g (hob g e).2⟩ : Str W' q' 63 #[.int .i64 y.r, .int .i64 y.a, .slice pa y.ps.length pc, .int .i64 y.d, .slice pp qs.length pcap] ∧ OwnP 61 W' w0.heap.size (.slice pp qs.length pcap) qs))
  have hqlen : qs.length ≤ 1099511627776 := by have := Hgp.out y hy; omega
  obtain ⟨o1, ho1, ho2⟩ := run_wave B y.r y.a i0 i1 i2 i3
  have hpb := plN_bd i1 i3
  have e0 := sq.cell 0 (v := .int .i64 y.r) rfl
  have e1 := sq.cell 1 (v := .int .i64 y.a) rfl
  have em := o.cwv hpb.1 hpb.2
  have Hq := Lib.hid (qV_of hq)
  have HG := Lib.hid hbl
  have Ho := Lib.hid o
  have Hwt := Lib.hid hwt
  have Hhp := Lib.hid hhp
  have Hc := Lib.hid hc
  have Hn := Lib.hid hn
  have Hqp := Lib.hid hqp
  have Hql := Lib.hid hql
  have Hih := Lib.hid ih
  clear hbl o hwt hhp hc hn hqp hql sq iq srq own hob nd hq hq' ih hlw
  by_cases hlt : y.r < fl
  · have Hd := Lib.hid (gth_old (W := W) (.inl hlt) Hc.out)
    go_enter Tryz.func76, Tryz.ntmps76
    go_wp2_with fail
    go_quiet (fail)
    go_wp2
    go_end0
    exact ⟨rfl, wt, wv, L, Ho.out.below (below_drewN (Below.refl _ _) _), Hd.out, Hwt.out, Hhp.out, Bx.of (below_drewN (Below.refl _ _) _) Ho.out.hz⟩
  by_cases hpos : 0 < wv (plN y.r y.a)
  · have Hd := Lib.hid (gth_old (W := W) (.inr hpos) Hc.out)
    have hpos' : 0 < ((wv (plN y.r y.a) : Nat) : Int) := by omega
    go_enter Tryz.func76, Tryz.ntmps76
    go_wp2_with fail
    go_quiet (fail)
    go_wp2
    go_end0
    exact ⟨rfl, wt, wv, L, Ho.out.below (below_drewN (Below.refl _ _) _), Hd.out, Hwt.out, Hhp.out, Bx.of (below_drewN (Below.refl _ _) _) Ho.out.hz⟩
  have hz : wv (plN y.r y.a) = 0 := by omega
  rw [hz] at em
  have em : w.cell? ⟨B, plN y.r y.a, none⟩ = some (.int .i64 0) := em
  have ef := Ho.out.st.frozen (plN y.r y.a)
  have Hk0 := Lib.hid (gtk_start Hsrt.out Hin.out hW hy (by omega) hz Hc.out)
  have Hset := Lib.hid (fun n => (Ho.out.below (below_drewN (Below.refl _ _) n)).setWv (plN y.r y.a) W hpb.1 hpb.2)
  have hBs := Ho.out.hB
  have Hpu := Lib.hid (fun (L' : List Vx) (hp : L'.Perm (L ++ [y])) => wtg_push Hsrt.out Hin.out hy hW hz Hwt.out hp)
  have hLl := wtg_len Hwt.out
  have HVs := Lib.hid (fun W' (hW' : Below lo w W') => VsH.of (L := L ++ [y]) ((HL.out.low HG.out).vsA.low hW') Hin.out (fun z hz => by
    rcases List.mem_append.1 hz with h1 | h1
    · exact ((Hwt.out.2 z).1 h1).1
    · rw [List.mem_singleton] at h1; rw [h1]; exact hy))
  clear hz hpos
  go_enter Tryz.func76, Tryz.ntmps76
  go_wp2_with fail
  go_quiet (fail)
  go_wp2_with fail
  have o1' := Hset.out nq
  have hb1 : Bx hi B w ((w.drewN nq).setCell ⟨B, plN y.r y.a, none⟩ (.int .i64 W)) := (Bx.of (below_drewN (Below.refl w.heap.size w) nq) Ho.out.hz).setCell (p := ⟨B, plN y.r y.a, none⟩) (.inr rfl) _
  generalize (w.drewN nq).setCell ⟨B, plN y.r y.a, none⟩ (.int .i64 W) = w1 at *
  refine (heap_Push o1' y q' Hq.out (HVs.out w1 (hb1.low Ho.out.hl hBs)) (by omega) Hhp.out).mono ?_
  rintro e w2 ⟨rfl, wt2, L2, o2, hp2, hh2, hb2⟩
  have Hb2 := Lib.hid (hb1.trans hb2)
  have Ho2 := Lib.hid o2
  have Hh2 := Lib.hid hh2
  have Hwt2 := Lib.hid (Hpu.out L2 hp2)
  have e4 := (HN.out w2 (Hb2.out.low Ho.out.hl hBs)).1.cell 4 (v := .slice pp qs.length pcap) rfl
  clear o1' hb1 hb2 o2 hh2 hp2 e0 e1 em ef Hset Hpu HVs ho1 ho2 hpb
  go_wp2_with fail
  go_loopw [56] (fun i wr => ∃ (k : Nat) (wt' : Value) (v2 : Nat → Nat) (L' : List Vx), k ≤ qs.length ∧ i = .int .i64 k ∧ Oq wr lo hi B h vs wt' T v2 L' ∧ Gtk g y fl W wv v2 k ∧ Wtg g W v2 L' ∧ HpN L' L'.length ∧ Bx hi B w wr) (fun i _ => qs.length - (intOf i).toNat)
  case atStart => exact ⟨0, _, _, L2, by omega, rfl, Ho2.out, Hk0.out, Hwt2.out, Hh2.out, Hb2.out⟩
  case round =>
    obtain ⟨k, wt', v2, L', hk, rfl, o3, hgk, hw3, hh3, hb3⟩ := hrel
    by_cases hlt : k < qs.length
    · obtain ⟨gb, cap, ep, _, _, hcell⟩ := (HN.out wr (hb3.low Ho.out.hl hBs)).2.cell k hlt
      have hkp : k < y.ps.length := by have := Hql.out; omega
      obtain ⟨z, hz, hzr, hza⟩ := Hpar.out y hy y.ps[k] (List.getElem_mem hkp)
      have hr1 : 1 ≤ y.r := by
        by_cases e : y.r = 0
        · have := Hr0.out y hy e; omega
        · omega
      have hzq : h (plN z.r z.a) = ptrV qs[k] := by rw [hzr, hza]; exact Hqp.out k hlt hkp
      have iz := Hin.out z hz
      unfold inPl at iz
      have Hcall := Lib.hid (Hih.out z.r.toNat (by have := Hn.out; omega) z qs[k] wr wt' v2 L' hz rfl hzq (HG.out.trans (hb3.low Ho.out.hl hBs)) o3 hw3 hh3 (by rw [hzr]; exact hgk.cls))
      have Hstep := Lib.hid (fun v3 => gtk_step (w2 := v3) Hin.out hy hW hgk hz hkp hzr hza)
      have Hb3 := Lib.hid hb3
      simp only [Value.slice.injEq, true_and] at ep
      obtain ⟨rfl, rfl⟩ := ep
      unfold ptrV at hcell
      generalize qs[k] = qk at *
      clear hb3 o3 hw3 hh3 hgk hzr hza hzq iz hr1 hkp e4
      go_wp2_with fail
      refine Hcall.out.mono ?_
      rintro e w4 ⟨rfl, wt4, v4, L4, o4, hg4, hw4, hh4, hb4⟩
      have Ho4 := Lib.hid o4; have Hg4 := Lib.hid hg4; have Hw4 := Lib.hid hw4; have Hh4 := Lib.hid hh4; have Hb4 := Lib.hid (Hb3.out.trans hb4)
      clear o4 hg4 hw4 hh4 hb4 hcell
      go_wp2
      go_roundw
      case rel => exact ⟨k + 1, wt4, v4, L4, by omega, by go_num, Ho4.out, Hstep.out _ Hg4.out, Hw4.out, Hh4.out, Hb4.out⟩
      case measure => simp [intOf]; omega
    · have hke : k = y.ps.length := by have := Hql.out; omega
      rw [hke] at hgk
      have Hend := Lib.hid (gtk_end Hsrt.out Hin.out hy Hc.out hgk)
      have Ho3 := Lib.hid o3; have Hw3 := Lib.hid hw3; have Hh3 := Lib.hid hh3; have Hb3 := Lib.hid hb3
      clear hgk o3 hw3 hh3 hb3 hke e4
      go_wp2
      go_end0
      exact ⟨rfl, wt', v2, L', Ho3.out, Hend.out, Hw3.out, Hh3.out, Hb3.out⟩

end Go.Proofs.YtjaacdapibokiaaGreatDoor

/- Ordering what a wave adds, by a walk of the program's text; the graph and the leaders are valid. -/
namespace Go.Proofs.YtjaacdapibokiaaGreatDoor
open Go.RowKit

/-- How many wait, as memory has it. -/
def lenAt (B : Nat) (w : World) : Nat := match w.cell? ⟨B, 218, none⟩ with | some (.slice _ n _) => n | _ => 0
theorem lenAt_of {B : Nat} {w : World} {a : Option Addr} {n c : Nat} (h : w.cell? ⟨B, 218, none⟩ = some (.slice a n c)) : lenAt B w = n := by unfold lenAt; rw [h]
/-- What is known of the waves so far. -/
structure WvsOk (g : List Vx) (ls : List Int) (O : List Nat) (w : Nat) : Prop where
  pos : ∀ v ∈ O, 1 ≤ v ∧ 0 ≤ ldZ g ls v
  lt : ∀ v ∈ O, v < w
  w1 : 1 ≤ w
  w15 : w ≤ 15
  has : 0 ≤ ldZ g ls w
theorem wt_start {g : List Vx} {ls : List Int} {O : List Nat} {w : Nat} {wv : Nat → Nat} (h : WvOk g ls O wv) (ok : WvsOk g ls O w) : Wtg g w wv [] := by
  refine ⟨List.nodup_nil, fun z => ⟨fun h => (by cases h), fun ⟨hz, e⟩ => ?_⟩⟩
  obtain ⟨k, hk, rfl⟩ := List.mem_iff_getElem.1 hz
  rw [h k hk] at e
  have := ok.w1
  have h1 := (ow_find (g := g) (ls := ls) (O := O) (k := k) (by omega)).1
  have := ok.lt _ h1
  omega

set_option maxRecDepth 8000 in
set_option maxHeartbeats 4000000 in
theorem order_addWave (w0 wl : World) (lo hi G B : Nat) (mv vs wt : Value) (h : Nat → Value) (c : List Int) (g T : List Vx) (ls : List Int) (O : List Nat) (W q : Nat) (w : World) (wv : Nat → Nat) (hL : Lk w0 wl lo G mv h g) (ok : Good21 c g ls) (hgl : g.length ≤ 1048575) (hO : WvsOk g ls O W) (hv : WvOk g ls O wv)
    (hq : h (plN (ldV g ls W).r (ldV g ls W).a) = ptrV q) (hbl : Below lo wl w) (o : Oq w lo hi B h vs wt T wv []) (hT : T.length ≤ 1048576) :
    Calls Tryz.prog 56 #[.pointer (some ⟨B, 0, none⟩), .int .i64 W, .pointer (some ⟨q, 0, none⟩)] w fun e w' => e = .returned (.tuple #[]) ∧ ∃ vs' wt' wv', Oq w' lo hi B h vs' wt' (T ++ segV g ls (O ++ [W]) W) wv' [] ∧ WvOk g ls (O ++ [W]) wv' ∧ Bx hi B w w' := by
  obtain ⟨hLg, hLr, hLa⟩ := ldV_at hO.has
  have hw1 := hO.w1
  have hw15 := hO.w15
  have HGa := Lib.hid (order_gather w0 wl lo hi G B mv vs h g T W (2 * (W : Int) - 7) hL ok.srt ok.pl ok.par ok.r0 ok.ps hgl (by omega) hw15 (by omega) _ (ldV g ls W) q w wt wv [] hLg rfl hq hbl o (wt_start hv hO) (fun _ _ h => by simp at h) (cls_next ok hO.pos hO.lt hv _))
  have HV := Lib.hid (fun wv' => wv_step (wv' := wv') ok (fun v hv => (hO.pos v hv).1) hw1 hO.has hv)
  have HM := Lib.hid (fun wv' (L : List Vx) (h1 : WvOk g ls (O ++ [W]) wv') (h2 : Wtg g W wv' L) => wt_seg h1 ok.srt h2)
  have HMs := Lib.hid (seg_srt (ls := ls) (O := O ++ [W]) (w := W) ok.srt)
  have HMg := Lib.hid (show ∀ y ∈ segV g ls (O ++ [W]) W, y ∈ g from fun y hy => by obtain ⟨k, hk, e, _⟩ := seg_mem.1 hy; rw [← e]; exact List.getElem_mem hk)
  have HMl : (segV g ls (O ++ [W]) W).length ≤ 1048575 := by
    have : (segV g ls (O ++ [W]) W).length ≤ g.length := by
      unfold segV; rw [List.length_map]
      have := List.length_filter_le (fun k => owN g ls (O ++ [W]) k == W) (List.range g.length)
      rwa [List.length_range] at this
    omega
  generalize segV g ls (O ++ [W]) W = M at *
  obtain ⟨q', hq', nd⟩ := (hL.low hbl).has _ hLg
  have hqq : q' = q := by rw [hq] at hq'; unfold ptrV at hq'; simp at hq'; exact hq'.symm
  subst hqq
  obtain ⟨pa, pc, pv, qs, sq, _⟩ := nd.ex
  have e0 := sq.cell 0 (v := .int .i64 (ldV g ls W).r) rfl
  rw [hLr] at e0
  have Hin := Lib.hid ok.pl
  have HVs := Lib.hid (fun W' (hW' : Below lo w W') => (hL.low (hbl.trans hW')).vsA)
  have hmw : ∀ x w, (Instr.makeInterface 117 x).run Tryz.prog w = .ok (.iface 117 x) w := fun x w => run_makeInterface w 117 x (by kernel_rfl)
  have hs : ∀ (v : Value) (w : World), (Instr.typeAssert (.iface 61 v) 20 61 false).run Tryz.prog w = .ok v w := fun v w => by kernel_rfl
  have f1 : IntKind.i64.wrap (2 * (W : Int) - 1 - 6) = 2 * (W : Int) - 7 := by rw [IntWalk.i64_in _ (by omega)]; omega
  have HB := o.hB
  have Hlh := o.hl
  clear hL ok hO hv hq hbl o nd sq hq' hLg hLr hLa
  go_enter Tryz.func56, Tryz.ntmps56
  go_wp2_with fail
  refine HGa.out.mono ?_
  rintro e w1 ⟨rfl, wt1, v1, L1, o1, hg1, hw1', hh1, hb1⟩
  have hv1 := HV.out v1 hg1
  have Hp1 := Lib.hid (pops_start (HM.out v1 L1 hv1 hw1'))
  have Hv1 := Lib.hid hv1
  have Ho1 := Lib.hid o1; have Hh1 := Lib.hid hh1; have Hb1 := Lib.hid hb1
  clear o1 hg1 hw1' hh1 hb1 hv1 e0 f1 HGa HV HM
  go_wp2_with fail
  go_loopw [] (fun wr => ∃ (vs' wt' : Value) (T' L' : List Vx), Oq wr lo hi B h vs' wt' (T ++ T') v1 L' ∧ Pops M T' L' ∧ HpN L' L'.length ∧ Bx hi B w wr) (fun wr => lenAt B wr)
  case atStart => exact ⟨_, _, [], L1, by rw [List.append_nil]; exact Ho1.out, Hp1.out, Hh1.out, Hb1.out⟩
  case round =>
    obtain ⟨vs', wt', T', L', o2, hp2, hh2, hb2⟩ := hrel
    have hw2 := o2.cwt
    have hlT : (T ++ T').length ≤ 1099511627776 := by
      have := hp2.prm.length_eq
      rw [List.length_append] at this ⊢; omega
    have hlL : L'.length ≤ 1048575 := by
      have := hp2.prm.length_eq
      rw [List.length_append] at this; omega
    obtain ⟨a2, c2, rfl, _⟩ := o2.ow.slice
    rw [List.length_map] at o2 hw2
    have hLa := lenAt_of hw2
    have Ho2 := Lib.hid o2; have Hp2 := Lib.hid hp2; have Hb2 := Lib.hid hb2; have Hh2 := Lib.hid hh2
    have HL := Lib.hid (fun n W => wait_Len a2 n c2 W)
    clear o2 hp2 hb2 hh2
    by_cases hz : L'.length = 0
    · have hnil : L' = [] := List.eq_nil_of_length_eq_zero hz
      subst hnil
      have Hte := Lib.hid (pops_end HMs.out Hp2.out)
      rw [List.length_nil] at hw2
      clear hz hlL hLa
      go_wp2_with fail
      refine (HL.out 0 _).mono ?_
      rintro e w3 ⟨rfl, rfl⟩
      go_wp2
      go_end0
      exact ⟨rfl, vs', _, v1, by rw [← Hte.out]; exact Ho2.out, Hv1.out, Hb2.out⟩
    · obtain ⟨m, hm⟩ : ∃ m, L'.length = m + 1 := ⟨L'.length - 1, by omega⟩
      have hpos : 0 < (L'.length : Int) := by omega
      have hMg := HMg.out
      have HP := Lib.hid (heap_Pop Ho2.out (VsH.of (HVs.out wr (Hb2.out.low Hlh HB)) Hin.out (fun y hy => hMg y (Hp2.out.prm.mem_iff.1 (List.mem_append.2 (.inr hy))))) hm (by omega) Hh2.out)
      have Hst := Lib.hid (fun L2 => pops_step (L' := L2) (fun y hy => Hin.out y (hMg y hy)) HMs.out Hp2.out hm (hm ▸ Hh2.out))
      have Hlen := Lib.hid (show ∀ L2, (L2 ++ [L'.getD 0 vx0]).Perm L' → L2.length < L'.length from fun L2 h => by have := h.length_eq; rw [List.length_append] at this; simp at this; omega)
      have Hlr := Lib.hid hLa
      have HTl := Lib.hid hlT
      clear hz hMg hm hLa hlT
      generalize L'.getD 0 vx0 = x0 at *
      generalize L'.length = n at *
      go_wp2_with fail
      refine (HL.out n _).mono ?_
      rintro e w3 ⟨rfl, rfl⟩
      go_wp2_with fail
      refine HP.out.mono ?_
      rintro e w4 ⟨rfl, wt4, L4, o4, hp4, hh4, hb4⟩
      have hw4 := o4.cvs
      have hwt4 := o4.cwt
      have Hst4 := Lib.hid (Hst.out L4 hp4)
      have Hl4 := Lib.hid (Hlen.out L4 hp4)
      have Hh4 := Lib.hid hh4
      have Hb4 := Lib.hid (Hb2.out.trans hb4)
      have Hov := Lib.hid o4.ov
      have hll : (List.map (qV h) (T ++ T')).length ≤ 1099511627776 := by rw [List.length_map]; exact HTl.out
      have HPv := Lib.hid (fun w5 vs5 => o4.pushV (w1 := w5) (vs' := vs5) (y := x0) rfl)
      have hB4 : hi ≤ w4.heap.size := o4.hz
      have Hnv := Lib.hid o4.nv
      have Hsto := Lib.hid o4.st
      have Hvl := Lib.hid (World.ownsRow.lt o4.ov)
      have Hw4t := Lib.hid o4.ow.slice
      clear o4 hp4 hh4 hb4 hw2 Hst Hlen
      generalize qV h x0 = q0 at *
      go_wp2_with (at_builtin; refine wpList_pushP Tryz.underlying55 (by kernel_rfl) rfl (.tmp 33) (.tmp 35) rfl hi vs' (List.map (qV h) (T ++ T')) q0 rfl Hov.out hll rfl hB4 ?_; intro v8 w8 hown8 hg8 hloc8; (obtain ⟨a8, n8, c8, rfl⟩ : ∃ a n c, v8 = Value.slice a n c := (by obtain ⟨a, c, e, _⟩ := hown8.slice; exact ⟨a, _, c, e⟩)); (have t8 := Str.kept Hsto.out hg8 (fun e => Hnv.out e.symm)); (have j8 := t8.cell 0 (ordA_vs _ _ _)); (have f8 := t8.frozen 0); (have H8 := Lib.hid (HPv.out w8 _ hown8 hg8 hloc8)); (have Hb8 := Lib.hid ((Hb4.out.grown hg8 hB4 (fun g e => (Hvl.out g e).1)).setCell (p := ⟨B, 0, none⟩) (.inr rfl) (.slice a8 n8 c8))); (clear t8 hown8 hloc8 hg8))
      go_roundw
      case rel => exact ⟨_, wt4, T' ++ [x0], L4, by rw [← List.append_assoc]; exact H8.out, Hst4.out, Hh4.out, Hb8.out⟩
      case measure =>
        have h9 := H8.out.cwt
        obtain ⟨a9, c9, e9, _⟩ := Hw4t.out
        rw [e9, List.length_map] at h9
        rw [lenAt_of h9, Hlr.out]
        exact Hl4.out

end Go.Proofs.YtjaacdapibokiaaGreatDoor
