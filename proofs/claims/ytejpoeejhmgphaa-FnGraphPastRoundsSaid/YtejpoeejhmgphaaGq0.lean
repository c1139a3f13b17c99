/- What the laws of adding vertices say of the reference's answers; plain facts on lists, nothing here is walked. -/
import Derived.Test.YtejpoeejhmgphaaGp7
import Derived.Test.YtejpoeejhmgphaaGvy
namespace Go.Proofs.Ytejpoeejhmgphaa
open Go.RowKit

theorem graph_iff {c : List Int} {g : List Vx} : graphB c g = true ↔ validB c = true ∧ Srt g ∧ (∀ y ∈ g, vtxB c y = true) ∧ ∀ y ∈ g, parB g y = true := by
  constructor
  · intro h
    have h2 := h
    unfold graphB at h2
    rw [Bool.and_eq_true] at h2
    refine ⟨h2.1, graph_sorted h, graph_vtx h, fun y hy => ?_⟩
    obtain ⟨k, hk, rfl⟩ := List.mem_iff_getElem.1 hy
    have := allB_upto h2.2 k hk
    unfold okV at this
    simp only [Bool.and_eq_true] at this
    rw [getV hk] at this
    exact this.2.2
  · rintro ⟨h1, h2, h3, h4⟩
    unfold graphB
    rw [Bool.and_eq_true]
    refine ⟨h1, allB_yes (k := g.length) (fun k hk => ?_) (Nat.le_refl _)⟩
    unfold okV
    simp only [Bool.and_eq_true, Bool.or_eq_true, beq_iff_eq]
    rw [getV hk]
    refine ⟨h3 _ (List.getElem_mem hk), ?_, h4 _ (List.getElem_mem hk)⟩
    by_cases e : k = 0
    · exact .inl e
    · refine .inr ?_
      rw [getV (show k - 1 < g.length by omega)]
      exact List.pairwise_iff_getElem.1 h2 (k - 1) k (by omega) hk (by omega)
theorem srt_irr {x : Vx} (h : befB x x = true) : False := by have := befB_iff.1 h; omega
theorem srt_ext : ∀ {a b : List Vx}, Srt a → Srt b → (∀ x, x ∈ a ↔ x ∈ b) → a = b
  | [], [], _, _, _ => rfl
  | [], y :: b, _, _, h => by have := (h y).2 (by simp); cases this
  | x :: a, [], _, _, h => by have := (h x).1 (by simp); cases this
  | x :: a, y :: b, ha, hb, h => by
    obtain ⟨ha1, ha2⟩ := List.pairwise_cons.1 ha
    obtain ⟨hb1, hb2⟩ := List.pairwise_cons.1 hb
    have e : x = y := by
      rcases List.mem_cons.1 ((h x).1 (by simp)) with e | e
      · exact e
      · rcases List.mem_cons.1 ((h y).2 (by simp)) with e2 | e2
        · exact e2.symm
        · exact (srt_irr (bef_trans (ha1 y e2) (hb1 x e))).elim
    subst e
    congr 1
    refine srt_ext ha2 hb2 fun z => ⟨fun hz => ?_, fun hz => ?_⟩
    · rcases List.mem_cons.1 ((h z).1 (List.mem_cons_of_mem _ hz)) with e | e
      · subst e; exact (srt_irr (ha1 z hz)).elim
      · exact e
    · rcases List.mem_cons.1 ((h z).2 (List.mem_cons_of_mem _ hz)) with e | e
      · subst e; exact (srt_irr (hb1 z hz)).elim
      · exact e
theorem add0 {g : List Vx} {x : Vx} (hs : Srt g) (h : addN g x = 0) : (∀ y ∈ g, ¬ (y.r = x.r ∧ y.a = x.a)) ∧ parB g x = true := by
  unfold addN at h
  by_cases h1 : 0 ≤ findZ g x.r x.a
  · rw [if_pos h1] at h; split at h <;> cases h
  · rw [if_neg h1] at h
    refine ⟨fun y hy e => ?_, ?_⟩
    · obtain ⟨k, _, ek, _⟩ := findZ_mem hs hy
      rw [e.1, e.2] at ek; omega
    · by_cases h2 : parB g x = true
      · exact h2
      · rw [if_neg h2] at h; cases h
theorem of_add0 {g : List Vx} {x : Vx} (hn : ∀ y ∈ g, ¬ (y.r = x.r ∧ y.a = x.a)) (hp : parB g x = true) : addN g x = 0 ∧ addG g x = insG g x := addN_done (findZ_none hn) hp
theorem par_ins {g : List Vx} {x y : Vx} (h : parB g y = true) : parB (insG g x) y = true := by
  rw [parB_iff] at h ⊢
  intro p hp
  obtain ⟨z, hz, e⟩ := h p hp
  exact ⟨z, ins_mem.2 (.inl hz), e⟩
/-- The graph with one vertex more is valid. -/
theorem ins_graph {c : List Int} {g : List Vx} {x : Vx} (h : graphB c g = true) (hx : vtxB c x = true) (h0 : addN g x = 0) : graphB c (insG g x) = true := by
  obtain ⟨h1, h2, h3, h4⟩ := graph_iff.1 h
  obtain ⟨hn, hp⟩ := add0 h2 h0
  refine graph_iff.2 ⟨h1, ins_srt h2 hn, fun y hy => ?_, fun y hy => ?_⟩
  · rcases ins_mem.1 hy with hy | rfl
    · exact h3 y hy
    · exact hx
  · rcases ins_mem.1 hy with hy | rfl
    · exact par_ins (h4 y hy)
    · exact par_ins hp
theorem add_at {g : List Vx} {x y : Vx} (hs : Srt g) (hy : y ∈ g) (hr : y.r = x.r) (ha : y.a = x.a) : (addN g x = if sameB y x = true then 1 else 2) ∧ addG g x = g := by
  obtain ⟨k, hk, e, rfl⟩ := findZ_mem hs hy
  rw [hr, ha] at e
  cases h : sameB g[k] x with
  | true => obtain ⟨h1, h2⟩ := addN_same hk e h; exact ⟨h1, h2⟩
  | false => obtain ⟨h1, h2⟩ := addN_twice hk e h; exact ⟨by rw [h1]; rfl, h2⟩
theorem sameB_iff {x y : Vx} : sameB x y = true ↔ x = y := by unfold sameB; exact decide_eq_true_iff
theorem gaN_0 {c : List Int} {g : List Vx} {x : Vx} (h : gaN c g x = 0) : graphB c g = true ∧ vtxB c x = true ∧ addN g x = 0 ∧ gaG c g x = insG g x := by
  unfold gaN at h
  by_cases hb : gaB c g x = true
  · rw [if_pos hb] at h
    have hb2 := hb
    unfold gaB at hb2
    rw [Bool.and_eq_true] at hb2
    refine ⟨hb2.1, hb2.2, h, ?_⟩
    unfold gaG addG
    rw [if_pos hb, if_pos h]
  · rw [if_neg hb] at h; cases h
theorem ga_of {c : List Int} {g : List Vx} {x : Vx} (h1 : graphB c g = true) (h2 : vtxB c x = true) : gaN c g x = addN g x ∧ gaG c g x = addG g x := ga_yes (by unfold gaB; rw [h1, h2]; rfl)
/-- P43: a vertex that has been added is known; another one with its round and author is a second one. -/
theorem twice_law {c : List Int} {g : List Vx} {x u : Vx} (h : gaN c g x = 0) (hu : vtxB c x = true → vtxB c u = true) (hr : u.r = x.r) (ha : u.a = x.a) :
    gaN c (gaG c g x) x = 1 ∧ gaG c (gaG c g x) x = gaG c g x ∧ gaG c (gaG c g x) u = gaG c g x ∧ (gaN c (gaG c g x) u = 2 ∨ u.d = x.d) := by
  obtain ⟨h1, h2, h3, h4⟩ := gaN_0 h
  have hg := ins_graph h1 h2 h3
  have hs := graph_sorted hg
  have hm : x ∈ insG g x := ins_mem.2 (.inr rfl)
  rw [h4]
  obtain ⟨e1, e2⟩ := ga_of hg h2
  obtain ⟨e3, e4⟩ := ga_of hg (hu h2)
  obtain ⟨f1, f2⟩ := add_at (x := x) hs hm rfl rfl
  obtain ⟨f3, f4⟩ := add_at (x := u) hs hm hr.symm ha.symm
  rw [if_pos (sameB_iff.2 rfl)] at f1
  refine ⟨by rw [e1, f1], by rw [e2, f2], by rw [e4, f4], ?_⟩
  by_cases e : x = u
  · exact .inr (by rw [e])
  · rw [if_neg (fun h => e (sameB_iff.1 h))] at f3
    exact .inl (by rw [e3, f3])
/-- P45: two vertices may be added in either order. -/
theorem order_law {c : List Int} {g : List Vx} {v u : Vx} (h : gaN c g v = 0) (h1 : gaN c (gaG c g v) u = 0) (h2 : gaN c g u = 0) : gaN c (gaG c g u) v = 0 ∧ gaG c (gaG c g u) v = gaG c (gaG c g v) u := by
  obtain ⟨a1, a2, a3, a4⟩ := gaN_0 h
  obtain ⟨b1, b2, b3, b4⟩ := gaN_0 h2
  obtain ⟨d1, d2, d3, d4⟩ := gaN_0 h1
  rw [a4] at d3 d4 d1 ⊢
  rw [d4, b4]
  have hgu := ins_graph b1 b2 b3
  have hsv := graph_sorted a1
  obtain ⟨nv, pv⟩ := add0 hsv a3
  obtain ⟨nu, pu⟩ := add0 hsv b3
  obtain ⟨nvu, _⟩ := add0 (graph_sorted d1) d3
  have hne : ¬ (v.r = u.r ∧ v.a = u.a) := nvu v (ins_mem.2 (.inr rfl))
  have nuv : ∀ y ∈ insG g u, ¬ (y.r = v.r ∧ y.a = v.a) := fun y hy e => by
    rcases ins_mem.1 hy with hy | rfl
    · exact nv y hy e
    · exact hne ⟨e.1.symm, e.2.symm⟩
  obtain ⟨f1, f2⟩ := of_add0 nuv (par_ins pv)
  obtain ⟨e1, e2⟩ := ga_of hgu a2
  refine ⟨by rw [e1, f1], ?_⟩
  rw [e2, f2]
  refine srt_ext (ins_srt (ins_srt hsv nu) nuv) (ins_srt (ins_srt hsv nv) nvu) fun x => ?_
  rw [ins_mem, ins_mem, ins_mem, ins_mem]
  constructor
  · rintro ((h | h) | h)
    · exact .inl (.inl h)
    · exact .inr h
    · exact .inl (.inr h)
  · rintro ((h | h) | h)
    · exact .inl (.inl h)
    · exact .inr h
    · exact .inl (.inr h)
/-- P44: what each code says. -/
theorem codes_law {c : List Int} {g : List Vx} {x : Vx} (h0 : gaN c g x ≠ 0) (h4 : gaN c g x ≠ 4) : graphB c g = true ∧ vtxB c x = true ∧ gaG c g x = g ∧
    (gaN c g x = 1 ↔ ∃ k : Nat, ∃ hk : k < g.length, findZ g x.r x.a = k ∧ g[k] = x) ∧ (gaN c g x = 3 ↔ findZ g x.r x.a < 0 ∧ parB g x = false) := by
  have hb : gaB c g x = true := by
    by_cases hb : gaB c g x = true
    · exact hb
    · exact absurd (ga_no (by simpa using hb)).1 h4
  have hb2 := hb
  unfold gaB at hb2
  rw [Bool.and_eq_true] at hb2
  obtain ⟨e1, e2⟩ := ga_of hb2.1 hb2.2
  rw [e1] at h0 ⊢
  refine ⟨hb2.1, hb2.2, by rw [e2]; unfold addG; rw [if_neg h0], ?_, ?_⟩
  · unfold addN
    rcases findZ_cases g x.r x.a with ⟨e, _⟩ | ⟨k, hk, e, _⟩
    · rw [e, if_neg (by omega)]
      constructor
      · intro h; split at h <;> cases h
      · rintro ⟨k, _, h, _⟩; omega
    · rw [e, if_pos (by omega), Int.toNat_natCast, getV hk]
      constructor
      · intro h
        by_cases hs : sameB g[k] x = true
        · exact ⟨k, hk, rfl, sameB_iff.1 hs⟩
        · rw [if_neg hs] at h; cases h
      · rintro ⟨k', hk', e', h'⟩
        have : k' = k := by omega
        subst this
        rw [if_pos (sameB_iff.2 h')]
  · unfold addN
    rcases findZ_cases g x.r x.a with ⟨e, _⟩ | ⟨k, hk, e, _⟩
    · rw [e, if_neg (by omega)]
      cases hp : parB g x with
      | true => simp
      | false => simp
    · rw [e, if_pos (by omega)]
      constructor
      · intro h; split at h <;> cases h
      · rintro ⟨h, _⟩; omega

/-! the past as a list of vertices -/
def psV (c : List Int) (g : List Vx) (r a : Int) : List Vx := (gpZ c g r a).map fun i => g.getD i.toNat vx0
/-- A vertex of a graph's past: the least set that is closed. -/
inductive Past (g : List Vx) (y : Vx) : Vx → Prop
  | it : Past g y y
  | up {x z : Vx} : Past g y x → z ∈ g → z.r = x.r - 1 → z.a ∈ x.ps → Past g y z
theorem past_mem {g : List Vx} {y x : Vx} (hy : y ∈ g) (h : Past g y x) : x ∈ g := by
  cases h with
  | it => exact hy
  | up _ hz _ _ => exact hz
theorem pastB_iff {c : List Int} {g : List Vx} (h : graphB c g = true) {a : Nat} (ha : a < g.length) (j : Nat) (hj : j < g.length) : (pastB g a).getD j false = true ↔ Past g g[a] g[j] := by
  have hs := graph_sorted h
  obtain ⟨hcl, hca, hcb⟩ := past_closed h ha
  have huni : ∀ i j (hi : i < g.length) (hj : j < g.length), g[i] = g[j] → i = j := fun i j hi hj e => by
    rcases Nat.lt_trichotomy i j with h1 | h1 | h1
    · have := List.pairwise_iff_getElem.1 hs i j hi hj h1; rw [e] at this; exact (srt_irr this).elim
    · exact h1
    · have := List.pairwise_iff_getElem.1 hs j i hj hi h1; rw [e] at this; exact (srt_irr this).elim
  constructor
  · suffices hh : ∀ n j, (hj : j < g.length) → g.length - j ≤ n → (pastB g a).getD j false = true → Past g g[a] g[j] from hh (g.length - j) j hj (Nat.le_refl _)
    intro n
    induction n with
    | zero => intro j hj hn; omega
    | succ n ih =>
      intro j hj hn hb
      by_cases e : j = a
      · subst e; exact .it
      · obtain ⟨i, hi, hji, hbi, _, er, ep⟩ := past_least h ha j hb e
        exact .up (ih i hi (by omega) hbi) (List.getElem_mem hj) (by omega) ep
  · intro hp
    suffices hh : ∀ x, Past g g[a] x → ∀ j (hj : j < g.length), g[j] = x → (pastB g a).getD j false = true from hh _ hp j hj rfl
    intro x hx
    induction hx with
    | it => intro j hj e; rw [huni j a hj ha e]; exact hca
    | @up x z hpx hz er ep ih =>
      intro j hj e
      have hxm := past_mem (List.getElem_mem ha) hpx
      obtain ⟨i, hi, rfl⟩ := List.mem_iff_getElem.1 hxm
      have hbi := ih i hi rfl
      obtain ⟨k, hk, ek⟩ := List.mem_iff_getElem.1 ep
      have := hcl i hi (Nat.zero_le _) hbi k hk
      obtain ⟨m, hm, em, em2⟩ := findZ_mem hs hz
      rw [er, ← ek] at em
      rw [em, Int.toNat_natCast, huni m j hm hj (by rw [em2, e])] at this
      exact this
theorem idx_filter (g : List Vx) (P : Nat → Bool) (p : Vx → Bool) (h : ∀ j (hj : j < g.length), P j = p g[j]) : ∀ n, n ≤ g.length → (((List.range n).filter P).map fun i => g.getD i vx0) = (g.take n).filter p := by
  intro n
  induction n with
  | zero => intro _; simp
  | succ n ih =>
    intro hn
    rw [List.range_succ, List.filter_append, List.map_append, ih (by omega), List.take_succ_eq_append_getElem (show n < g.length by omega), List.filter_append]
    congr 1
    have := h n (by omega)
    by_cases hp : p g[n] = true
    · rw [hp] at this
      simp [this, hp, List.getElem?_eq_getElem (show n < g.length by omega)]
    · have hp' : p g[n] = false := by simpa using hp
      rw [hp'] at this
      simp [this, hp']
open Classical in
theorem psV_eq {c : List Int} {g : List Vx} (h : graphB c g = true) {y : Vx} (hy : y ∈ g) : psV c g y.r y.a = g.filter fun z => decide (Past g y z) := by
  have hs := graph_sorted h
  obtain ⟨a, ha, ea, rfl⟩ := findZ_mem hs hy
  unfold psV gpZ idxTo
  rw [if_pos h, ea, List.map_map]
  have := idx_filter g (fun i => (pastB g a).getD i false) (fun z => decide (Past g g[a] z)) (fun j hj => by
    rw [Bool.eq_iff_iff, decide_eq_true_iff]; exact pastB_iff h ha j hj) g.length (Nat.le_refl _)
  rw [List.take_length] at this
  rw [← this]
  apply List.map_congr_left
  intro i _
  simp
theorem past_ins {g : List Vx} {x y z : Vx} (hpar : ∀ w ∈ g, parB g w = true) (hn : ∀ w ∈ g, ¬ (w.r = x.r ∧ w.a = x.a)) (hy : y ∈ g) : Past (insG g x) y z ↔ Past g y z := by
  constructor
  · intro h
    induction h with
    | it => exact .it
    | @up w z hw hz er ep ih =>
      have hwm := past_mem hy ih
      obtain ⟨z', hz', er', ea'⟩ := parB_iff.1 (hpar w hwm) z.a ep
      have hz2 : z ∈ g := by
        rcases ins_mem.1 hz with h | rfl
        · exact h
        · exact (hn z' hz' ⟨by omega, ea'⟩).elim
      exact .up ih hz2 er ep
  · intro h
    induction h with
    | it => exact .it
    | up _ hz er ep ih => exact .up ih (ins_mem.2 (.inl hz)) er ep
theorem past_new {g : List Vx} {x y : Vx} (hpar : ∀ w ∈ g, parB g w = true) (hn : ∀ w ∈ g, ¬ (w.r = x.r ∧ w.a = x.a)) (hy : y ∈ g) : ¬ Past (insG g x) y x := by
  intro h
  have := past_mem hy ((past_ins hpar hn hy).1 h)
  exact hn x this ⟨rfl, rfl⟩
open Classical in
/-- P48: a vertex's past stays as it was. -/
theorem keeps_law {c : List Int} {g : List Vx} {x y : Vx} (h : gaN c g x = 0) (hy : y ∈ g) : psV c (gaG c g x) y.r y.a = psV c g y.r y.a := by
  obtain ⟨h1, h2, h3, h4⟩ := gaN_0 h
  obtain ⟨g1, g2, g3, g4⟩ := graph_iff.1 h1
  obtain ⟨hn, hp⟩ := add0 g2 h3
  have hg := ins_graph h1 h2 h3
  rw [h4, psV_eq hg (ins_mem.2 (.inl hy)), psV_eq h1 hy]
  have e1 : (insG g x).filter (fun z => decide (Past (insG g x) y z)) = (insG g x).filter fun z => decide (Past g y z) := by
    refine List.filter_congr fun z _ => ?_
    rw [Bool.eq_iff_iff, decide_eq_true_iff, decide_eq_true_iff]
    exact past_ins g4 hn hy
  rw [e1]
  unfold insG
  rw [List.filter_append, List.filter_append]
  have e2 : [x].filter (fun z => decide (Past g y z)) = [] := by
    rw [List.filter_eq_nil_iff]
    intro z hz
    simp at hz
    subst hz
    rw [decide_eq_true_iff]
    exact fun hpast => hn z (past_mem hy hpast) ⟨rfl, rfl⟩
  rw [e2, List.append_nil, ← List.filter_append, List.take_append_drop]
theorem gp_range {c : List Int} {g : List Vx} {r a : Int} (i : Nat) (hi : i < (gpZ c g r a).length) : ∃ m : Nat, m < g.length ∧ (gpZ c g r a)[i] = m := by
  have hx := List.getElem_mem hi
  generalize hv : (gpZ c g r a)[i] = v at *
  unfold gpZ at hx
  split at hx
  · obtain ⟨m, e, hm, _⟩ := idxTo_all v hx
    exact ⟨m, hm, e⟩
  · cases hx
theorem keeps_at {c : List Int} {g G : List Vx} {r a : Int} (h : psV c G r a = psV c g r a) : (gpZ c G r a).length = (gpZ c g r a).length ∧
    ∀ i (h1 : i < (gpZ c g r a).length) (h2 : i < (gpZ c G r a).length), ∃ m m' : Nat, ∃ hm : m < g.length, ∃ hm' : m' < G.length, (gpZ c g r a)[i] = m ∧ (gpZ c G r a)[i] = m' ∧ G[m'] = g[m] := by
  unfold psV at h
  have hl : (gpZ c G r a).length = (gpZ c g r a).length := by have := congrArg List.length h; simpa using this
  refine ⟨hl, fun i h1 h2 => ?_⟩
  obtain ⟨m, hm, e⟩ := gp_range i h1
  obtain ⟨m', hm', e'⟩ := gp_range i h2
  refine ⟨m, m', hm, hm', e, e', ?_⟩
  have h3 := congrArg (fun l => l[i]?) h
  simp only [List.getElem?_map, List.getElem?_eq_getElem h1, List.getElem?_eq_getElem h2, Option.map_some, e, e', Int.toNat_natCast, Option.some.injEq] at h3
  rwa [getV hm, getV hm'] at h3
theorem keeps_at' {c : List Int} {g G : List Vx} {r a : Int} {L1 L2 : List Int} (e1 : gpZ c g r a = L1) (e2 : gpZ c G r a = L2) (h : psV c G r a = psV c g r a) : L2.length = L1.length ∧
    ∀ i (h1 : i < L1.length) (h2 : i < L2.length), ∃ m m' : Nat, ∃ hm : m < g.length, ∃ hm' : m' < G.length, L1[i] = m ∧ L2[i] = m' ∧ G[m'] = g[m] := by
  subst e1 e2
  exact keeps_at h
/-- P44: which code, in each case. -/
theorem codes3 {c : List Int} {g : List Vx} {x : Vx} (h0 : gaN c g x ≠ 0) (h4 : gaN c g x ≠ 4) : graphB c g = true ∧ vtxB c x = true ∧ gaG c g x = g ∧
    ((∃ k : Nat, ∃ hk : k < g.length, findZ g x.r x.a = k ∧ sameB g[k] x = true ∧ gaN c g x = 1) ∨ (∃ k : Nat, ∃ hk : k < g.length, findZ g x.r x.a = k ∧ sameB g[k] x = false ∧ gaN c g x = 2) ∨
     (findZ g x.r x.a = -1 ∧ parB g x = false ∧ gaN c g x = 3)) := by
  obtain ⟨h1, h2, h3, _, _⟩ := codes_law h0 h4
  refine ⟨h1, h2, h3, ?_⟩
  obtain ⟨e1, _⟩ := ga_of h1 h2
  rw [e1] at h0 ⊢
  unfold addN at h0 ⊢
  rcases findZ_cases g x.r x.a with ⟨e, _⟩ | ⟨k, hk, e, _⟩
  · rw [e, if_neg (by omega)] at h0 ⊢
    cases hp : parB g x with
    | true => rw [hp] at h0; exact absurd rfl h0
    | false => exact .inr (.inr ⟨rfl, rfl, rfl⟩)
  · rw [e, if_pos (by omega), Int.toNat_natCast, getV hk]
    cases hs : sameB g[k] x with
    | true => exact .inl ⟨k, hk, rfl, hs, rfl⟩
    | false => exact .inr (.inl ⟨k, hk, rfl, hs, rfl⟩)
def misB (g : List Vx) (r : Int) (ps : List Int) (k : Nat) : Bool := !(allB (hasP g r ps) k)
theorem mis_zero (g : List Vx) (r : Int) (ps : List Int) : misB g r ps 0 = false := rfl
theorem mis_succ (g : List Vx) (r : Int) (ps : List Int) (k : Nat) : misB g r ps (k + 1) = (misB g r ps k || !(hasP g r ps k)) := by
  unfold misB allB
  rw [List.range_succ, List.all_append]
  simp
theorem mis_true {g : List Vx} {r : Int} {ps : List Int} {k : Nat} (h : misB g r ps k = true) : misB g r ps (k + 1) = true := by rw [mis_succ, h]; rfl
theorem mis_next {g : List Vx} {r : Int} {ps : List Int} {k : Nat} (h : misB g r ps k = false) (hk : k < ps.length) : misB g r ps (k + 1) = decide (findZ g (r - 1) ps[k] < 0) := by
  rw [mis_succ, h, Bool.false_or]
  unfold hasP
  rw [getD_get hk, Bool.eq_iff_iff, Bool.not_eq_true', decide_eq_false_iff_not, decide_eq_true_iff]
  omega

end Go.Proofs.Ytejpoeejhmgphaa
