/- Texts that the laws of this folder share, one behind another; no conditions. -/
import Derived.Test.YtjaacdapibokiabGreatDoorBu0
import Derived.Maps.AppendAt
import Derived.Test.YtjaacdapibokiabGreatDoorRows
import Derived.Test.YtjaacdapibokiabGreatDoorBu1
import Derived.Deep.RegionHeld3
import Derived.Deep.QuietTactic
import Derived.BigQuiet
import Derived.Lib.AppendZeros

/- A list of rows of their own is appended to another one; general steps, nothing here speaks of the program. -/
namespace Go.Proofs.YtjaacdapibokiabGreatDoor
open Go.RowKit

theorem FdOk.one {Ei : TypeId} {w : World} {B : Nat} {c : Value} {f : Fd} (h : FdOk Ei w B c f) : c.oneCell' = true := by
  cases f with
  | l xs =>
    obtain ⟨a, cap, rfl, _⟩ := Own.ints h
    rfl
  | i n => rw [show c = _ from h]; rfl
  | b n => rw [show c = _ from h]; rfl
  | s n => rw [show c = _ from h]; rfl

/-- 'append(s, t...)', t rows of their own that are newer than s. -/
theorem wpList_app_own {P : Program} {T E Ei : TypeId} {z0 : Value} {sz bytes : Nat} (hsl : P.underlying T = some (.slice E)) (hinf : (P.info? E).map (fun i => (i.zero, i.size, i.bytes)) = some (some z0, sz, bytes)) (hz0 : z0.cells.size = sz) (hpos : 0 < sz) (hby : bytes ≤ 1000)
    {w : World} {ops : Array Oper} {rest : List Oper} {o : Oper} {a : Act} {Q : Exit → Act → World → Prop} (hgd : o.guard = none) (s x : Operand) (ho : o.op = .call { callee := .builtin .append, args := #[s, x], argTypes := #[T, T] }) (B : Nat) (v u : Value) (es es2 : List (List Fd))
    (hs : a.eval s = v) (hi0 lo hi2 : Nat) (hb : OwnR E Ei sz w B hi0 v es) (hb2 : OwnR E Ei sz w lo hi2 u es2) (hlo : hi0 ≤ lo) (hh2 : hi2 ≤ w.heap.size) (hBlo : B ≤ lo)
    (hlen : es.length + es2.length ≤ 2097152)
    (hx : a.eval x = u) (hB : B ≤ w.heap.size)
    (h : ∀ v' w', OwnR E Ei sz w' B w'.heap.size v' (es ++ es2) → w.grownBy w' v.ownBlock → wpList P ops Q rest (a.put o.dst v') w') : wpList P ops Q (o :: rest) a w := by
  refine wpList_want (by unfold Region.wanted; rw [hgd]) fun K hK => ?_
  obtain ⟨i, hi, hz, hsz, hbb⟩ := info_parts hinf
  obtain ⟨cs, hown, hc, hcc, hcv, hch, hvh⟩ := hb.row
  obtain ⟨cs2, hown2, hc2, hcc2, hcv2, hch2, hvh2⟩ := hb2.row
  have hcl : cs.length = es.length * sz := hown.1
  have hcl2 : cs2.length = es2.length * sz := hown2.1
  have hkj : ∀ p, p < cs2.length → ∃ (k j : Nat) (hk : k < es2.length) (hj : j < (es2[k]).length), p = k * sz + j := by
    intro p hp
    have hk : p / sz < es2.length := by rw [Nat.div_lt_iff_lt_mul hpos]; omega
    refine ⟨p / sz, p % sz, hk, ?_, ?_⟩
    · rw [hb2.szs _ (List.getElem_mem hk)]; exact Nat.mod_lt _ hpos
    · rw [Nat.mul_comm]; exact (Nat.div_add_mod _ _).symm
  have hfd2 : ∀ (p : Nat) (c : Value), cs2[p]? = some c → ∃ f, FdOk Ei w lo c f := by
    intro p c hp
    obtain ⟨hpl, _⟩ := List.getElem?_eq_some_iff.1 hp
    obtain ⟨k, j, hk, hj, rfl⟩ := hkj p hpl
    obtain ⟨c', hc', hf⟩ := hc2 k j hk hj
    rw [hp] at hc'; cases hc'
    exact ⟨_, hf⟩
  have run : ∃ v' w', (Builtin.append_ #[T, T] o.type #[v, u]).run P w = .ok v' w' ∧ w'.ownsRow B E sz v' (es.length + es2.length) (cs ++ cs2) ∧ w.grownBy w' v.ownBlock ∧ (v'.ownBlock = v.ownBlock ∨ v'.ownBlock = some w.heap.size) := by
    rcases hown2.2 with ⟨rfl, h0⟩ | ⟨g, cap, cur, rfl, hg, hgc, hn, hm, hsz2, ht⟩
    · have hr := run_append_owned_none (P := P) (w := w) B T o.type E i sz hsl hi v es.length _ hown
      have : cs2 = [] := List.eq_nil_of_length_eq_zero (by rw [hcl2, h0]; simp)
      subst this
      exact ⟨v, w, hr, by rw [h0, List.append_nil]; exact hown, ⟨rfl, rfl, rfl, Nat.le_refl _, fun _ _ _ => rfl⟩, .inl rfl⟩
    · obtain ⟨v', w', h1, h2, h3, _, h4⟩ := run_append_own_at (P := P) w B T o.type E i z0 sz bytes hsl hi hz hsz hbb hz0 hpos v es.length _ hown ⟨g, 0, none⟩ es2.length cap cs2 hcl2
        (fun j u hu => by
          have := World.ownsRow.cells hown2 (g := g) rfl _ _ hu
          exact this) (fun c hc => by
          obtain ⟨p, hp⟩ := List.mem_iff_getElem?.1 hc
          obtain ⟨f, hf⟩ := hfd2 p c hp
          exact hf.one) (by unfold maxLen; omega) (by
          have := Nat.mul_le_mul hlen hby; omega) hB
      exact ⟨v', w', h1, h2, h3, h4⟩
  obtain ⟨v', w', hrun, h1, hg, h4⟩ := run
  unfold Oper.wp execOp
  simp only [ho, resolve, invoke, builtin, Sem.run_bind, Sem.run_pure, Result.andThen_ok, List.map_toArray, List.map_cons, List.map_nil, hs, hx, hrun]
  have hloc : ∀ g, v'.ownBlock = some g → v.ownBlock = some g ∨ w.heap.size ≤ g := fun g e => by
    rcases h4 with h4 | h4
    · exact .inl (by rw [← h4]; exact e)
    · rw [h4] at e; cases e; exact .inr (Nat.le_refl _)
  have hva : ∀ (p : Nat) (c : Value), cs2[p]? = some c → Apart c v := fun p c hp g e e' => by
    have := (hch2 p c g hp e).1
    have := hvh g e'
    omega
  have hmix : ∀ (p q : Nat) (c d : Value), cs2[p]? = some c → cs[q]? = some d → Apart c d := fun p q c d hp hq g e e' => by
    have := (hch2 p c g hp e).1
    have := hch q d g hq e'
    omega
  have hsame : ∀ (lo' : Nat) (c : Value) (fd : Fd), FdOk Ei w lo' c fd → Apart c v → FdOk Ei w' lo' c fd := fun lo' c fd hf ha => hf.same fun g e => hg.block g (hf.lt g e).2 fun e' => ha g e e'.symm
  have hall : ∀ (p : Nat) (c : Value), (cs ++ cs2)[p]? = some c → (cs[p]? = some c ∧ p < cs.length) ∨ (cs.length ≤ p ∧ cs2[p - cs.length]? = some c) := fun p c hp => by
    by_cases e : p < cs.length
    · rw [List.getElem?_append_left e] at hp; exact .inl ⟨hp, e⟩
    · rw [List.getElem?_append_right (by omega)] at hp; exact .inr ⟨by omega, hp⟩
  have hwv : ∀ c : Value, (∀ g, c.ownBlock = some g → g < w.heap.size) → Apart c v → Apart c v' := fun c hlt ha g hc' hv' => by
    rcases hloc g hv' with h | h
    · exact ha g hc' h
    · have := hlt g hc'; omega
  refine hK _ _ (h v' w' ⟨?_, cs ++ cs2, by rw [List.length_append]; exact h1, fun k j hk hj => ?_, fun p q c d hp hq hne => ?_, fun p c hp => ?_, fun p c g hp hg' => ?_, fun g e => (World.ownsRow.lt h1 g e).2⟩ hg)
  · intro d hd
    rcases List.mem_append.1 hd with hd | hd
    · exact hb.szs d hd
    · exact hb2.szs d hd
  · by_cases hke : k < es.length
    · have hkk : (es ++ es2)[k] = es[k] := List.getElem_append_left hke
      simp only [hkk] at hj ⊢
      obtain ⟨c, hc1, hf⟩ := hc k j hke hj
      obtain ⟨hpl, _⟩ := List.getElem?_eq_some_iff.1 hc1
      exact ⟨c, by rw [List.getElem?_append_left hpl]; exact hc1, hsame _ c _ hf (hcv _ c hc1)⟩
    · have hk2 : k - es.length < es2.length := by rw [List.length_append] at hk; omega
      have hkk : (es ++ es2)[k] = es2[k - es.length] := List.getElem_append_right (by omega)
      simp only [hkk] at hj ⊢
      obtain ⟨c, hc1, hf⟩ := hc2 (k - es.length) j hk2 hj
      have hq : k * sz + j - cs.length = (k - es.length) * sz + j := by
        rw [hcl, Nat.sub_mul]
        have := Nat.mul_le_mul_right sz (show es.length ≤ k by omega)
        omega
      have hge : cs.length ≤ k * sz + j := by
        rw [hcl]
        have := Nat.mul_le_mul_right sz (show es.length ≤ k by omega)
        omega
      refine ⟨c, by rw [List.getElem?_append_right hge, hq]; exact hc1, ?_⟩
      have hf' := hsame _ c _ hf (hva _ c hc1)
      revert hf'
      generalize (es2[k - es.length])[j] = f
      intro hf'
      cases f with
      | l xs => exact Own.mono (show Own Ei w' lo c xs from hf') hBlo
      | i n => exact hf'
      | b n => exact hf'
      | s n => exact hf'
  · rcases hall p c hp with ⟨hp, _⟩ | ⟨hpl, hp⟩
    · rcases hall q d hq with ⟨hq, _⟩ | ⟨_, hq⟩
      · exact hcc p q c d hp hq hne
      · exact (hmix _ p d c hq hp).symm
    · rcases hall q d hq with ⟨hq, _⟩ | ⟨hql, hq⟩
      · exact hmix _ q c d hp hq
      · exact hcc2 _ _ c d hp hq (by omega)
  · rcases hall p c hp with ⟨hp, _⟩ | ⟨_, hp⟩
    · refine hwv c (fun g e => ?_) (hcv p c hp)
      obtain ⟨hpl, _⟩ := List.getElem?_eq_some_iff.1 hp
      have hk : p / sz < es.length := by rw [Nat.div_lt_iff_lt_mul hpos]; omega
      obtain ⟨c', hc', hf⟩ := hc (p / sz) (p % sz) hk (by rw [hb.szs _ (List.getElem_mem hk)]; exact Nat.mod_lt _ hpos)
      rw [Nat.mul_comm, Nat.div_add_mod, hp] at hc'
      cases hc'
      exact (hf.lt g e).2
    · exact hwv c (fun g e => by have := (hch2 _ c g hp e).2; omega) (hva _ c hp)
  · have hsz' := hg.size
    rcases hall p c hp with ⟨hp, _⟩ | ⟨_, hp⟩
    · have h1 := hch p c g hp hg'
      obtain ⟨hpl, _⟩ := List.getElem?_eq_some_iff.1 hp
      have hk : p / sz < es.length := by rw [Nat.div_lt_iff_lt_mul hpos]; omega
      obtain ⟨c', hc', hf⟩ := hc (p / sz) (p % sz) hk (by rw [hb.szs _ (List.getElem_mem hk)]; exact Nat.mod_lt _ hpos)
      rw [Nat.mul_comm, Nat.div_add_mod, hp] at hc'
      cases hc'
      have := (hf.lt g hg').2
      omega
    · have := hch2 _ c g hp hg'
      omega

end Go.Proofs.YtjaacdapibokiabGreatDoor

/- The reference's adding of a vertex to a graph, each text by a walk; conditions: lists are shorter than 2^40 (a graph: 2^20), and where the text asks it, the committee, the graph and the vertex are valid. -/
namespace Go.Proofs.YtjaacdapibokiabGreatDoor
open Go.RowKit

def sameB (x y : Vx) : Bool := decide (x = y)
theorem sameB_no {x y : Vx} (h : ¬ x = y) : sameB x y = false := decide_eq_false h
theorem vx_ext {x y : Vx} (h1 : x.r = y.r) (h2 : x.a = y.a) (h3 : x.ps = y.ps) (h4 : x.d = y.d) : x = y := by cases x; cases y; simp_all
def pEqB (x y : Vx) (k : Nat) : Bool := decide (x.ps.getD k 0 = y.ps.getD k 0)
theorem sameB_ps {x y : Vx} (h1 : x.r = y.r) (h2 : x.a = y.a) (h4 : x.d = y.d) (hl : x.ps.length = y.ps.length) (h : Upto (pEqB x y) x.ps.length) : sameB x y = true := by
  refine decide_eq_true (vx_ext h1 h2 (List.ext_getElem hl fun i a b => ?_) h4)
  have := of_decide_eq_true (h i a)
  rwa [getD_get a, getD_get b] at this

end Go.Proofs.YtjaacdapibokiabGreatDoor

/- The reference's adding of a vertex to a graph: l11Add and GraphAdd, each by a walk of its text; conditions: lists are shorter than 2^40 (a graph: 2^20), and where the text asks it, the committee, the graph and the vertex are valid. -/
namespace Go.Proofs.YtjaacdapibokiabGreatDoor
open Go.RowKit

/-- Where a vertex belongs. -/
def insN (g : List Vx) (x : Vx) : Nat := g.findIdx fun y => !befB y x
def insG (g : List Vx) (x : Vx) : List Vx := (g.take (insN g x) ++ [x]) ++ g.drop (insN g x)
/-- The code of an addition. -/
def addN (g : List Vx) (x : Vx) : Int := if 0 ≤ findZ g x.r x.a then (if sameB (g.getD (findZ g x.r x.a).toNat vx0) x = true then 1 else 2) else if parB g x = true then 0 else 3
def addG (g : List Vx) (x : Vx) : List Vx := if addN g x = 0 then insG g x else g
def befAt (g : List Vx) (x : Vx) (k : Nat) : Bool := befB (g.getD k vx0) x
theorem insN_end {g : List Vx} {x : Vx} {n : Nat} (h : Upto (befAt g x) n) (hn : g.length = n) : insN g x = n := by
  subst hn
  refine List.findIdx_eq_length.2 fun y hy => ?_
  obtain ⟨k, hk, rfl⟩ := List.mem_iff_getElem.1 hy
  have := h k hk
  unfold befAt at this
  rw [getV hk] at this
  simp [this]
theorem insN_at {g : List Vx} {x : Vx} {k : Nat} (hk : k < g.length) (h : Upto (befAt g x) k) (hb : befAt g x k = false) : insN g x = k := by
  refine (List.findIdx_eq hk).2 ⟨?_, fun j hj => ?_⟩
  · unfold befAt at hb; rw [getV hk] at hb; simp [hb]
  · have := h j hj
    unfold befAt at this
    rw [getV (by omega)] at this
    simp [this]
theorem addN_same {g : List Vx} {x : Vx} {k : Nat} (hk : k < g.length) (h : findZ g x.r x.a = k) (hs : sameB g[k] x = true) : addN g x = 1 ∧ addG g x = g := by
  have : addN g x = 1 := by unfold addN; rw [h, if_pos (by omega), Int.toNat_natCast, getV hk, if_pos hs]
  exact ⟨this, by unfold addG; rw [this]; rfl⟩
theorem addN_twice {g : List Vx} {x : Vx} {k : Nat} (hk : k < g.length) (h : findZ g x.r x.a = k) (hs : sameB g[k] x = false) : addN g x = 2 ∧ addG g x = g := by
  have : addN g x = 2 := by unfold addN; rw [h, if_pos (by omega), Int.toNat_natCast, getV hk, if_neg (by simp [hs])]
  exact ⟨this, by unfold addG; rw [this]; rfl⟩
theorem addN_miss {g : List Vx} {x : Vx} (h : findZ g x.r x.a = -1) (hp : parB g x = false) : addN g x = 3 ∧ addG g x = g := by
  have : addN g x = 3 := by unfold addN; rw [h, if_neg (by omega), if_neg (by simp [hp])]
  exact ⟨this, by unfold addG; rw [this]; rfl⟩
theorem addN_done {g : List Vx} {x : Vx} (h : findZ g x.r x.a = -1) (hp : parB g x = true) : addN g x = 0 ∧ addG g x = insG g x := by
  have : addN g x = 0 := by unfold addN; rw [h, if_neg (by omega), if_pos hp]
  exact ⟨this, by unfold addG; rw [this]; rfl⟩

/-- The tail of a graph, and where it lies. -/
theorem Gr.tail {w : World} {g : List Vx} {va : Option Addr} {vc : Nat} {fp : List Nat} (h : Gr w g (.slice va g.length vc) fp) (k : Nat) (hk : k ≤ g.length) :
    ∃ fp2, Gr w (g.drop k) (.slice (if vc = k then va else va.map fun x => x.add (k * 4)) (g.length - k) (vc - k)) fp2 := by
  cases va with
  | none =>
    have hc0 := Rd.nilcap h
    have hg0 : g.length = 0 := by
      rcases Nat.eq_zero_or_pos g.length with h0 | h0
      · exact h0
      · obtain ⟨_, _, e, _⟩ := h.at h0; cases e
    have hk0 : k = 0 := by omega
    have hgn : g = [] := List.eq_nil_of_length_eq_zero hg0
    subst hgn hk0
    exact ⟨[], .nil _ _ (fun _ => by omega)⟩
  | some av =>
    rcases Nat.eq_zero_or_pos g.length with h0 | h0
    · have hgn : g = [] := List.eq_nil_of_length_eq_zero h0
      subst hgn
      have hk0 : k = 0 := by simp at hk; omega
      subst hk0
      exact ⟨[], .nil _ _ (fun e => by split at e <;> cases e)⟩
    · obtain ⟨b, off, e, _⟩ := h.at h0
      cases e
      obtain ⟨o2, hif, fp2, hr2, _⟩ := Rd.tail h (sz := 4) (by intro e he; obtain ⟨e', he', rfl⟩ := List.mem_map.1 he; obtain ⟨y, _, rfl⟩ := List.mem_map.1 he'; rfl) k (by simp; omega)
      refine ⟨fp2, ?_⟩
      have e2 : (if vc = k then some (⟨b, off, none⟩ : Addr) else (some (⟨b, off, none⟩ : Addr)).map fun x => x.add (k * 4)) = some ⟨b, o2, none⟩ := by
        rw [← hif, Option.map_some, addr_add']
      rw [e2]
      unfold Gr rowsD
      rw [List.map_drop, List.map_drop]
      simpa using hr2

end Go.Proofs.YtjaacdapibokiabGreatDoor

/- The reference's adding, merging and measuring of graphs, each by a walk of its text; conditions: lists are shorter than 2^40 (a graph: 2^20). -/
namespace Go.Proofs.YtjaacdapibokiabGreatDoor
open Go.RowKit

theorem vtx_round {c : List Int} {x : Vx} (h : vtxB c x = true) : 0 ≤ x.r ∧ x.r ≤ 30 := by
  unfold vtxB rngB at h; simp only [Bool.and_eq_true, decide_eq_true_eq] at h; exact h.1
theorem graph_vtx {c : List Int} {g : List Vx} (h : graphB c g = true) : ∀ x ∈ g, vtxB c x = true := by
  intro x hx
  obtain ⟨k, hk, rfl⟩ := List.mem_iff_getElem.1 hx
  unfold graphB at h
  simp only [Bool.and_eq_true] at h
  have := allB_upto h.2 k hk
  unfold okV at this
  rw [getV hk] at this
  simp only [Bool.and_eq_true] at this
  exact this.1

end Go.Proofs.YtjaacdapibokiabGreatDoor

/- Lists of truth values in memory of their own; general steps, nothing here speaks of the program. -/
namespace Go.Proofs.YtjaacdapibokiabGreatDoor
open Go.RowKit

/-- The slice value v owns the truth values bs in memory made from block B on. -/
def OwnB (E : TypeId) (w : World) (B : Nat) (v : Value) (bs : List Bool) : Prop := w.ownsRow B E 1 v bs.length (bs.map Value.bool)
section
variable {E : TypeId} {w w' : World} {B : Nat} {v : Value} {bs : List Bool}
theorem OwnB.kept {row : Option Nat} (h : OwnB E w B v bs) (hg : w.grownBy w' row) (hne : v.ownBlock = none ∨ v.ownBlock ≠ row) : OwnB E w' B v bs := World.ownsRow.kept h hg hne
theorem OwnB.below (h : OwnB E w B v bs) (hg : Below w.heap.size w w') : OwnB E w' B v bs := h.kept (below_grown hg) (by cases hv : v.ownBlock <;> simp)
theorem OwnB.lt (h : OwnB E w B v bs) : ∀ k, v.ownBlock = some k → B ≤ k ∧ k < w.heap.size := World.ownsRow.lt h
theorem OwnB.mono {B' : Nat} (h : OwnB E w B v bs) (hB : B' ≤ B) : OwnB E w B' v bs := by
  refine ⟨h.1, ?_⟩
  rcases h.2 with h0 | ⟨g, cap, cur, e, hb, rest⟩
  · exact .inl h0
  · exact .inr ⟨g, cap, cur, e, by omega, rest⟩
theorem OwnB.slice (h : OwnB E w B v bs) : ∃ a cap, v = .slice a bs.length cap ∧ bs.length ≤ maxLen := by
  rcases h.2 with ⟨rfl, h0⟩ | ⟨g, cap, cur, rfl, hb, hg, hn, hm, hs, ht⟩
  · exact ⟨none, 0, by rw [h0], by rw [h0]; simp⟩
  · exact ⟨_, cap, rfl, by omega⟩
theorem OwnB.row (h : OwnB E w B v bs) (hx : 0 < bs.length) : ∃ g cap, v = .slice (some ⟨g, 0, none⟩) bs.length cap ∧ B ≤ g ∧ g < w.heap.size ∧ bs.length ≤ cap ∧
    (∀ j (h : j < bs.length), w.cell? ⟨g, j, none⟩ = some (.bool bs[j])) ∧ ∀ j, w.frozen? ⟨g, j, none⟩ = false := by
  rcases h.2 with ⟨rfl, h0⟩ | ⟨g, cap, cur, rfl, hb, hg, hn, hm, hs, ht⟩
  · omega
  · refine ⟨g, cap, rfl, hb, (Array.getElem?_eq_some_iff.1 hg).1, hn, fun j hj => ?_, fun j => frozen_of_row w g j cur E hg⟩
    have hc := World.ownsRow.cells (w := w) (base := B) (e := E) (size := 1) (v := .slice (some ⟨g, 0, none⟩) bs.length cap) (n := bs.length) (xs := bs.map Value.bool) h (g := g) rfl j (.bool bs[j]) (by simp [hj])
    rwa [addr_add] at hc
theorem OwnB.store {g cap n : Nat} (h : OwnB E w B (.slice (some ⟨g, 0, none⟩) n cap) bs) (hn : n = bs.length) (j : Nat) (z : Bool) :
    OwnB E (w.setCell ⟨g, j, none⟩ (.bool z)) B (.slice (some ⟨g, 0, none⟩) n cap) (bs.set j z) ∧ w.grownBy (w.setCell ⟨g, j, none⟩ (.bool z)) (some g) := by
  subst hn
  have := World.ownsRow.stored (w := w) (base := B) (e := E) (size := 1) (g := g) (n := bs.length) (cap := cap) h j (.bool z)
  refine ⟨?_, this.2⟩
  unfold OwnB
  rw [List.map_set, List.length_set]
  exact this.1
theorem OwnB.apart {E' : TypeId} {B' : Nat} {u : Value} {xs : List Int} (h' : OwnB E w B v bs) (h : Own E' w B' u xs) (hE : E ≠ E') : v.ownBlock = none ∨ v.ownBlock ≠ u.ownBlock := by
  rcases h'.2 with ⟨rfl, _⟩ | ⟨g, cap, cur, rfl, _, hg, _⟩
  · exact .inl rfl
  · rcases h.2 with ⟨rfl, _⟩ | ⟨g', cap', cur', rfl, _, hg', _⟩
    · exact .inr (fun e => by cases e)
    · refine .inr fun e => hE ?_
      have e' : g = g' := by cases e; rfl
      subst e'
      rw [hg] at hg'
      cases hg'
      rfl
/-- New memory holds no truth. -/
theorem ownB_new (E : TypeId) (w : World) (n : Nat) (hm : n ≤ maxLen) : OwnB E (w.alloc (.cells (madeCells #[.bool false] n) E)) w.heap.size (.slice (some ⟨w.heap.size, 0, none⟩) n n) (List.replicate n false) := by
  have e : (madeCells #[Value.bool false] n).toList = (List.replicate n false).map Value.bool := by
    refine List.ext_getElem (by simp [madeCells]) fun i h1 h2 => ?_
    simp [madeCells, Nat.mod_one]
  have hs : (madeCells #[Value.bool false] n).size = n := by simp [madeCells]
  refine ⟨by simp, .inr ⟨w.heap.size, n, _, by simp, Nat.le_refl _, heap_alloc_new w _, by simp, hm, by rw [hs, Nat.mul_one], ?_⟩⟩
  rw [e]
  exact List.take_of_length_le (by simp)
end

end Go.Proofs.YtjaacdapibokiabGreatDoor

/- A region that draws its order, operation by operation, where the condition on the world is kept up to a last operation alone (a store into what was loaded): general steps, nothing here speaks of the program. -/
namespace Go.Proofs.YtjaacdapibokiabGreatDoor
open Go.RowKit

/-- Whatever order is picked from here on; S holds behind every operation until number m has come up. -/
def wpAnyL (P : Program) (md : Region.Mode) (ops : Array Oper) (Q : Exit → Act → World → Prop) (m : Nat) (S : World → Prop) : Nat → Array Bool → Act → World → Prop
  | 0, listed, a, w => Region.ready md ops listed = [] ∧ Q .normal a w
  | fuel + 1, listed, a, w =>
    (Region.ready md ops listed = [] → Q .normal a w) ∧
    ∀ i ∈ Region.ready md ops listed, wpOp P ops Q i (fun a' w' => ((listed.setIfInBounds i true).getD m true = false → S w') ∧ wpAnyL P md ops Q m S fuel (listed.setIfInBounds i true) a' w') a w

section
variable {P : Program} {md : Region.Mode} {ops : Array Oper} {Q : Exit → Act → World → Prop} {S : World → Prop} {m : Nat}

theorem any_of_L : ∀ (fuel : Nat) (listed : Array Bool) (a : Act) (w : World), wpAnyL P md ops Q m S fuel listed a w → wpAny P md ops Q fuel listed a w
  | 0, _, _, _, h => h
  | fuel + 1, _, _, _, h => ⟨h.1, fun i hi => wpOp_mono (fun a' w' h' => any_of_L fuel _ a' w' h'.2) (h.2 i hi)⟩

/-- Of two that may come up, neither waits for the other. -/
theorem ready_pair {listed : Array Bool} {i j : Nat} (hi : i ∈ Region.ready md ops listed) (hj : j ∈ Region.ready md ops listed) :
    listed.getD j true = false ∧ ∃ o, ops[j]? = some o ∧ ∀ e ∈ o.after, Region.binds md e = true → e.on ≠ i := by
  obtain ⟨hun, o, ho, hall⟩ := mem_ready.1 hj
  refine ⟨hun, o, ho, fun e he hb heq => ?_⟩
  have h1 := hall e he hb
  have h0 := (mem_ready.1 hi).1
  rw [heq] at h1
  by_cases hlt : i < listed.size <;> simp [hlt] at h0 h1
  rw [h0] at h1; cases h1
/-- Number m waits for number i. -/
def waits (md : Region.Mode) (ops : Array Oper) (m i : Nat) : Bool := (ops[m]?.map fun o => o.after.any fun e => Region.binds md e && e.on == i).getD false
theorem waits_not {listed : Array Bool} {i : Nat} (hw : waits md ops m i = true) (hi : i ∈ Region.ready md ops listed) : m ∉ Region.ready md ops listed := by
  intro hm
  obtain ⟨_, o, ho, hno⟩ := ready_pair hi hm
  unfold waits at hw
  rw [ho, Option.map_some, Option.getD_some, Array.any_eq_true'] at hw
  obtain ⟨e, he, hb⟩ := hw
  rw [Bool.and_eq_true, beq_iff_eq] at hb
  exact hno e he hb.1 hb.2

/-- Whoever may come up ahead of number i leaves its temporaries alone. -/
def FreeAt (md : Region.Mode) (ops : Array Oper) (oi : Oper) (i : Nat) (listed : Array Bool) : Prop :=
  ∀ j oj, ops[j]? = some oj → j ≠ i → listed.getD j true = false → (∀ e ∈ oj.after, Region.binds md e = true → e.on ≠ i) → oi.apart ops oj = true
theorem FreeAt.set {oi : Oper} {i j : Nat} {listed : Array Bool} (h : FreeAt md ops oi i listed) (hj : listed.getD j true = false) : FreeAt md ops oi i (listed.setIfInBounds j true) := by
  intro k ok hk hki hun hno
  refine h k ok hk hki ?_ hno
  rcases Nat.decEq j k with hjk | hjk
  · rwa [getD_set_ne true hjk] at hun
  · exact hjk ▸ hj
theorem firstL {i : Nat} {oi : Oper} {v : Value} (hi : ops[i]? = some oi) (hsel : ∀ (j : Nat) (o : Oper) cs b, ops[j]? = some o → o.op ≠ .select cs b)
    (hQ : ∀ c a w, Q (.panic c) (a.put oi.dst v) w → Q (.panic c) a w) (hw : waits md ops m i = true) (fuel : Nat) :
    ∀ (listed : Array Bool) (a : Act) (w : World), FreeAt md ops oi i listed → listed.getD m true = false → i ∈ Region.ready md ops listed → YieldsIf P ops S oi v a → S w →
      wpAnyL P md ops Q m S fuel (listed.setIfInBounds i true) (a.put oi.dst v) w → wpAnyL P md ops Q m S (fuel + 1) listed a w := by
  have im : ∀ {listed}, i ∈ Region.ready md ops listed → i ≠ m := fun hr e => waits_not hw hr (e ▸ hr)
  induction fuel with
  | zero =>
    intro listed a w _ _ hr hy hS H
    refine ⟨fun h => absurd hr (by rw [h]; simp), fun j hj => ?_⟩
    rcases Nat.decEq j i with hji | rfl
    · exact absurd (ready_mono hj hji) (by rw [H.1]; simp)
    · exact hy.wpOp hi hS ⟨fun _ => hS, H⟩
  | succ fuel ih =>
    intro listed a w hfree hmf hr hy hS H
    refine ⟨fun h => absurd hr (by rw [h]; simp), fun j hj => ?_⟩
    rcases Nat.decEq j i with hji | rfl
    · have hjm : j ≠ m := fun e => waits_not hw hr (e ▸ hj)
      obtain ⟨hjun, oj, hoj, hno⟩ := ready_pair hr hj
      refine wpOp_mono (fun a' w' h3 => ?_) (wpOp_putIf hoj (hfree j oj hoj hji hjun hno) (fun cs b => hsel i oi cs b hi) (fun cs b => hsel j oj cs b hoj) hQ hy (H.2 j (ready_mono hj hji)))
      have hS' : S w' := h3.2.1 (by rw [getD_set_ne true hjm, getD_set_ne true (im hr)]; exact hmf)
      exact ⟨fun _ => hS', ih _ a' w' (hfree.set hjun) (by rw [getD_set_ne true hjm]; exact hmf) (ready_mono hr (Ne.symm hji)) h3.1 hS' (by rw [Array.setIfInBounds_comm _ _ hji]; exact h3.2.2)⟩
    · exact hy.wpOp hi hS ⟨fun _ => hS, H⟩
end

section
variable {P : Program} {md : Region.Mode} {l : List Oper} {Q : Exit → Act → World → Prop} {S : World → Prop} {oi : Oper} {rest : List Oper} {fuel m : Nat} {listed : Array Bool} {a : Act} {w : World}

/-- Take number i first: it is carried out and yields v in every world that meets S. -/
theorem takeL (i : Nat) {v : Value} (hi : l.drop i = oi :: rest) (hs : Region.noSelect l.toArray = true) (hf : Region.free md l.toArray listed i = true) (hr : (Region.ready md l.toArray listed).contains i = true) (hm : waits md l.toArray m i = true) (hm' : listed.getD m true = false)
    (hQ : ∀ c a w, Q (.panic c) (a.put oi.dst v) w → Q (.panic c) a w) (hS : S w) (hw : Region.wanted oi (yielded l.toArray a.tmps) = true)
    (hy : ∀ w, S w → (execOp a.eval oi).run P w = .ok (.value v) w)
    (h : wpAnyL P md l.toArray Q m S fuel (listed.setIfInBounds i true) (a.put oi.dst v) w) : wpAnyL P md l.toArray Q m S (fuel + 1) listed a w :=
  firstL (drop_at hi) (Region.noSelect_spec hs) hQ hm fuel listed a w (Region.free_spec (drop_at hi) hf) hm' (by simpa using hr) (.inl ⟨hw, hy⟩) hS h
/-- Number i is left out by its guard. -/
theorem skipL (i : Nat) (hi : l.drop i = oi :: rest) (hs : Region.noSelect l.toArray = true) (hf : Region.free md l.toArray listed i = true) (hr : (Region.ready md l.toArray listed).contains i = true) (hm : waits md l.toArray m i = true) (hm' : listed.getD m true = false)
    (hQ : ∀ c a w, Q (.panic c) (a.put oi.dst undef) w → Q (.panic c) a w) (hS : S w) (hw : Region.wanted oi (yielded l.toArray a.tmps) = false)
    (h : wpAnyL P md l.toArray Q m S fuel (listed.setIfInBounds i true) (a.put oi.dst undef) w) : wpAnyL P md l.toArray Q m S (fuel + 1) listed a w :=
  firstL (drop_at hi) (Region.noSelect_spec hs) hQ hm fuel listed a w (Region.free_spec (drop_at hi) hf) hm' (by simpa using hr) (.inr ⟨hw, rfl⟩) hS h
/-- Number i alone may come up, and is not the last: it is carried out, and S is shown behind it. -/
theorem callL (i : Nat) (hi : l.drop i = oi :: rest) (hr : Region.ready md l.toArray listed = [i]) (hw : Region.wanted oi (yielded l.toArray a.tmps) = true)
    (h : ∀ K' : Act → World → Prop, Shut (∀ a w, S w → (S w → wpAnyL P md l.toArray Q m S fuel (listed.setIfInBounds i true) a w) → K' a w) → Oper.wp P oi a w K' Q) : wpAnyL P md l.toArray Q m S (fuel + 1) listed a w := by
  refine ⟨fun h0 => absurd (hr ▸ h0) (by simp), fun j hj => ?_⟩
  rw [hr] at hj
  have : j = i := by simpa using hj
  subst this
  exact wpOp_step (drop_at hi) fun K' hK => by rw [if_pos hw]; exact h K' fun a w hS hW => hK a w ⟨fun _ => hS, hW hS⟩
/-- The last one. -/
theorem lastL (hi : l.drop m = oi :: rest) (hr : Region.ready md l.toArray listed = [m]) (hend : Region.ready md l.toArray (listed.setIfInBounds m true) = []) (hm : (listed.setIfInBounds m true).getD m true = true) (hw : Region.wanted oi (yielded l.toArray a.tmps) = true)
    (h : ∀ K' : Act → World → Prop, Shut (∀ a w, Q .normal a w → K' a w) → Oper.wp P oi a w K' Q) : wpAnyL P md l.toArray Q m S (fuel + 1) listed a w := by
  refine ⟨fun h0 => absurd (hr ▸ h0) (by simp), fun j hj => ?_⟩
  rw [hr] at hj
  have : j = m := by simpa using hj
  subst this
  refine wpOp_step (drop_at hi) fun K' hK => by
    rw [if_pos hw]
    refine h K' fun a w hq => hK a w ⟨fun e => absurd (hm.symm.trans e) (by simp), ?_⟩
    cases fuel with
    | zero => exact ⟨hend, hq⟩
    | succ f => exact ⟨fun _ => hq, by rw [hend]; simp⟩
theorem wp_region_L (m : Nat) (S : World → Prop) {id : Nat} {ops : Array Oper} {a : Act} {w : World} (hm : P.follows .mixedOrders = true) (hS : S w.drew)
    (h : S w.drew → wpAnyL P .any ops Q m S ops.size (Array.replicate ops.size false) a w.drew) : (Code.region id ops true).wp P Q a w :=
  wp_region_any hm (any_of_L _ _ _ _ (h hS))
end

end Go.Proofs.YtjaacdapibokiabGreatDoor

/- The reference's height of a graph and the past of a vertex, each by a walk of its text; conditions: lists are shorter than 2^40 (a graph: 2^20), and where the text asks it, the graph is valid. -/
namespace Go.Proofs.YtjaacdapibokiabGreatDoor
open Go.RowKit

/-! the order of a graph -/
theorem bef_trans {a b c : Vx} (h : befB a b = true) (k : befB b c = true) : befB a c = true := by
  have h := of_decide_eq_true h
  have k := of_decide_eq_true k
  exact decide_eq_true (by omega)
theorem graph_sorted {c : List Int} {g : List Vx} (h : graphB c g = true) : g.Pairwise fun a b => befB a b = true := by
  unfold graphB at h
  simp only [Bool.and_eq_true] at h
  have hup := allB_upto h.2
  have next : ∀ i (hi : i + 1 < g.length), befB g[i] g[i + 1] = true := by
    intro i hi
    have := hup (i + 1) hi
    unfold okV at this
    rw [getV hi, Nat.add_sub_cancel, getV (show i < g.length by omega)] at this
    simp only [Bool.and_eq_true, Bool.or_eq_true] at this
    rcases this.2.1 with h | h
    · simp at h
    · exact h
  have step : ∀ d i (hi : i + 1 + d < g.length), befB g[i] g[i + 1 + d] = true := by
    intro d
    induction d with
    | zero => intro i hi; exact next i hi
    | succ d ih => intro i hi; exact bef_trans (ih i (by omega)) (next (i + 1 + d) hi)
  refine List.pairwise_iff_getElem.2 fun i j hi hj hij => ?_
  have := step (j - i - 1) i (by omega)
  simpa [show i + 1 + (j - i - 1) = j by omega] using this
theorem members_pairwise {n : Nat} {ms : List Int} (h : ms.Pairwise (· < ·)) (hb : ∀ m ∈ ms, 0 ≤ m ∧ m < n) : membersB n ms = true := by
  unfold membersB
  refine allB_yes (k := ms.length) (fun j hj => ?_) (Nat.le_refl _)
  have hb := hb ms[j] (List.getElem_mem hj)
  refine okAt_yes hj hb.1 hb.2 ?_
  by_cases h0 : j = 0
  · exact .inl h0
  · refine .inr ?_
    rw [getD_get (by omega)]
    exact List.pairwise_iff_getElem.1 h (j - 1) j (by omega) hj (by omega)
theorem vtx_author {c : List Int} {x : Vx} (h : vtxB c x = true) : 0 ≤ x.a ∧ x.a < c.length := by
  unfold vtxB autB at h; simp only [Bool.and_eq_true, decide_eq_true_eq] at h; omega
theorem auth_members {c : List Int} {g : List Vx} (h : graphB c g = true) (r : Int) : membersB c.length (authZ g r) = true := by
  refine members_pairwise ?_ fun m hm => ?_
  · unfold authZ
    rw [List.pairwise_map]
    refine List.Pairwise.imp_of_mem (R := fun a b => befB a b = true) (fun {a b} ha hb hab => ?_) ((graph_sorted h).filter _)
    have ha := of_decide_eq_true (List.mem_filter.1 ha).2
    have hb := of_decide_eq_true (List.mem_filter.1 hb).2
    have := of_decide_eq_true hab
    omega
  · unfold authZ at hm
    obtain ⟨x, hx, rfl⟩ := List.mem_map.1 hm
    exact vtx_author (graph_vtx h x (List.mem_filter.1 hx).1)

end Go.Proofs.YtjaacdapibokiabGreatDoor

/- The reference's past of a vertex, each text by a walk; conditions: lists are shorter than 2^40 (a graph: 2^20), and where the text asks it, the graph is valid. -/
namespace Go.Proofs.YtjaacdapibokiabGreatDoor
open Go.RowKit

/-! the past, as the text marks it -/
def putB (g : List Vx) (r : Int) (bs : List Bool) (p : Int) : List Bool := bs.set (findZ g (r - 1) p).toNat true
def fromB (g : List Vx) (bs : List Bool) (x : Vx) (i k : Nat) : List Bool := if bs.getD i false = true then (x.ps.drop k).foldl (putB g x.r) bs else bs
def downB (g : List Vx) : Nat → List Bool → List Bool
  | 0, bs => bs
  | i + 1, bs => downB g i (fromB g bs (g.getD i vx0) i 0)
def pastB (g : List Vx) (at' : Int) : List Bool := if at' < 0 then List.replicate g.length false else downB g (at'.toNat + 1) ((List.replicate g.length false).set at'.toNat true)
theorem fromB_step {g : List Vx} {bs : List Bool} {x : Vx} {i k : Nat} (hk : k < x.ps.length) (hb : bs.getD i false = true) : (putB g x.r bs x.ps[k]).getD i false = true ∧ fromB g (putB g x.r bs x.ps[k]) x i (k + 1) = fromB g bs x i k := by
  have h1 : (putB g x.r bs x.ps[k]).getD i false = true := by
    unfold putB
    rw [List.getD_eq_getElem?_getD, List.getElem?_set]
    rw [List.getD_eq_getElem?_getD] at hb
    split
    · split
      · rfl
      · rename_i h1 h2
        rw [List.getElem?_eq_none (by omega)] at hb
        simp at hb
    · exact hb
  refine ⟨h1, ?_⟩
  unfold fromB
  rw [if_pos h1, if_pos hb, List.drop_eq_getElem_cons hk, List.foldl_cons]
theorem fromB_end {g : List Vx} {bs : List Bool} {x : Vx} {i : Nat} : fromB g bs x i x.ps.length = bs := by
  unfold fromB
  split
  · rw [List.drop_length]; rfl
  · rfl
theorem fromB_off {g : List Vx} {bs : List Bool} {x : Vx} {i k : Nat} (h : bs.getD i false = false) : fromB g bs x i k = bs := by unfold fromB; rw [if_neg (by rw [h]; decide)]
theorem putB_len (g : List Vx) (r : Int) (bs : List Bool) (p : Int) : (putB g r bs p).length = bs.length := by simp [putB]
/-- Each parent of a graph's vertex is found. -/
theorem graph_parents {c : List Int} {g : List Vx} (h : graphB c g = true) (i : Nat) (hi : i < g.length) (k : Nat) (hk : k < g[i].ps.length) : ∃ j : Nat, j < g.length ∧ findZ g (g[i].r - 1) g[i].ps[k] = j := by
  unfold graphB at h
  simp only [Bool.and_eq_true] at h
  have := allB_upto h.2 i hi
  unfold okV at this
  rw [getV hi] at this
  simp only [Bool.and_eq_true] at this
  have := allB_upto this.2.2 k hk
  unfold hasP at this
  rw [getD_get hk] at this
  have := of_decide_eq_true this
  rcases findZ_cases g (g[i].r - 1) g[i].ps[k] with ⟨e, _⟩ | ⟨j, hj, e, _⟩
  · omega
  · exact ⟨j, hj, e⟩

set_option maxRecDepth 8000 in
set_option maxHeartbeats 2000000 in
theorem spec_l11Past (c : List Int) (g : List Vx) (v : Value) (fp : List Nat) (at' : Int) (w : World) (hv : graphB c g = true) (hbig : g.length ≤ 1048576) (hps : ∀ x ∈ g, x.ps.length ≤ 1099511627776) (ha : at' = -1 ∨ ∃ j : Nat, j < g.length ∧ at' = j) (hg : Gr w g v fp) :
    Calls Tryz.prog 74 #[v, .int .i64 at'] w fun e w' => ∃ u, e = .returned u ∧ OwnB 4 w' w.heap.size u (pastB g at') ∧ Below w.heap.size w w' := by
  have hmk : ∀ w, (Instr.makeSlice 115 (.int .i64 (g.length : Int)) (.int .i64 (g.length : Int))).run Tryz.prog w = .ok (.slice (some ⟨w.heap.size, 0, none⟩) g.length g.length) (w.alloc (.cells (madeCells #[.bool false] g.length) 4)) :=
    fun w => run_make_row' 115 4 (.bool false) 1 Tryz.underlying115 (by kernel_rfl) rfl .i64 .i64 g.length (by omega) (by omega) w
  have hb1 : Below w.heap.size w (w.alloc (.cells (madeCells #[.bool false] g.length) 4)) := (Below.refl _ _).alloc (Nat.le_refl _) _
  have ho1 := ownB_new 4 w g.length (by unfold maxLen; omega)
  obtain ⟨va, vc, rfl⟩ := hg.slice
  have Hb1 := Lib.hid hb1; clear hb1
  have hsz : (w.alloc (.cells (madeCells #[.bool false] g.length) 4)).heap.size = w.heap.size + 1 := by simp
  rcases ha with rfl | ⟨a, haL, rfl⟩
  · have hz : pastB g (-1) = List.replicate g.length false := by unfold pastB; rw [if_pos (by omega)]
    have Hz := Lib.hid hz; clear hz
    have Ho1 := Lib.hid ho1; clear ho1
    go_enter Tryz.func74, Tryz.ntmps74
    go_wp2
    go_ret
    exact ⟨_, rfl, by rw [Hz.out]; exact Ho1.out, Hb1.out⟩
  have hz : pastB g (a : Int) = downB g (a + 1) ((List.replicate g.length false).set a true) := by unfold pastB; rw [if_neg (by omega)]; rfl
  have Hz := Lib.hid hz; clear hz
  obtain ⟨hst1, hst2⟩ := ho1.store (by simp) a true
  obtain ⟨hcell, hfr⟩ : (w.alloc (.cells (madeCells #[.bool false] g.length) 4)).cell? ⟨w.heap.size, a, none⟩ = some (.bool false) ∧ (w.alloc (.cells (madeCells #[.bool false] g.length) 4)).frozen? ⟨w.heap.size, a, none⟩ = false := by
    obtain ⟨g', cap', e, _, _, _, hc, hf⟩ := ho1.row (by simp; omega)
    simp only [Value.slice.injEq, Option.some.injEq, Addr.mk.injEq, List.length_replicate, and_true, true_and] at e
    obtain ⟨rfl, rfl⟩ := e
    have := hc a (by simpa using haL)
    exact ⟨by simpa using this, hf a⟩
  rw [show (w.alloc (.cells (madeCells #[.bool false] g.length) 4)).setCell ⟨w.heap.size, a, none⟩ (.bool true) = w.alloc (.cells ((madeCells #[.bool false] g.length).setIfInBounds a (.bool true)) 4) from World.setCell_alloc_at _ _ _ _ _ rfl] at hst1 hst2
  have Hst1 := Lib.hid hst1; clear hst1
  have HB1 := Lib.hid (Hb1.out.grown hst2 (by omega) (fun g' e => by cases e; exact Nat.le_refl _)); clear hst2 Hb1
  have HF := Lib.hid (fun r p W h => spec_l11Find g (.slice va g.length vc) fp r p W (by omega) h)
  have Hpar := Lib.hid (graph_parents hv)
  have Hrd := Lib.hid (graph_vtx hv)
  have HP := Lib.hid hps; clear hps
  clear ho1 hsz
  go_enter Tryz.func74, Tryz.ntmps74
  go_wp2
  clear hcell hfr hmk
  generalize w.alloc (.cells ((madeCells #[.bool false] g.length).setIfInBounds a (.bool true)) 4) = W1 at *
  go_loopw [6] (fun i wr => ∃ (n : Nat) (bs : List Bool), n ≤ a + 1 ∧ i = .int .i64 ((n : Int) - 1) ∧ bs.length = g.length ∧ downB g n bs = pastB g (a : Int) ∧ OwnB 4 wr w.heap.size (.slice (some ⟨w.heap.size, 0, none⟩) g.length g.length) bs ∧ Below w.heap.size w wr) (fun i _ => (intOf i + 1).toNat)
  case atStart => exact ⟨a + 1, _, Nat.le_refl _, by first | rfl | simp, by simp, Hz.out.symm, Hst1.out, HB1.out⟩
  case round =>
    obtain ⟨n, bs, hn, rfl, hbl, hres, hown, hbel⟩ := hrel
    have Hown := Lib.hid hown; clear hown
    have Hbel := Lib.hid hbel; clear hbel
    by_cases h0 : n = 0
    · subst h0
      have Hr := Lib.hid (show bs = pastB g (a : Int) from hres); clear hres
      go_wp2
      go_ret
      exact ⟨_, rfl, by rw [← Hr.out]; exact Hown.out, Hbel.out⟩
    · obtain ⟨m, rfl⟩ : ∃ m, n = m + 1 := ⟨n - 1, by omega⟩
      have e1 : ((m + 1 : Nat) : Int) - 1 = m := by omega
      rw [e1]
      have hge' : (0 : Int) ≤ (m : Int) := by omega
      have hw1 : IntKind.i64.wrap ((m : Int) - 1) = m - 1 := IntWalk.i64_in _ (by omega)
      have hmL : m < g.length := by omega
      have hres2 : downB g m (fromB g bs g[m] m 0) = pastB g (a : Int) := by rw [← hres, ← getV hmL]; rfl
      have Hres2 := Lib.hid hres2
      have hrr := vtx_round (Hrd.out _ (List.getElem_mem hmL))
      have hps := HP.out _ (List.getElem_mem hmL)
      have Hpm := Lib.hid (fun k hk => Hpar.out m hmL k hk)
      have Hcell := Lib.hid (fun W (h : Below w.heap.size w W) => by
        obtain ⟨b, off, e, hb, hat⟩ := (hg.under h).at (by omega)
        exact (⟨b, off, e, hat m hmL⟩ : ∃ b off, va = some ⟨b, off, none⟩ ∧ W.cell? ⟨b, off + m * 4, none⟩ = some (.int .i64 g[m].r) ∧ W.cell? ⟨b, off + m * 4 + 1, none⟩ = some (.int .i64 g[m].a) ∧ (∃ pa pc, W.cell? ⟨b, off + m * 4 + 2, none⟩ = some (.slice pa g[m].ps.length pc) ∧ IntsAt W pa g[m].ps ∧ SrcAt W pa pc g[m].ps) ∧ W.cell? ⟨b, off + m * 4 + 3, none⟩ = some (.int .i64 g[m].d)))
      obtain ⟨b, off, rfl, _⟩ := Hcell.out w (Below.refl _ _)
      clear e1 h0 hres hres2
      generalize hx : g[m] = x at *
      have Hx := Lib.hid hx; clear hx
      obtain ⟨W0, hW0⟩ : ∃ W0, W0 = wr := ⟨wr, rfl⟩
      subst hW0
      generalize hR : fromB g bs x m 0 = RES at *
      have HR := Lib.hid hR; clear hR
      go_wp2
      go_loopw [7] (fun i wr => ∃ (k : Nat) (bs' : List Bool), k ≤ x.ps.length ∧ i = .int .i64 k ∧ bs'.length = g.length ∧ fromB g bs' x m k = RES ∧ OwnB 4 wr w.heap.size (.slice (some ⟨w.heap.size, 0, none⟩) g.length g.length) bs' ∧ Below w.heap.size w wr) (fun i _ => x.ps.length - (intOf i).toNat)
      case atStart => exact ⟨0, bs, Nat.zero_le _, rfl, hbl, HR.out, Hown.out, Hbel.out⟩
      case round =>
        obtain ⟨k, bs', hk, rfl, hbl', hfr, hown', hbel'⟩ := hrel
        have Hfr := Lib.hid hfr; clear hfr
        have Hbel' := Lib.hid hbel'; clear hbel'
        obtain ⟨b', off', e, c0, c1, ⟨pa, pc, c2, i2, _⟩, c3⟩ := Hcell.out wr Hbel'.out
        simp only [Option.some.injEq, Addr.mk.injEq, and_true] at e
        obtain ⟨rfl, rfl⟩ := e
        obtain ⟨g', cap', e, _, _, _, hbc, hbf⟩ := hown'.row (by omega)
        simp only [Value.slice.injEq, Option.some.injEq, Addr.mk.injEq, and_true] at e
        obtain ⟨rfl, h9, rfl⟩ := e
        clear h9
        have hin := hbc m (by omega)
        have hbm : bs'.getD m false = bs'[m] := by simp [List.getD, List.getElem?_eq_getElem (show m < bs'.length by omega)]
        have Hown' := Lib.hid hown'; clear hown'
        by_cases hlt : k < x.ps.length
        · have hlt' : (k : Int) < (x.ps.length : Int) := by omega
          cases hbv : bs'[m] with
          | true =>
            rw [hbv] at hin hbm
            obtain ⟨j, hjL, hfz⟩ := Hpm.out k hlt
            obtain ⟨b2, off2, rfl, hb2, hat2⟩ := i2.cell (by omega)
            have q0 : wr.drew.cell? ⟨b, off + m * 4, none⟩ = some (.int .i64 x.r) := c0
            have q2 : wr.drew.cell? ⟨b, off + m * 4 + 2, none⟩ = some (.slice (some ⟨b2, off2, none⟩) x.ps.length pc) := c2
            have q3 : wr.drew.cell? ⟨b2, off2 + k, none⟩ = some (.int .i64 x.ps[k]) := hat2 k hlt
            obtain ⟨y, q4⟩ : ∃ y, wr.drew.cell? ⟨w.heap.size, j, none⟩ = some (.bool y) := ⟨_, hbc j (by omega)⟩
            have q5 : wr.drew.frozen? ⟨w.heap.size, j, none⟩ = false := hbf j
            have hw2 : IntKind.i64.wrap (x.r - 1) = x.r - 1 := IntWalk.i64_in _ (by omega)
            have hj2 : (j : Int) < (g.length : Int) := by omega
            have hm2 : (m : Int) < (g.length : Int) := by omega
            have hput : putB g x.r bs' x.ps[k] = bs'.set j true := by unfold putB; rw [hfz]; rfl
            obtain ⟨hs1, hs2⟩ := fromB_step (g := g) (i := m) hlt hbm
            rw [hput] at hs2
            have Hs2 := Lib.hid (hs2.trans Hfr.out)
            have Hfz := Lib.hid hfz
            have HF1 := Lib.hid (fun W h => HF.out (x.r - 1) x.ps[k] W h)
            have Hg1 := Lib.hid (hg.under Hbel'.out)
            have hb0 : Below wr.heap.size wr wr.drew := (Below.refl _ _).drew
            have Hst := Lib.hid ((show OwnB 4 wr.drew w.heap.size (.slice (some ⟨w.heap.size, 0, none⟩) g.length g.length) bs' from Hown'.out).store hbl'.symm j true)
            clear c1 c3 hfz hput hs1 hs2 hat2 hbc hbf hbm hbv
            generalize x.ps[k] = p at *
            go_wp2_with fail
            refine wp_region_L 18 (fun w' => w' = wr.drew) (by kernel_rfl) rfl (fun hH => ?_)
            refine takeL 0 (v := ?vp0) rfl (by kernel_rfl) (by kernel_rfl) (by kernel_rfl) (by kernel_rfl) (by kernel_rfl) (fun _ _ _ h => h) hH rfl ?yp0 ?rp0
            case yp0 => intro W hSw; subst hSw; go_simp; try with_reducible rfl
            try simp only [Act.put, List.setIfInBounds_toArray, List.set_cons_zero, List.set_cons_succ]
            refine takeL 1 (v := ?vp1) rfl (by kernel_rfl) (by kernel_rfl) (by kernel_rfl) (by kernel_rfl) (by kernel_rfl) (fun _ _ _ h => h) hH rfl ?yp1 ?rp1
            case yp1 => intro W hSw; subst hSw; go_simp; try with_reducible rfl
            try simp only [Act.put, List.setIfInBounds_toArray, List.set_cons_zero, List.set_cons_succ]
            refine takeL 2 (v := ?vp2) rfl (by kernel_rfl) (by kernel_rfl) (by kernel_rfl) (by kernel_rfl) (by kernel_rfl) (fun _ _ _ h => h) hH rfl ?yp2 ?rp2
            case yp2 => intro W hSw; subst hSw; go_simp; try with_reducible rfl
            try simp only [Act.put, List.setIfInBounds_toArray, List.set_cons_zero, List.set_cons_succ]
            refine takeL 3 (v := ?vp3) rfl (by kernel_rfl) (by kernel_rfl) (by kernel_rfl) (by kernel_rfl) (by kernel_rfl) (fun _ _ _ h => h) hH rfl ?yp3 ?rp3
            case yp3 => intro W hSw; subst hSw; go_simp; try with_reducible rfl
            try simp only [Act.put, List.setIfInBounds_toArray, List.set_cons_zero, List.set_cons_succ]
            refine takeL 4 (v := ?vp4) rfl (by kernel_rfl) (by kernel_rfl) (by kernel_rfl) (by kernel_rfl) (by kernel_rfl) (fun _ _ _ h => h) hH rfl ?yp4 ?rp4
            case yp4 => intro W hSw; subst hSw; go_simp; try with_reducible rfl
            try simp only [Act.put, List.setIfInBounds_toArray, List.set_cons_zero, List.set_cons_succ]
            refine takeL 5 (v := ?vp5) rfl (by kernel_rfl) (by kernel_rfl) (by kernel_rfl) (by kernel_rfl) (by kernel_rfl) (fun _ _ _ h => h) hH rfl ?yp5 ?rp5
            case yp5 => intro W hSw; subst hSw; go_simp; try with_reducible rfl
            try simp only [Act.put, List.setIfInBounds_toArray, List.set_cons_zero, List.set_cons_succ]
            refine takeL 6 (v := ?vp6) rfl (by kernel_rfl) (by kernel_rfl) (by kernel_rfl) (by kernel_rfl) (by kernel_rfl) (fun _ _ _ h => h) hH rfl ?yp6 ?rp6
            case yp6 => intro W hSw; subst hSw; go_simp; try with_reducible rfl
            try simp only [Act.put, List.setIfInBounds_toArray, List.set_cons_zero, List.set_cons_succ]
            refine takeL 7 (v := ?vp7) rfl (by kernel_rfl) (by kernel_rfl) (by kernel_rfl) (by kernel_rfl) (by kernel_rfl) (fun _ _ _ h => h) hH rfl ?yp7 ?rp7
            case yp7 => intro W hSw; subst hSw; go_simp; try with_reducible rfl
            try simp only [Act.put, List.setIfInBounds_toArray, List.set_cons_zero, List.set_cons_succ]
            refine takeL 8 (v := ?vp8) rfl (by kernel_rfl) (by kernel_rfl) (by kernel_rfl) (by kernel_rfl) (by kernel_rfl) (fun _ _ _ h => h) hH rfl ?yp8 ?rp8
            case yp8 => intro W hSw; subst hSw; go_simp; try with_reducible rfl
            try simp only [Act.put, List.setIfInBounds_toArray, List.set_cons_zero, List.set_cons_succ]
            refine takeL 9 (v := ?vp9) rfl (by kernel_rfl) (by kernel_rfl) (by kernel_rfl) (by kernel_rfl) (by kernel_rfl) (fun _ _ _ h => h) hH rfl ?yp9 ?rp9
            case yp9 => intro W hSw; subst hSw; go_simp; try with_reducible rfl
            try simp only [Act.put, List.setIfInBounds_toArray, List.set_cons_zero, List.set_cons_succ]
            refine takeL 10 (v := ?vp10) rfl (by kernel_rfl) (by kernel_rfl) (by kernel_rfl) (by kernel_rfl) (by kernel_rfl) (fun _ _ _ h => h) hH rfl ?yp10 ?rp10
            case yp10 => intro W hSw; subst hSw; go_simp; try with_reducible rfl
            try simp only [Act.put, List.setIfInBounds_toArray, List.set_cons_zero, List.set_cons_succ]
            refine takeL 11 (v := ?vp11) rfl (by kernel_rfl) (by kernel_rfl) (by kernel_rfl) (by kernel_rfl) (by kernel_rfl) (fun _ _ _ h => h) hH rfl ?yp11 ?rp11
            case yp11 => intro W hSw; subst hSw; go_simp; try with_reducible rfl
            try simp only [Act.put, List.setIfInBounds_toArray, List.set_cons_zero, List.set_cons_succ]
            refine takeL 12 (v := ?vp12) rfl (by kernel_rfl) (by kernel_rfl) (by kernel_rfl) (by kernel_rfl) (by kernel_rfl) (fun _ _ _ h => h) hH rfl ?yp12 ?rp12
            case yp12 => intro W hSw; subst hSw; go_simp; try with_reducible rfl
            try simp only [Act.put, List.setIfInBounds_toArray, List.set_cons_zero, List.set_cons_succ]
            refine takeL 13 (v := ?vp13) rfl (by kernel_rfl) (by kernel_rfl) (by kernel_rfl) (by kernel_rfl) (by kernel_rfl) (fun _ _ _ h => h) hH rfl ?yp13 ?rp13
            case yp13 => intro W hSw; subst hSw; go_simp; try with_reducible rfl
            try simp only [Act.put, List.setIfInBounds_toArray, List.set_cons_zero, List.set_cons_succ]
            refine takeL 14 (v := ?vp14) rfl (by kernel_rfl) (by kernel_rfl) (by kernel_rfl) (by kernel_rfl) (by kernel_rfl) (fun _ _ _ h => h) hH rfl ?yp14 ?rp14
            case yp14 => intro W hSw; subst hSw; go_simp; try with_reducible rfl
            try simp only [Act.put, List.setIfInBounds_toArray, List.set_cons_zero, List.set_cons_succ]
            refine takeL 15 (v := ?vp15) rfl (by kernel_rfl) (by kernel_rfl) (by kernel_rfl) (by kernel_rfl) (by kernel_rfl) (fun _ _ _ h => h) hH rfl ?yp15 ?rp15
            case yp15 => intro W hSw; subst hSw; go_simp; try with_reducible rfl
            try simp only [Act.put, List.setIfInBounds_toArray, List.set_cons_zero, List.set_cons_succ]
            refine callL 16 rfl (by kernel_rfl) rfl (fun K hK => ?_)
            go_simp
            go_at_call 91
            refine (HF1.out wr.drew (Hg1.out.under hb0)).mono ?_
            rintro e wx ⟨rfl, rfl⟩
            rw [Hfz.out]
            refine hK.out _ _ rfl (fun hH => ?_)
            clear hK K
            try simp only [Act.put, List.setIfInBounds_toArray, List.set_cons_zero, List.set_cons_succ]
            refine takeL 17 (v := ?vp17) rfl (by kernel_rfl) (by kernel_rfl) (by kernel_rfl) (by kernel_rfl) (by kernel_rfl) (fun _ _ _ h => h) hH rfl ?yp17 ?rp17
            case yp17 => intro W hSw; subst hSw; go_simp; try with_reducible rfl
            try simp only [Act.put, List.setIfInBounds_toArray, List.set_cons_zero, List.set_cons_succ]
            refine lastL rfl (by kernel_rfl) (by kernel_rfl) (by kernel_rfl) rfl (fun K hK => ?_)
            go_simp
            refine hK.out _ _ ?_
            clear hK K
            try simp only [Act.put, List.setIfInBounds_toArray, List.set_cons_zero, List.set_cons_succ]
            go_wp2
            go_roundw
            case rel => exact ⟨k + 1, bs'.set j true, by omega, by go_num, by rw [List.length_set]; exact hbl', Hs2.out, Hst.out.1, Hbel'.out.drew.grown Hst.out.2 (by simp only [World.drew]; exact Nat.le_trans Hbel'.out.size (Nat.le_refl _)) (fun g' e => by cases e; exact Nat.le_refl _)⟩
            case measure => simp [intOf]; omega
          | false =>
            rw [hbv] at hin hbm
            have Hr := Lib.hid ((fromB_off (g := g) (x := x) (k := k) hbm).symm.trans Hfr.out)
            clear hbc hbf hbm hbv
            go_wp2
            go_roundw
            case rel => exact ⟨m, bs', by omega, by first | rfl | go_num, hbl', by rw [Hr.out]; exact Hres2.out, Hown'.out, Hbel'.out⟩
            case measure => simp [intOf]
        · have hke : k = x.ps.length := by omega
          subst hke
          have Hr := Lib.hid (fromB_end.symm.trans Hfr.out)
          clear hbc hbf hbm hin
          go_wp2
          go_roundw
          case rel => exact ⟨m, bs', by omega, by first | rfl | go_num, hbl', by rw [Hr.out]; exact Hres2.out, Hown'.out, Hbel'.out⟩
          case measure => simp [intOf]

theorem pastB_len (g : List Vx) (a : Int) : (pastB g a).length = g.length := by
  have hf : ∀ (r : Int) (ps : List Int) (bs : List Bool), (ps.foldl (putB g r) bs).length = bs.length := by
    intro r ps
    induction ps with
    | nil => intro bs; rfl
    | cons p ps ih => intro bs; rw [List.foldl_cons, ih, putB_len]
  have hd : ∀ (n : Nat) (bs : List Bool), (downB g n bs).length = bs.length := by
    intro n
    induction n with
    | zero => intro bs; rfl
    | succ n ih =>
      intro bs
      rw [downB, ih]
      unfold fromB
      split
      · exact hf _ _ _
      · rfl
  unfold pastB
  split
  · simp
  · rw [hd]; simp

/-- The places of truth below n. -/
def idxTo (bs : List Bool) (n : Nat) : List Int := ((List.range n).filter fun i => bs.getD i false).map Int.ofNat
theorem idxTo_zero (bs : List Bool) : idxTo bs 0 = [] := rfl
theorem idxTo_yes {bs : List Bool} {n : Nat} (h : bs.getD n false = true) : idxTo bs (n + 1) = idxTo bs n ++ [(n : Int)] := by simp only [idxTo, List.range_succ, List.filter_append, List.map_append, List.filter_cons, h]; rfl
theorem idxTo_no {bs : List Bool} {n : Nat} (h : bs.getD n false = false) : idxTo bs (n + 1) = idxTo bs n := by simp only [idxTo, List.range_succ, List.filter_append, List.map_append, List.filter_cons, h]; simp
theorem idxTo_len (bs : List Bool) (n : Nat) : (idxTo bs n).length ≤ n := by
  unfold idxTo
  rw [List.length_map]
  exact Nat.le_trans (List.length_filter_le _ _) (by simp)
def gpZ (c : List Int) (g : List Vx) (r a : Int) : List Int := if graphB c g = true then idxTo (pastB g (findZ g r a)) g.length else []
theorem gpZ_len (c : List Int) (g : List Vx) (r a : Int) : (gpZ c g r a).length ≤ g.length := by
  unfold gpZ
  split
  · exact idxTo_len _ _
  · simp

end Go.Proofs.YtjaacdapibokiabGreatDoor

/- What the laws of graphs say of the reference's answers, and the past of a vertex: it is closed, it ends with the vertex; plain facts on lists, nothing here is walked. -/
namespace Go.Proofs.YtjaacdapibokiabGreatDoor
open Go.RowKit

theorem Own.cap' {E : TypeId} {w : World} {B : Nat} {v : Value} {xs : List Int} (h : Own E w B v xs) : ∀ a n c, v = .slice a n c → xs.length ≤ c := fun a n c e => by subst e; exact h.cap
/-- In a valid graph a vertex is found where it stands. -/
theorem find_uni {c : List Int} {g : List Vx} {r a : Int} (h : graphB c g = true) (k : Nat) (hk : k < g.length) : (g[k].r = r ∧ g[k].a = a) ↔ (k : Int) = findZ g r a := by
  have hs := List.pairwise_iff_getElem.1 (graph_sorted h)
  rcases findZ_cases g r a with ⟨e, hno⟩ | ⟨j, hj, e, hyes, hbef⟩
  · constructor
    · intro hh
      have := hno _ (List.getElem_mem hk)
      exact absurd (decide_eq_true hh) (by unfold sameRA at this; rw [this]; simp)
    · intro hh; omega
  · have hj2 : g[j].r = r ∧ g[j].a = a := of_decide_eq_true hyes
    constructor
    · intro hh
      rcases Nat.lt_trichotomy j k with hlt | heq | hgt
      · have := of_decide_eq_true (hs j k hj hk hlt)
        omega
      · omega
      · have := of_decide_eq_true (hs k j hk hj hgt)
        omega
    · intro hh
      have : k = j := by omega
      subst this
      exact hj2
theorem find_lt (g : List Vx) (r a : Int) : findZ g r a < g.length := by
  rcases findZ_cases g r a with ⟨e, _⟩ | ⟨j, hj, e, _⟩ <;> omega
theorem parent_lt {c : List Int} {g : List Vx} (h : graphB c g = true) {i j : Nat} (hi : i < g.length) {p : Int} (hj : j < g.length) (e : findZ g (g[i].r - 1) p = j) : j < i := by
  have hs := List.pairwise_iff_getElem.1 (graph_sorted h)
  rcases findZ_cases g (g[i].r - 1) p with ⟨e', _⟩ | ⟨j', hj', e', hyes, _⟩
  · omega
  · have : j' = j := by omega
    subst this
    have hr : g[j'].r = g[i].r - 1 := (of_decide_eq_true hyes).1
    rcases Nat.lt_trichotomy j' i with hlt | heq | hgt
    · exact hlt
    · subst heq; omega
    · have := of_decide_eq_true (hs i j' hi hj hgt)
      omega
theorem setB_get (bs : List Bool) (i j : Nat) : (bs.set i true).getD j false = true ↔ bs.getD j false = true ∨ (i = j ∧ j < bs.length) := by
  simp only [List.getD_eq_getElem?_getD, List.getElem?_set]
  by_cases e : i = j
  · subst e
    rw [if_pos rfl]
    by_cases h : i < bs.length
    · rw [if_pos h]; simp [h]
    · rw [if_neg h, List.getElem?_eq_none (by omega)]; simp [h]
  · rw [if_neg e]; simp [e]
theorem foldB_get (g : List Vx) (r : Int) : ∀ (ps : List Int) (bs : List Bool) (j : Nat), (ps.foldl (putB g r) bs).getD j false = true ↔ bs.getD j false = true ∨ ∃ p ∈ ps, (findZ g (r - 1) p).toNat = j ∧ j < bs.length
  | [], bs, j => by simp
  | p :: ps, bs, j => by
    rw [List.foldl_cons, foldB_get g r ps, putB_len]
    unfold putB
    rw [setB_get]
    constructor
    · rintro ((h | h) | ⟨q, hq, h⟩)
      · exact .inl h
      · exact .inr ⟨p, by simp, h⟩
      · exact .inr ⟨q, List.mem_cons_of_mem _ hq, h⟩
    · rintro (h | ⟨q, hq, h⟩)
      · exact .inl (.inl h)
      · rcases List.mem_cons.1 hq with rfl | hq
        · exact .inl (.inr h)
        · exact .inr ⟨q, hq, h⟩
/-- From row n on, the parents of what is marked are marked. -/
def ClosedFrom (g : List Vx) (bs : List Bool) (n : Nat) : Prop := ∀ i (hi : i < g.length), n ≤ i → bs.getD i false = true → ∀ k (hk : k < g[i].ps.length), bs.getD (findZ g (g[i].r - 1) g[i].ps[k]).toNat false = true
theorem fromB_len (g : List Vx) (bs : List Bool) (x : Vx) (i : Nat) : (fromB g bs x i 0).length = bs.length := by
  have hf : ∀ (r : Int) (ps : List Int) (bs : List Bool), (ps.foldl (putB g r) bs).length = bs.length := by
    intro r ps
    induction ps with
    | nil => intro bs; rfl
    | cons p ps ih => intro bs; rw [List.foldl_cons, ih, putB_len]
  unfold fromB
  split
  · exact hf _ _ _
  · rfl
theorem down_closed {c : List Int} {g : List Vx} (h : graphB c g = true) : ∀ (n : Nat) (bs : List Bool), n ≤ g.length → bs.length = g.length → ClosedFrom g bs n → ClosedFrom g (downB g n bs) 0 ∧ (∀ j, bs.getD j false = true → (downB g n bs).getD j false = true) ∧ ∀ j, n ≤ j → (downB g n bs).getD j false = true → bs.getD j false = true
  | 0, bs, _, _, hc => ⟨hc, fun _ h => h, fun _ _ h => h⟩
  | n + 1, bs, hn, hl, hc => by
    have hnl : n < g.length := by omega
    have hpar := fun k hk => graph_parents h n hnl k hk
    rw [downB, getV hnl]
    have hget : ∀ j, (fromB g bs g[n] n 0).getD j false = true ↔ bs.getD j false = true ∨ (bs.getD n false = true ∧ ∃ p ∈ g[n].ps, (findZ g (g[n].r - 1) p).toNat = j ∧ j < bs.length) := by
      intro j
      unfold fromB
      split
      · rename_i hb
        rw [List.drop_zero, foldB_get]
        exact ⟨fun h => h.imp id (fun h => ⟨hb, h⟩), fun h => h.imp id (·.2)⟩
      · rename_i hb
        exact ⟨.inl, fun h => h.elim id fun h => absurd h.1 hb⟩
    have hlow : ∀ j, n ≤ j → (fromB g bs g[n] n 0).getD j false = true → bs.getD j false = true := by
      intro j hj hb
      rcases (hget j).1 hb with hb | ⟨_, p, hp, e, hjl⟩
      · exact hb
      · obtain ⟨k, hk, rfl⟩ := List.mem_iff_getElem.1 hp
        obtain ⟨j', hj', e'⟩ := hpar k hk
        have := parent_lt h hnl hj' e'
        rw [e'] at e
        have : j' = j := by simpa using e
        omega
    have hcl : ClosedFrom g (fromB g bs g[n] n 0) n := by
      intro i hi hni hb k hk
      have hbi := hlow i hni hb
      rcases Nat.eq_or_lt_of_le hni with heq | hlt
      · subst heq
        obtain ⟨j', hj', e'⟩ := hpar k hk
        rw [hget]
        exact .inr ⟨hbi, g[n].ps[k], List.getElem_mem hk, rfl, by rw [e', hl]; simpa using hj'⟩
      · rw [hget]
        exact .inl (hc i hi (by omega) hbi k hk)
    obtain ⟨h1, h2, h3⟩ := down_closed h n _ (by omega) (by rw [fromB_len]; exact hl) hcl
    exact ⟨h1, fun j hb => h2 j ((hget j).2 (.inl hb)), fun j hj hb => hlow j (by omega) (h3 j (by omega) hb)⟩
theorem fromB_get {g : List Vx} {bs : List Bool} {x : Vx} {n : Nat} (j : Nat) : (fromB g bs x n 0).getD j false = true ↔ bs.getD j false = true ∨ (bs.getD n false = true ∧ ∃ p ∈ x.ps, (findZ g (x.r - 1) p).toNat = j ∧ j < bs.length) := by
  unfold fromB
  split
  · rename_i hb
    rw [List.drop_zero, foldB_get]
    exact ⟨fun h => h.imp id (fun h => ⟨hb, h⟩), fun h => h.imp id (·.2)⟩
  · rename_i hb
    exact ⟨.inl, fun h => h.elim id fun h => absurd h.1 hb⟩
/-- What is marked is the vertex itself or a parent of what is marked from row n on. -/
def ProvFrom (g : List Vx) (a : Nat) (bs : List Bool) (n : Nat) : Prop := ∀ j, bs.getD j false = true → j = a ∨ ∃ i, ∃ hi : i < g.length, n ≤ i ∧ bs.getD i false = true ∧ ∃ p ∈ g[i].ps, (findZ g (g[i].r - 1) p).toNat = j
theorem down_prov {g : List Vx} {a : Nat} : ∀ (n : Nat) (bs : List Bool), n ≤ g.length → bs.length = g.length → ProvFrom g a bs n → ProvFrom g a (downB g n bs) 0
  | 0, _, _, _, h => h
  | n + 1, bs, hn, hl, h => by
    have hnl : n < g.length := by omega
    rw [downB, getV hnl]
    refine down_prov n _ (by omega) (by rw [fromB_len]; exact hl) fun j hj => ?_
    rcases (fromB_get j).1 hj with hb | ⟨hb, p, hp, e, _⟩
    · rcases h j hb with e | ⟨i, hi, hni, hbi, hp⟩
      · exact .inl e
      · exact .inr ⟨i, hi, by omega, (fromB_get i).2 (.inl hbi), hp⟩
    · exact .inr ⟨n, hnl, Nat.le_refl _, (fromB_get n).2 (.inl hb), p, hp, e⟩
/-- Each marked vertex but the last has a later marked one that refers to it. -/
theorem past_least {c : List Int} {g : List Vx} (h : graphB c g = true) {a : Nat} (ha : a < g.length) (j : Nat) (hj : (pastB g (a : Int)).getD j false = true) (hne : j ≠ a) :
    ∃ i, ∃ hi : i < g.length, j < i ∧ (pastB g (a : Int)).getD i false = true ∧ ∃ hjl : j < g.length, g[i].r = g[j].r + 1 ∧ g[j].a ∈ g[i].ps := by
  have e : pastB g (a : Int) = downB g (a + 1) ((List.replicate g.length false).set a true) := by unfold pastB; rw [if_neg (by omega)]; rfl
  have hp : ProvFrom g a (pastB g (a : Int)) 0 := by
    rw [e]
    refine down_prov (a + 1) _ (by omega) (by simp) fun j hb => ?_
    rw [setB_get] at hb
    rcases hb with hb | hb
    · rw [List.getD_eq_getElem?_getD, List.getElem?_replicate] at hb
      split at hb <;> simp at hb
    · exact .inl hb.1.symm
  rcases hp j hj with e1 | ⟨i, hi, _, hbi, p, hpm, ej⟩
  · exact absurd e1 hne
  · obtain ⟨k, hk, rfl⟩ := List.mem_iff_getElem.1 hpm
    obtain ⟨j', hj', e'⟩ := graph_parents h i hi k hk
    rw [e'] at ej
    have : j' = j := by simpa using ej
    subst this
    have hlt := parent_lt h hi hj' e'
    rcases findZ_cases g (g[i].r - 1) g[i].ps[k] with ⟨e2, _⟩ | ⟨j2, hj2, e2, hy, _⟩
    · omega
    · have : j2 = j' := by omega
      subst this
      have hy2 : g[j2].r = g[i].r - 1 ∧ g[j2].a = g[i].ps[k] := of_decide_eq_true hy
      exact ⟨i, hi, hlt, hbi, hj2, by omega, by rw [hy2.2]; exact List.getElem_mem hk⟩
/-- The past of a vertex that is there: it is closed, it has the vertex, and none behind it. -/
theorem past_closed {c : List Int} {g : List Vx} (h : graphB c g = true) {a : Nat} (ha : a < g.length) : ClosedFrom g (pastB g a) 0 ∧ (pastB g a).getD a false = true ∧ ∀ j, a < j → (pastB g a).getD j false = false := by
  have e : pastB g (a : Int) = downB g (a + 1) ((List.replicate g.length false).set a true) := by unfold pastB; rw [if_neg (by omega)]; rfl
  have hb : ∀ j, ((List.replicate g.length false).set a true).getD j false = true ↔ a = j := by
    intro j
    rw [setB_get]
    have : (List.replicate g.length false).getD j false = false := by
      rw [List.getD_eq_getElem?_getD, List.getElem?_replicate]
      split <;> rfl
    rw [this]
    simp
    omega
  obtain ⟨h1, h2, h3⟩ := down_closed h (a + 1) ((List.replicate g.length false).set a true) (by omega) (by simp) (fun i hi hni hbi => by have := (hb i).1 hbi; omega)
  rw [e]
  refine ⟨h1, h2 a ((hb a).2 rfl), fun j hj => Bool.eq_false_iff.2 fun hh => ?_⟩
  have := (hb j).1 (h3 j hj hh)
  omega

theorem idxTo_mem {bs : List Bool} {n m : Nat} : (m : Int) ∈ idxTo bs n ↔ m < n ∧ bs.getD m false = true := by
  unfold idxTo
  rw [List.mem_map]
  constructor
  · rintro ⟨k, hk, e⟩
    have : k = m := by have : (k : Int) = m := e; omega
    subst this
    have := List.mem_filter.1 hk
    exact ⟨List.mem_range.1 this.1, this.2⟩
  · rintro ⟨h1, h2⟩
    exact ⟨m, List.mem_filter.2 ⟨List.mem_range.2 h1, h2⟩, rfl⟩
theorem idxTo_all {bs : List Bool} {n : Nat} : ∀ x ∈ idxTo bs n, ∃ m : Nat, x = m ∧ m < n ∧ bs.getD m false = true := by
  intro x hx
  have hx' := hx
  unfold idxTo at hx
  obtain ⟨k, _, rfl⟩ := List.mem_map.1 hx
  exact ⟨k, rfl, idxTo_mem.1 hx'⟩
theorem idxTo_asc (bs : List Bool) (n : Nat) : (idxTo bs n).Pairwise (· < ·) := by
  unfold idxTo
  rw [List.pairwise_map]
  refine (List.Pairwise.filter _ List.pairwise_lt_range).imp fun {a b} h => ?_
  show (a : Int) < b
  omega
/-- What the law of the past asks of the indexes. -/
theorem past_law {c : List Int} {g : List Vx} {r b : Int} {L : List Int} (hL : gpZ c g r b = L) (hne : 0 < L.length) : graphB c g = true ∧ ∃ a : Nat, a < g.length ∧ findZ g r b = a ∧
    (∀ i (hi : i < L.length), ∃ m : Nat, ∃ hm : m < g.length, L[i] = m ∧ ∀ k (hk : k < g[m].ps.length), ∃ j : Nat, j < g.length ∧ findZ g (g[m].r - 1) g[m].ps[k] = j ∧ (j : Int) ∈ L) ∧
    (∀ i (hi : i < L.length), 0 < i → L[i - 1]'(by omega) < L[i]) ∧ L[L.length - 1]'(by omega) = a := by
  cases hgb : graphB c g with
  | false =>
    exfalso
    unfold gpZ at hL
    rw [hgb] at hL
    subst hL
    simp at hne
  | true =>
    have e : idxTo (pastB g (findZ g r b)) g.length = L := by rw [← hL]; unfold gpZ; rw [if_pos hgb]
    rcases findZ_cases g r b with ⟨ez, _⟩ | ⟨a, ha, ez, _⟩
    · exfalso
      rw [ez] at e
      have hall := idxTo_all (bs := pastB g (-1)) (n := g.length)
      rw [e] at hall
      obtain ⟨m, _, _, hm⟩ := hall _ (List.getElem_mem hne)
      unfold pastB at hm
      rw [if_pos (by omega), List.getD_eq_getElem?_getD, List.getElem?_replicate] at hm
      split at hm <;> simp at hm
    · rw [ez] at e
      obtain ⟨h1, h2, h3⟩ := past_closed hgb ha
      have hpw := idxTo_asc (pastB g (a : Int)) g.length
      have hall := idxTo_all (bs := pastB g (a : Int)) (n := g.length)
      have hmem := fun m => idxTo_mem (bs := pastB g (a : Int)) (n := g.length) (m := m)
      rw [e] at hpw hall
      simp only [e] at hmem
      have hasc := List.pairwise_iff_getElem.1 hpw
      refine ⟨rfl, a, ha, ez, fun i hi => ?_, fun i hi h0 => hasc (i - 1) i (by omega) hi (by omega), ?_⟩
      · obtain ⟨m, em, hm, hb⟩ := hall _ (List.getElem_mem hi)
        refine ⟨m, hm, em, fun k hk => ?_⟩
        obtain ⟨j, hj, ej⟩ := graph_parents hgb m hm k hk
        have := h1 m hm (by omega) hb k hk
        rw [ej] at this
        exact ⟨j, hj, ej, (hmem j).2 ⟨hj, this⟩⟩
      · obtain ⟨i, hi, ei⟩ := List.mem_iff_getElem.1 ((hmem a).2 ⟨ha, h2⟩)
        obtain ⟨m, em, hm, hb⟩ := hall _ (List.getElem_mem (show L.length - 1 < L.length by omega))
        have hma : m ≤ a := by
          refine Nat.le_of_not_lt fun hlt => ?_
          rw [h3 m hlt] at hb
          simp at hb
        rcases Nat.eq_or_lt_of_le (show i ≤ L.length - 1 by omega) with hq | hq
        · simp only [← hq, ei]
        · have := hasc i (L.length - 1) hi (by omega) hq
          omega

/-- What P47 asks of the indexes. -/
theorem least_law {c : List Int} {g : List Vx} {r b : Int} {L : List Int} (hL : gpZ c g r b = L) (i : Nat) (hi : i + 1 < L.length) :
    ∃ k, ∃ hk : k < L.length, i < k ∧ ∃ m : Nat, ∃ hm : m < g.length, L[i] = m ∧ ∃ m' : Nat, ∃ hm' : m' < g.length, L[k] = m' ∧ g[m'].r = g[m].r + 1 ∧ g[m].a ∈ g[m'].ps := by
  obtain ⟨hgb, a, ha, hfa, hrow, hasc, hlast⟩ := past_law hL (by omega)
  have e : idxTo (pastB g (a : Int)) g.length = L := by rw [← hL]; unfold gpZ; rw [if_pos hgb, hfa]
  have hpw := idxTo_asc (pastB g (a : Int)) g.length
  have hall := idxTo_all (bs := pastB g (a : Int)) (n := g.length)
  have hmem := fun m => idxTo_mem (bs := pastB g (a : Int)) (n := g.length) (m := m)
  rw [e] at hpw hall
  simp only [e] at hmem
  have hasc := List.pairwise_iff_getElem.1 hpw
  obtain ⟨m, em, hm, hb⟩ := hall _ (List.getElem_mem (show i < L.length by omega))
  have hne : m ≠ a := by
    intro h
    have := hasc i (L.length - 1) (by omega) (by omega) (by omega)
    omega
  obtain ⟨m', hm', hlt, hb', _, h1, h2⟩ := past_least hgb ha m hb hne
  obtain ⟨k, hk, ek⟩ := List.mem_iff_getElem.1 ((hmem m').2 ⟨hm', hb'⟩)
  refine ⟨k, hk, ?_, m, hm, em, m', hm', ek, h1, h2⟩
  rcases Nat.lt_trichotomy i k with h | h | h
  · exact h
  · subst h; omega
  · have := hasc k i hk (by omega) h
    omega

end Go.Proofs.YtjaacdapibokiabGreatDoor

/- The reader of a code: what it picks lies in the range that is asked, and nothing but the reader's own count is written; each by a walk of its text; condition: at most 2^40 picks. -/
namespace Go.Proofs.YtjaacdapibokiabGreatDoor
open Go.RowKit

/-- The reader in block R: its code reads as bytes; it has picked p times. -/
structure Rdr (w : World) (R : Nat) (p : Nat) : Prop where
  at0 : ∃ a cap zs, w.cell? ⟨R, 0, none⟩ = some (.slice a (List.length (α := Int) zs) cap) ∧ zs.length ≤ 2000 ∧ (∀ z ∈ zs, 0 ≤ z ∧ z ≤ 255) ∧
    (zs.length < 1 ∨ ∃ b off, a = some ⟨b, off, none⟩ ∧ b < w.heap.size ∧ b < R ∧ ∀ j (h : j < zs.length), w.cell? ⟨b, off + j, none⟩ = some (.int .u8 zs[j]))
  at1 : w.cell? ⟨R, 1, none⟩ = some (.int .i64 p)
  fr : w.frozen? ⟨R, 1, none⟩ = false

theorem bits_xor_i64_nat (a b : Nat) (ha : a < 4611686018427387904) (hb : b < 4611686018427387904) : bits .xor .i64 (a : Int) (b : Int) = ((a ^^^ b : Nat) : Int) := by
  have hx : a ^^^ b < 2 ^ 62 := Nat.xor_lt_two_pow (by omega) (by omega)
  have h1 : (BitVec.ofInt 64 (a : Int)).toNat = a := by simp; omega
  have h2 : (BitVec.ofInt 64 (b : Int)).toNat = b := by simp; omega
  show IntKind.i64.wrap ((BitVec.ofInt 64 (a : Int) ^^^ BitVec.ofInt 64 (b : Int)).toNat : Int) = _
  rw [BitVec.toNat_xor, h1, h2]
  exact IntWalk.i64_in _ (by omega)

/-- A code that came in: its bytes. -/
structure CodeAt (w : World) (a : Option Addr) (cap : Nat) (zs : List Int) : Prop where
  big : zs.length ≤ 1099511627776
  cap : zs.length ≤ cap
  byte : ∀ z ∈ zs, 0 ≤ z ∧ z ≤ 255
  cells : zs.length < 1 ∨ ∃ b off, a = some ⟨b, off, none⟩ ∧ b < w.heap.size ∧ ∀ j (h : j < zs.length), w.cell? ⟨b, off + j, none⟩ = some (.int .u8 zs[j])
theorem CodeAt.below {w w' : World} {a : Option Addr} {cap : Nat} {zs : List Int} (h : CodeAt w a cap zs) (hb : Below w.heap.size w w') : CodeAt w' a cap zs := by
  refine ⟨h.big, h.cap, h.byte, ?_⟩
  rcases h.cells with h0 | ⟨b, off, rfl, hlt, hc⟩
  · exact .inl h0
  · exact .inr ⟨b, off, rfl, Nat.lt_of_lt_of_le hlt hb.size, fun j hj => (hb.cell (p := ⟨b, off + j, none⟩) hlt).trans (hc j hj)⟩
theorem codeAt_of {w : World} {a : Option Addr} {cap : Nat} {zs : List Int} (hk : zs.length ≤ cap) (hm : zs.length ≤ 1048576) (hi : zs = [] ∨ ∃ b off, a = some ⟨b, off, none⟩ ∧ b < w.heap.size ∧ ∀ j (h : j < zs.length), w.cell? ⟨b, off + j, none⟩ = some (.int .u8 zs[j]))
    (hw : ∀ z ∈ zs, (Lit.int .u8 z).wf = true) : CodeAt w a cap zs := by
  have hc : zs.length < 1 ∨ ∃ b off, a = some ⟨b, off, none⟩ ∧ b < w.heap.size ∧ ∀ j (h : j < zs.length), w.cell? ⟨b, off + j, none⟩ = some (.int .u8 zs[j]) := by
    rcases hi with rfl | hi
    · exact .inl (by simp)
    · exact .inr hi
  refine ⟨by omega, hk, fun z hz => ?_, hc⟩
  have := hw z hz
  simp [Lit.wf, IntKind.min, IntKind.max, IntKind.signed, IntKind.bits] at this
  omega

/-- The world behind one pick. -/
def picked (w : World) (R p : Nat) : World := w.setCell ⟨R, 1, none⟩ (.int .i64 ((p : Int) + 1))
theorem picked_grown (w : World) (R p : Nat) : w.grownBy (picked w R p) (some R) :=
  ⟨rfl, rfl, rfl, by simp [picked, World.setCell], fun k _ hk => Below.heap_setCell _ _ _ _ (fun e => hk (by rw [e]))⟩
theorem picked_rdr {w : World} {R p : Nat} (h : Rdr w R p) : Rdr (picked w R p) R (p + 1) := by
  obtain ⟨⟨a, cap, zs, h0, hlen, hby, hb⟩, h1, hfr⟩ := h
  refine ⟨⟨a, cap, zs, (World.cell?_setCell_other _ _ _ _ (by simp)).trans h0, hlen, hby, ?_⟩, (World.cell?_setCell_same _ _ _ h1).trans (by simp), (World.frozen?_setCell _ _ _ _).trans hfr⟩
  rcases hb with hb | ⟨b, off, rfl, hlt, hne, hc⟩
  · exact .inl hb
  · exact .inr ⟨b, off, rfl, by simpa [picked, World.setCell] using hlt, hne, fun j hj => (World.cell?_setCell_other _ _ _ _ (by simp)).trans (hc j hj)⟩
theorem Rdr.kept {w w' : World} {R p : Nat} {row : Option Nat} (h : Rdr w R p) (hg : w.grownBy w' row) (hrow : ∀ g, row = some g → R < g) : Rdr w' R p := by
  obtain ⟨⟨a, cap, zs, h0, hlen, hby, hb⟩, h1, hfr⟩ := h
  have hRr : ∀ b, b ≤ R → some b ≠ row := fun b hb e => by have := hrow b e.symm; omega
  have hRs := World.block_lt_of_cell? w _ h1
  refine ⟨⟨a, cap, zs, hg.cell h0 (hRr _ (Nat.le_refl _)), hlen, hby, ?_⟩, hg.cell h1 (hRr _ (Nat.le_refl _)), (World.frozen?_of_block (hg.block R hRs (hRr _ (Nat.le_refl _)))).trans hfr⟩
  rcases hb with hb | ⟨b, off, rfl, hlt, hne, hc⟩
  · exact .inl hb
  · exact .inr ⟨b, off, rfl, Nat.lt_of_lt_of_le hlt hg.size, hne, fun j hj => hg.cell (hc j hj) (hRr b (by omega))⟩
theorem Rdr.alloc {w : World} {R p : Nat} (h : Rdr w R p) (o : Obj) : Rdr (w.alloc o) R p := h.kept (World.grownBy_alloc w o none) (by simp)
theorem Rdr.lt {w : World} {R p : Nat} (h : Rdr w R p) : R < w.heap.size := World.block_lt_of_cell? w _ h.at1
theorem Rdr.drewN {w : World} {R p : Nat} (h : Rdr w R p) (n : Nat) : Rdr (w.drewN n) R p := ⟨h.at0, h.at1, h.fr⟩
theorem grownBy_drewN {a w : World} {row : Option Nat} (h : a.grownBy w row) (n : Nat) : a.grownBy (w.drewN n) row := ⟨h.os, h.tape, h.output, h.size, h.block⟩

theorem pick_any (R : Nat) (n : Int) (p : Nat) (w : World) (hp : p ≤ 1099511627776) (hr : Rdr w R p) (hn : n ≤ 1099511627776) :
    Calls Tryz.prog 41 #[.pointer (some ⟨R, 0, none⟩), .int .i64 n] w fun e w' => ∃ k : Int, e = .returned (.int .i64 k) ∧ 0 ≤ k ∧ (k < n ∨ k = 0) ∧ Rdr w' R (p + 1) ∧ w.grownBy w' (some R) := by
  have hr' := picked_rdr hr
  have hg := picked_grown w R p
  have Hr := Lib.hid hr'
  have Hg := Lib.hid hg; clear hg
  obtain ⟨⟨a, cap, zs, h0, hlen, hby, hbytes⟩, h1, hfr⟩ := hr
  have hs0 : (w.setCell ⟨R, 1, none⟩ (.int .i64 ((p : Int) + 1))).cell? ⟨R, 0, none⟩ = some (.slice a zs.length cap) := (World.cell?_setCell_other _ _ _ _ (by simp)).trans h0
  have hs1 : (w.setCell ⟨R, 1, none⟩ (.int .i64 ((p : Int) + 1))).cell? ⟨R, 1, none⟩ = some (.int .i64 ((p : Int) + 1)) := World.cell?_setCell_same _ _ _ h1
  clear hr'
  by_cases hn1 : n < 1
  · go_enter Tryz.func41, Tryz.ntmps41
    go_wp2
    go_ret
    exact ⟨0, rfl, by omega, .inr rfl, Hr.out, Hg.out⟩
  by_cases hz : zs.length < 1
  · have hz1 : ((zs.length : Int) == 0) = true := by rw [beq_iff_eq]; omega
    go_enter Tryz.func41, Tryz.ntmps41
    go_wp2
    go_ret
    exact ⟨0, rfl, by omega, .inr rfl, Hr.out, Hg.out⟩
  have hz1 : ((zs.length : Int) == 0) = false := by rw [beq_eq_false_iff_ne]; omega
  obtain ⟨b, off, rfl, hlt, hne, hc⟩ := hbytes.resolve_left hz
  have hcc : ∀ j (h : j < zs.length), (w.setCell ⟨R, 1, none⟩ (.int .i64 ((p : Int) + 1))).cell? ⟨b, off + j, none⟩ = some (.int .u8 zs[j]) := fun j hj => (World.cell?_setCell_other _ _ _ _ (by simp)).trans (hc j hj)
  clear hc
  have Hc := Lib.hid hcc; clear hcc
  have Hby := Lib.hid hby; clear hby
  by_cases hpl : p < zs.length
  · have hcell := Hc.out p hpl
    have hbd := Hby.out zs[p] (List.getElem_mem hpl)
    go_enter Tryz.func41, Tryz.ntmps41
    go_wp2
    go_ret
    exact ⟨zs[p] % n, rfl, Int.emod_nonneg _ (by omega), .inl (Int.emod_lt_of_pos _ (by omega)), Hr.out, Hg.out⟩
  · have hq1 : p % zs.length < zs.length := Nat.mod_lt _ (by omega)
    have hq2 : (p * 7 + 3) % zs.length < zs.length := Nat.mod_lt _ (by omega)
    have hcell1 := Hc.out _ hq1
    have hcell2 := Hc.out _ hq2
    obtain ⟨hb1, hb1'⟩ := Hby.out _ (List.getElem_mem hq1)
    obtain ⟨hb2, hb2'⟩ := Hby.out _ (List.getElem_mem hq2)
    have hdv : p / zs.length ≤ p := Nat.div_le_self _ _
    generalize zs[p % zs.length] = x1 at hcell1 hb1 hb1'
    generalize zs[(p * 7 + 3) % zs.length] = x2 at hcell2 hb2 hb2'
    have m1 : ((p : Int)).tmod zs.length = ((p % zs.length : Nat) : Int) := by rw [Int.tmod_eq_emod_of_nonneg (by omega)]; omega
    have m2 : ((p : Int) * 7 + 3).tmod zs.length = (((p * 7 + 3) % zs.length : Nat) : Int) := by rw [Int.tmod_eq_emod_of_nonneg (by omega), Int.natCast_emod]; rfl
    have m3 : ((p : Int)).tdiv zs.length = ((p / zs.length : Nat) : Int) := by rw [Int.tdiv_eq_ediv_of_nonneg (by omega)]; omega
    generalize hQ1 : p % zs.length = q1 at *
    generalize hQ2 : (p * 7 + 3) % zs.length = q2 at *
    generalize hQ3 : p / zs.length = q3 at *
    have HQ1 := Lib.hid hQ1; clear hQ1
    have HQ2 := Lib.hid hQ2; clear hQ2
    have HQ3 := Lib.hid hQ3; clear hQ3
    have i1 : (q1 : Int) < zs.length := by omega
    have i2 : (q2 : Int) < zs.length := by omega
    have e1 : IntKind.i64.wrap (x1 * 131) = x1 * 131 := IntWalk.i64_in _ (by omega)
    have e2 : IntKind.i64.wrap ((p : Int) * 7) = p * 7 := IntWalk.i64_in _ (by omega)
    have e3 : IntKind.i64.wrap ((p : Int) * 7 + 3) = p * 7 + 3 := IntWalk.i64_in _ (by omega)
    have e4 : IntKind.i64.wrap (x2 * 1117) = x2 * 1117 := IntWalk.i64_in _ (by omega)
    have e5 : IntKind.i64.wrap (x1 * 131 + x2 * 1117) = x1 * 131 + x2 * 1117 := IntWalk.i64_in _ (by omega)
    have e6 : IntKind.i64.wrap ((p : Int) * 29) = p * 29 := IntWalk.i64_in _ (by omega)
    have e7 : IntKind.i64.wrap (x1 * 131 + x2 * 1117 + (p : Int) * 29) = x1 * 131 + x2 * 1117 + p * 29 := IntWalk.i64_in _ (by omega)
    have e8 : IntKind.i64.wrap ((q3 : Int) * 53) = q3 * 53 := IntWalk.i64_in _ (by omega)
    have e9 : IntKind.i64.wrap (x1 * 131 + x2 * 1117 + (p : Int) * 29 + (q3 : Int) * 53) = x1 * 131 + x2 * 1117 + p * 29 + q3 * 53 := IntWalk.i64_in _ (by omega)
    have e10 : IntKind.i64.wrap x1 = x1 := IntWalk.i64_in _ (by omega)
    have e11 : IntKind.i64.wrap x2 = x2 := IntWalk.i64_in _ (by omega)
    have e12 : IntKind.i64.wrap (q3 : Int) = q3 := IntWalk.i64_in _ (by omega)
    have hX : ∃ X : Nat, x1 * 131 + x2 * 1117 + (p : Int) * 29 + (q3 : Int) * 53 = X ∧ X < 4611686018427387904 := ⟨(x1 * 131 + x2 * 1117 + (p : Int) * 29 + (q3 : Int) * 53).toNat, by omega, by omega⟩
    obtain ⟨X, hX, hXb⟩ := hX
    rw [hX] at e9
    have HX := Lib.hid hX; clear hX
    have hx1 := bits_xor_i64_nat X (X / 64) hXb (Nat.lt_of_le_of_lt (Nat.div_le_self _ _) hXb)
    have Hx1 := Lib.hid hx1; clear hx1
    go_enter Tryz.func41, Tryz.ntmps41
    go_wp2
    go_quiet (fail)
    clear e1 e2 e3 e4 e5 e6 e7 e8 e9 e10 e11 e12 m1 m2 m3
    go_wp2
    go_ret
    rw [HX.out, show (X : Int) / 64 = ((X / 64 : Nat) : Int) from by simp, Hx1.out, Int.tmod_eq_emod_of_nonneg (by omega)]
    exact ⟨_, rfl, Int.emod_nonneg _ (by omega), .inl (Int.emod_lt_of_pos _ (by omega)), Hr.out.drewN _, grownBy_drewN Hg.out _⟩

theorem rdr_new (w : World) (a : Option Addr) (cap n : Nat) (zs : List Int) (T : TypeId) (hn : n = zs.length) (hlen : zs.length ≤ 2000) (hby : ∀ z ∈ zs, 0 ≤ z ∧ z ≤ 255)
    (hc : zs.length < 1 ∨ ∃ b off, a = some ⟨b, off, none⟩ ∧ b < w.heap.size ∧ ∀ j (h : j < zs.length), w.cell? ⟨b, off + j, none⟩ = some (.int .u8 zs[j])) :
    Rdr (w.alloc (.cells #[.slice a n cap, .int .i64 0] T)) w.heap.size 0 := by
  subst hn
  refine ⟨⟨a, cap, zs, by rw [World.cell?_alloc_at _ _ _ _ rfl]; rfl, hlen, hby, ?_⟩, by rw [World.cell?_alloc_at _ _ _ _ rfl]; rfl, World.frozen?_alloc_at _ _ _ _ rfl⟩
  rcases hc with h | ⟨b, off, rfl, hlt, h⟩
  · exact .inl h
  · exact .inr ⟨b, off, rfl, by simp; omega, hlt, fun j hj => (World.cell?_alloc_past _ _ _ hlt).trans (h j hj)⟩

theorem open_any (a : Option Addr) (cap : Nat) (zs : List Int) (w : World) (h : CodeAt w a cap zs) :
    Calls Tryz.prog 26 #[.slice a zs.length cap] w fun e w' => ∃ R, e = .returned (.pointer (some ⟨R, 0, none⟩)) ∧ w.heap.size ≤ R ∧ R < w'.heap.size ∧ Rdr w' R 0 ∧ Below w.heap.size w w' := by
  obtain ⟨hbig, hcap, hby, hc⟩ := h
  by_cases hl : zs.length ≤ 2000
  · go_enter Tryz.func26, Tryz.ntmps26
    go_wp2
    go_ret
    exact ⟨w.heap.size, rfl, Nat.le_refl _, by simp, rdr_new w a cap _ zs _ rfl hl hby hc, (Below.refl _ _).alloc (Nat.le_refl _) _⟩
  · obtain ⟨b, off, rfl, hlt, hcc⟩ := hc.resolve_left (by omega)
    go_enter Tryz.func26, Tryz.ntmps26
    go_wp2
    go_ret
    have ht : (zs.take 2000).length = 2000 := by rw [List.length_take]; omega
    exact ⟨w.heap.size, rfl, Nat.le_refl _, by simp, rdr_new w _ cap 2000 (zs.take 2000) _ ht.symm (by omega) (fun z hz => hby z (List.mem_of_mem_take hz)) (.inr ⟨b, off, rfl, hlt, fun j hj => by rw [hcc j (by omega), List.getElem_take]⟩), (Below.refl _ _).alloc (Nat.le_refl _) _⟩

end Go.Proofs.YtjaacdapibokiabGreatDoor

/- The draws of committees and of members: what is drawn is a short list of small numbers in new memory; each by a walk of its text; condition: at most 2^40 picks. -/
namespace Go.Proofs.YtjaacdapibokiabGreatDoor
open Go.RowKit

theorem TI' : IntT Tryz.prog 23 3 := ⟨Tryz.underlying23, by kernel_rfl⟩

def sizes9 : List Int := [4, 4, 4, 1, 2, 3, 5, 6, 7]
theorem sizes9_at (k : Nat) (hk : k < 9) : ∃ m : Nat, (#[Value.int .i64 4, .int .i64 4, .int .i64 4, .int .i64 1, .int .i64 2, .int .i64 3, .int .i64 5, .int .i64 6, .int .i64 7] : Array Value)[k]? = some (.int .i64 m) ∧ 1 ≤ m ∧ m ≤ 7 := by
  match k, hk with
  | 0, _ => exact ⟨4, rfl, by omega, by omega⟩
  | 1, _ => exact ⟨4, rfl, by omega, by omega⟩
  | 2, _ => exact ⟨4, rfl, by omega, by omega⟩
  | 3, _ => exact ⟨1, rfl, by omega, by omega⟩
  | 4, _ => exact ⟨2, rfl, by omega, by omega⟩
  | 5, _ => exact ⟨3, rfl, by omega, by omega⟩
  | 6, _ => exact ⟨5, rfl, by omega, by omega⟩
  | 7, _ => exact ⟨6, rfl, by omega, by omega⟩
  | 8, _ => exact ⟨7, rfl, by omega, by omega⟩

/-- Numbers between -1 and 10. -/
def Small (xs : List Int) : Prop := ∀ x ∈ xs, -1 ≤ x ∧ x ≤ 10

theorem small_push {xs : List Int} (h : Small xs) {z : Int} (h1 : -1 ≤ z) (h2 : z ≤ 10) : Small (xs ++ [z]) := by
  intro x hx
  rcases List.mem_append.1 hx with hx | hx
  · exact h x hx
  · simp at hx; subst hx; exact ⟨h1, h2⟩
theorem small_app {xs zs : List Int} (h : Small xs) (k : Small zs) : Small (xs ++ zs) := fun x hx => by
  rcases List.mem_append.1 hx with hx | hx
  · exact h x hx
  · exact k x hx
theorem small_set {xs : List Int} (h : Small xs) (j : Nat) {z : Int} (h1 : -1 ≤ z) (h2 : z ≤ 10) : Small (xs.set j z) := fun x hx => by
  rcases List.mem_or_eq_of_mem_set hx with hx | rfl
  · exact h x hx
  · exact ⟨h1, h2⟩
theorem lit4_at (k : Nat) (hk : k < 4) : ∃ z : Int, (#[Value.int .i64 0, .int .i64 9, .int .i64 10, .int .i64 (-1)] : Array Value)[k]? = some (.int .i64 z) ∧ -1 ≤ z ∧ z ≤ 10 := by
  match k, hk with
  | 0, _ => exact ⟨0, rfl, by omega, by omega⟩
  | 1, _ => exact ⟨9, rfl, by omega, by omega⟩
  | 2, _ => exact ⟨10, rfl, by omega, by omega⟩
  | 3, _ => exact ⟨-1, rfl, by omega, by omega⟩
theorem grown_row {w a b : World} {R : Nat} {row : Option Nat} (h : w.grownBy a (some R)) (k : a.grownBy b row) (hr : ∀ g, row = some g → w.heap.size ≤ g) : w.grownBy b (some R) :=
  ⟨k.os.trans h.os, k.tape.trans h.tape, k.output.trans h.output, Nat.le_trans h.size k.size, fun i hi hne => (k.block i (Nat.lt_of_lt_of_le hi h.size) (fun e => by have := hr i e.symm; omega)).trans (h.block i hi hne)⟩
theorem prod_bd {a b : Int} (h1 : 0 ≤ a) (h2 : a ≤ 3) (h3 : 0 ≤ b) (h4 : b ≤ 2) : 0 ≤ a * b ∧ a * b ≤ 6 :=
  ⟨Int.mul_nonneg h1 h3, Int.le_trans (Int.mul_le_mul h2 h4 h3 (by omega)) (by omega)⟩

theorem drawCommittee (R p : Nat) (w : World) (hp : p ≤ 1000000) (hr : Rdr w R p) (hR : R < w.heap.size) :
    Calls Tryz.prog 64 #[.pointer (some ⟨R, 0, none⟩)] w fun e w' => ∃ v xs p', e = .returned v ∧ Own 3 w' w.heap.size v xs ∧ xs.length ≤ 11 ∧ Small xs ∧ Rdr w' R p' ∧ p' ≤ p + 20 ∧ w.grownBy w' (some R) := by
  have hr1 := (hr.alloc (.cells #[] 3)).alloc (.cells #[.int .i64 4, .int .i64 4, .int .i64 4, .int .i64 1, .int .i64 2, .int .i64 3, .int .i64 5, .int .i64 6, .int .i64 7] 3)
  have ho1 := (own_empty 3 w (Nat.le_refl _)).alloc (.cells #[.int .i64 4, .int .i64 4, .int .i64 4, .int .i64 1, .int .i64 2, .int .i64 3, .int .i64 5, .int .i64 6, .int .i64 7] 3)
  have Hr1 := Lib.hid hr1; clear hr1
  have Ho1 := Lib.hid ho1; clear ho1
  go_enter Tryz.func64, Tryz.ntmps64
  go_wp2_with fail
  refine (pick_any R 9 p _ (by omega) Hr1.out (by omega)).mono ?_
  rintro e w2 ⟨k, rfl, hk0, hk1, hr2, hg2⟩
  obtain ⟨k, rfl⟩ := Int.eq_ofNat_of_zero_le hk0
  obtain ⟨m, hm, hm1, hm2⟩ := sizes9_at k (by omega)
  have hcell := lit_cell hg2 (by simp; omega) hm
  simp only [World.size_alloc] at hcell
  have hk9 : k < 9 := by omega
  have Hg2 := Lib.hid (grownBy_trans (grownBy_trans (World.grownBy_alloc w _ (some R)) (World.grownBy_alloc _ _ (some R))) hg2)
  have Ho2 := Lib.hid (Ho1.out.kept hg2 (.inr (by simp [Value.ownBlock]; omega)))
  have Hr2 := Lib.hid hr2; clear hr2
  clear hm hk0 hk1 hg2
  go_wp2_with fail
  go_loopw [3, 5] (fun v i wr => ∃ xs q, xs.length ≤ m ∧ i = .int .i64 (List.length (α := Int) xs) ∧ Own 3 wr w.heap.size v xs ∧ Small xs ∧ Rdr wr R q ∧ q ≤ p + 1 + 2 * xs.length ∧ w.grownBy wr (some R)) (fun _ i _ => m - (intOf i).toNat)
  case atStart => exact ⟨[], p + 1, by simp, rfl, Ho2.out, by intro x hx; simp at hx, Hr2.out, by simp, Hg2.out⟩
  case round =>
    obtain ⟨xs, q, hxm, rfl, hown, hsm, hrd, hq, hgr⟩ := hrel
    by_cases hlt : xs.length < m
    · have Hrd := Lib.hid hrd; clear hrd
      have Hown := Lib.hid hown; clear hown
      go_wp2_with fail
      refine (pick_any R 4 q _ (by omega) Hrd.out (by omega)).mono ?_
      rintro e w3 ⟨x, rfl, hx0, hx1, hr3, hg3⟩
      have Hr3 := Lib.hid hr3; clear hr3
      have Hg3 := Lib.hid (grownBy_trans hgr hg3)
      have Ho3 := Lib.hid (Hown.out.kept hg3 (.inr (fun e => by have := (Hown.out.lt R e).1; omega)))
      clear hg3
      go_wp2_with fail
      refine (pick_any R 3 (q + 1) _ (by omega) Hr3.out (by omega)).mono ?_
      rintro e w4 ⟨y, rfl, hy0, hy1, hr4, hg4⟩
      have Hr4 := Lib.hid hr4; clear hr4
      have Hg4 := Lib.hid (grownBy_trans Hg3.out hg4)
      have Ho4 := Lib.hid (Ho3.out.kept hg4 (.inr (fun e => by have := (Ho3.out.lt R e).1; omega)))
      clear hg4
      obtain ⟨hxy0, hxy1⟩ := prod_bd hx0 (show x ≤ 3 by omega) hy0 (show y ≤ 2 by omega)
      have hB := Hg4.out.size
      go_wp2_with (at_builtin; refine wpList_push TI' rfl (.tmp 17) (.tmp 25) rfl w.heap.size _ xs _ rfl Ho4.out (by omega) rfl hB ?_; intro v' w5 hown5 hg5)
      have Hr5 := Lib.hid (Hr4.out.kept hg5 (fun g e => by have := (Ho4.out.lt g e).1; omega))
      have Hg5 := Lib.hid (grown_row Hg4.out hg5 (fun g e => (Ho4.out.lt g e).1))
      clear hg5
      go_wp2
      go_roundw
      case rel => exact ⟨_, q + 2, by simp; omega, by simp, hown5, small_push hsm (by omega) (by omega), Hr5.out, by simp; omega, Hg5.out⟩
      case measure => simp [intOf]; omega
    · have Hrd := Lib.hid hrd; clear hrd
      have hxm' : xs.length = m := by omega
      obtain ⟨g, cap, rfl, hgB, hgs, hcap, hcells, hfz⟩ := hown.row (by omega)
      have Hown := Lib.hid hown; clear hown
      have Hcells := Lib.hid hcells; clear hcells
      have Hfz := Lib.hid hfz; clear hfz
      have Hm := Lib.hid hxm'; clear hxm'
      go_wp2_with fail
      refine (pick_any R 24 q _ (by omega) Hrd.out (by omega)).mono ?_
      rintro e w3 ⟨x, rfl, hx0, hx1, hr3, hg3⟩
      have Hr3 := Lib.hid hr3; clear hr3
      have Hg3 := Lib.hid (grownBy_trans hgr hg3)
      have Ho3 := Lib.hid (Hown.out.kept hg3 (.inr (by simp [Value.ownBlock]; omega)))
      have hB := Hg3.out.size
      clear hg3 Hcells Hfz
      by_cases h0 : x = 0
      · subst h0
        go_wp2_with (at_builtin; refine wpList_pushes TI' rfl (.tmp 31) (.tmp 32) rfl w.heap.size _ xs [1, 1, 1, 1] 4 _ rfl rfl rfl Ho3.out (by simp; omega) rfl hB ?_; intro v' w5 hown5 hg5)
        go_ret
        exact ⟨_, _, _, rfl, hown5, by simp; omega, small_app hsm (by intro z hz; simp at hz; omega),
          Hr3.out.kept hg5 (fun g' e => by have := (Ho3.out.lt g' e).1; omega), by omega, grown_row Hg3.out hg5 (fun g' e => (Ho3.out.lt g' e).1)⟩
      have h0' : (x == 0) = false := by rw [beq_eq_false_iff_ne]; exact h0
      by_cases h1 : x = 1
      · subst h1
        have Hxl := Lib.hid (show (xs.length : Int) = m by omega)
        go_wp2_with fail
        refine (pick_any R m (q + 1) _ (by omega) Hr3.out (by omega)).mono ?_
        rintro e w4 ⟨y, rfl, hy0, hy1, hr4, hg4⟩
        obtain ⟨y, rfl⟩ := Int.eq_ofNat_of_zero_le hy0
        have Hr4 := Lib.hid (hr4.alloc (.cells #[.int .i64 0, .int .i64 9, .int .i64 10, .int .i64 (-1)] 3)); clear hr4
        have Hg4 := Lib.hid ((grownBy_trans Hg3.out hg4))
        have Ho4 := Lib.hid (Ho3.out.kept hg4 (.inr (by simp [Value.ownBlock]; omega)))
        have hs4 := Hg4.out.size
        clear hg4
        go_wp2_with fail
        refine (pick_any R 4 (q + 1 + 1) _ (by omega) Hr4.out (by omega)).mono ?_
        rintro e w5 ⟨u, rfl, hu0, hu1, hr5, hg5⟩
        obtain ⟨u, rfl⟩ := Int.eq_ofNat_of_zero_le hu0
        obtain ⟨z, hz, hz1, hz2⟩ := lit4_at u (by omega)
        have hcell := lit_cell hg5 (by simp; omega) hz
        have Ho5 := Lib.hid ((Ho4.out.alloc _).kept hg5 (.inr (by simp [Value.ownBlock]; omega)))
        have Hg5 := Lib.hid (grownBy_trans (grownBy_trans Hg4.out (World.grownBy_alloc _ _ _)) hg5)
        have Hr5 := Lib.hid hr5; clear hr5
        have hu4 : u < 4 := by omega
        have hyx : y < xs.length := by omega
        have hs5 := Hg5.out.size
        obtain ⟨g', cap', hv', hgB', hgs', hcap', hcells', hfz'⟩ := Ho5.out.row (by omega)
        simp only [Value.slice.injEq, Option.some.injEq, Addr.mk.injEq, and_true, true_and] at hv'
        obtain ⟨rfl, rfl⟩ := hv'
        have hold := hcells' y hyx
        have hfr := hfz' y
        clear hg5 hz hu0 hu1 hy0 hy1 hcells' hfz' hgs'
        go_wp2
        go_ret
        have hst := Ho5.out.store rfl y z
        exact ⟨_, _, _, rfl, hst.1, by simp; omega, small_set hsm y hz1 hz2, Hr5.out.kept hst.2 (fun g' e => by simp at e; omega), by omega, grown_row Hg5.out hst.2 (fun g' e => by simp at e; omega)⟩
      have h1' : (x == 1) = false := by rw [beq_eq_false_iff_ne]; exact h1
      by_cases h2 : x = 2
      · subst h2
        go_wp2
        go_ret
        exact ⟨_, _, _, rfl, Ho3.out.front 0 (by omega), by simp, by intro z hz; simp at hz, Hr3.out, by omega, Hg3.out⟩
      have h2' : (x == 2) = false := by rw [beq_eq_false_iff_ne]; exact h2
      go_wp2
      go_ret
      exact ⟨_, _, _, rfl, Ho3.out, by omega, hsm, Hr3.out, by omega, Hg3.out⟩

theorem drawMembers (R p n : Nat) (w : World) (hp : p ≤ 1000000) (hn : n ≤ 1000) (hr : Rdr w R p) (hR : R < w.heap.size) :
    Calls Tryz.prog 63 #[.pointer (some ⟨R, 0, none⟩), .int .i64 n] w fun e w' => ∃ v xs p', e = .returned v ∧ Own 3 w' w.heap.size v xs ∧ xs.length ≤ n + 1 ∧ Rdr w' R p' ∧ p' ≤ p + n + 2 ∧ w.grownBy w' (some R) := by
  have Hr1 := Lib.hid (hr.alloc (.cells #[] 3)); clear hr
  go_enter Tryz.func63, Tryz.ntmps63
  go_wp2_with fail
  go_loopw [5, 6] (fun v i wr => ∃ xs k, k ≤ n ∧ xs.length ≤ k ∧ i = .int .i64 (k : Nat) ∧ Own 3 wr w.heap.size v xs ∧ Rdr wr R (p + k) ∧ w.grownBy wr (some R)) (fun _ i _ => n - (intOf i).toNat)
  case atStart => exact ⟨[], 0, by simp, by simp, rfl, own_empty _ _ (Nat.le_refl _), Hr1.out, World.grownBy_alloc _ _ _⟩
  case round =>
    obtain ⟨xs, k, hkn, hxk, rfl, hown, hrd, hgr⟩ := hrel
    have Hrd := Lib.hid hrd; clear hrd
    have Hown := Lib.hid hown; clear hown
    by_cases hlt : k < n
    · go_wp2_with fail
      refine (pick_any R 4 (p + k) _ (by omega) Hrd.out (by omega)).mono ?_
      rintro e w3 ⟨x, rfl, hx0, hx1, hr3, hg3⟩
      have Hr3 := Lib.hid hr3; clear hr3
      have Hg3 := Lib.hid (grownBy_trans hgr hg3)
      have Ho3 := Lib.hid (Hown.out.kept hg3 (.inr (fun e => by have := (Hown.out.lt R e).1; omega)))
      have hB := Hg3.out.size
      clear hg3
      by_cases hx : 0 < x
      · go_wp2_with (at_builtin; refine wpList_push TI' rfl (.tmp 16) (.tmp 18) rfl w.heap.size _ xs _ rfl Ho3.out (by omega) rfl hB ?_; intro v' w5 hown5 hg5)
        go_roundw
        case rel => exact ⟨_, k + 1, by omega, by simp; omega, by go_num, hown5, Hr3.out.kept hg5 (fun g e => by have := (Ho3.out.lt g e).1; omega), grown_row Hg3.out hg5 (fun g e => (Ho3.out.lt g e).1)⟩
        case measure => simp [intOf]; omega
      · go_wp2
        go_roundw
        case rel => exact ⟨xs, k + 1, by omega, by omega, by go_num, Ho3.out, Hr3.out, Hg3.out⟩
        case measure => simp [intOf]; omega
    · have hk : k = n := by omega
      have hkn' : (k : Int) = n := by omega
      go_wp2_with fail
      refine (pick_any R 16 (p + k) _ (by omega) Hrd.out (by omega)).mono ?_
      rintro e w3 ⟨x, rfl, hx0, hx1, hr3, hg3⟩
      have Hr3 := Lib.hid hr3; clear hr3
      have Hg3 := Lib.hid (grownBy_trans hgr hg3)
      have Ho3 := Lib.hid (Hown.out.kept hg3 (.inr (fun e => by have := (Hown.out.lt R e).1; omega)))
      have hB := Hg3.out.size
      clear hg3
      have Hk := Lib.hid hk; clear hk hkn'
      by_cases h0 : x = 0
      · subst h0
        go_wp2_with (at_builtin; refine wpList_push TI' rfl (.tmp 24) (.tmp 26) rfl w.heap.size _ xs _ rfl Ho3.out (by omega) rfl hB ?_; intro v' w5 hown5 hg5)
        go_ret
        exact ⟨_, _, _, rfl, hown5, by simp; omega, Hr3.out.kept hg5 (fun g e => by have := (Ho3.out.lt g e).1; omega), by omega, grown_row Hg3.out hg5 (fun g e => (Ho3.out.lt g e).1)⟩
      have h0' : (x == 0) = false := by rw [beq_eq_false_iff_ne]; exact h0
      by_cases h1 : x = 1
      · subst h1
        go_wp2_with fail
        refine (pick_any R 8 (p + k + 1) _ (by omega) Hr3.out (by omega)).mono ?_
        rintro e w4 ⟨y, rfl, hy0, hy1, hr4, hg4⟩
        have Hr4 := Lib.hid hr4; clear hr4
        have Hg4 := Lib.hid (grownBy_trans Hg3.out hg4)
        have Ho4 := Lib.hid (Ho3.out.kept hg4 (.inr (fun e => by have := (Ho3.out.lt R e).1; omega)))
        have hB4 := Hg4.out.size
        clear hg4
        go_wp2_with (at_builtin; refine wpList_push TI' rfl (.tmp 30) (.tmp 34) rfl w.heap.size _ xs _ rfl Ho4.out (by omega) rfl hB4 ?_; intro v' w5 hown5 hg5)
        go_ret
        exact ⟨_, _, _, rfl, hown5, by simp; omega, Hr4.out.kept hg5 (fun g e => by have := (Ho4.out.lt g e).1; omega), by omega, grown_row Hg4.out hg5 (fun g e => (Ho4.out.lt g e).1)⟩
      have h1' : (x == 1) = false := by rw [beq_eq_false_iff_ne]; exact h1
      go_wp2
      go_ret
      exact ⟨_, _, _, rfl, Ho3.out, by omega, Hr3.out, by omega, Hg3.out⟩

theorem below_of_row {w w' : World} {R B : Nat} (h : w.grownBy w' (some R)) (hR : B ≤ R) (hB : B ≤ w.heap.size) : Below B w w' :=
  ⟨h.os, h.tape, h.output, h.size, fun k hk => h.block k (by omega) (fun e => by injection e with e; omega)⟩

end Go.Proofs.YtjaacdapibokiabGreatDoor

/- The draws of digests, leaves and texts: what is drawn is short and lies in new memory; each by a walk of its text; condition: at most 2^40 picks. -/
namespace Go.Proofs.YtjaacdapibokiabGreatDoor
open Go.RowKit

/-- Numbers between -1 and 991. -/
def Digs (xs : List Int) : Prop := ∀ x ∈ xs, -1 ≤ x ∧ x ≤ 991
theorem digs_app {xs zs : List Int} (h : Digs xs) (k : Digs zs) : Digs (xs ++ zs) := fun x hx => by
  rcases List.mem_append.1 hx with hx | hx
  · exact h x hx
  · exact k x hx
theorem digs_one {z : Int} (h1 : -1 ≤ z) (h2 : z ≤ 991) : Digs [z] := fun x hx => by simp at hx; subst hx; exact ⟨h1, h2⟩
theorem digs_set {xs : List Int} (h : Digs xs) (j : Nat) {z : Int} (h1 : -1 ≤ z) (h2 : z ≤ 991) : Digs (xs.set j z) := fun x hx => by
  rcases List.mem_or_eq_of_mem_set hx with hx | rfl
  · exact h x hx
  · exact ⟨h1, h2⟩
theorem grown_row' {w a b : World} {R : Nat} {row : Option Nat} (h : w.grownBy a (some R)) (k : a.grownBy b row) (hr : ∀ g, row = some g → w.heap.size ≤ g) : w.grownBy b (some R) :=
  ⟨k.os.trans h.os, k.tape.trans h.tape, k.output.trans h.output, Nat.le_trans h.size k.size, fun i hi hne => (k.block i (Nat.lt_of_lt_of_le hi h.size) (fun e => by have := hr i e.symm; omega)).trans (h.block i hi hne)⟩
theorem below_of_row' {w w' : World} {R B : Nat} (h : w.grownBy w' (some R)) (hR : B ≤ R) (hB : B ≤ w.heap.size) : Below B w w' :=
  ⟨h.os, h.tape, h.output, h.size, fun k hk => h.block k (by omega) (fun e => by injection e with e; omega)⟩
theorem dig4_at (k : Nat) (hk : k < 4) : ∃ z : Int, (#[Value.int .i64 (-1), .int .i64 0, .int .i64 990, .int .i64 991] : Array Value)[k]? = some (.int .i64 z) ∧ -1 ≤ z ∧ z ≤ 991 := by
  match k, hk with
  | 0, _ => exact ⟨-1, rfl, by omega, by omega⟩
  | 1, _ => exact ⟨0, rfl, by omega, by omega⟩
  | 2, _ => exact ⟨990, rfl, by omega, by omega⟩
  | 3, _ => exact ⟨991, rfl, by omega, by omega⟩

theorem drawDigest (R p : Nat) (w : World) (hp : p ≤ 1000000) (hr : Rdr w R p) :
    Calls Tryz.prog 62 #[.pointer (some ⟨R, 0, none⟩)] w fun e w' => ∃ (d : Int) (p' : Nat), e = .returned (.int .i64 d) ∧ -1 ≤ d ∧ d ≤ 991 ∧ Rdr w' R p' ∧ p' ≤ p + 3 ∧ w.grownBy w' (some R) := by
  have Hr := Lib.hid hr; clear hr
  go_enter Tryz.func62, Tryz.ntmps62
  go_wp2_with fail
  refine (pick_any R 16 p _ (by omega) Hr.out (by omega)).mono ?_
  rintro e w1 ⟨x, rfl, hx0, hx1, hr1, hg1⟩
  have Hr1 := Lib.hid (hr1.alloc (.cells #[.int .i64 (-1), .int .i64 0, .int .i64 990, .int .i64 991] 3))
  have Hr1' := Lib.hid hr1; clear hr1
  have Hg1 := Lib.hid hg1; clear hg1
  have hRs := Hr1'.out.lt
  by_cases h0 : x = 0
  · subst h0
    go_wp2_with fail
    refine (pick_any R 4 (p + 1) _ (by omega) Hr1.out (by omega)).mono ?_
    rintro e w2 ⟨u, rfl, hu0, hu1, hr2, hg2⟩
    obtain ⟨u, rfl⟩ := Int.eq_ofNat_of_zero_le hu0
    obtain ⟨z, hz, hz1, hz2⟩ := dig4_at u (by omega)
    have hcell := lit_cell hg2 (by simp; omega) hz
    have Hg2 := Lib.hid (grownBy_trans (grownBy_trans Hg1.out (World.grownBy_alloc _ _ _)) hg2)
    have hu4 : u < 4 := by omega
    have Hr2 := Lib.hid hr2
    clear hg2 hz hu0 hu1 hr2
    go_wp2
    go_ret
    exact ⟨z, _, rfl, hz1, hz2, Hr2.out, by omega, Hg2.out⟩
  · have h0' : (x == 0) = false := by rw [beq_eq_false_iff_ne]; exact h0
    go_wp2_with fail
    refine (pick_any R 99 (p + 1) _ (by omega) Hr1'.out (by omega)).mono ?_
    rintro e w2 ⟨u, rfl, hu0, hu1, hr2, hg2⟩
    have Hr2 := Lib.hid hr2
    have Hg2 := Lib.hid (grownBy_trans Hg1.out hg2)
    clear hr2 hg2
    go_wp2_with fail
    refine (pick_any R 10 (p + 2) _ (by omega) Hr2.out (by omega)).mono ?_
    rintro e w3 ⟨y, rfl, hy0, hy1, hr3, hg3⟩
    have Hr3 := Lib.hid hr3
    have Hg3 := Lib.hid (grownBy_trans Hg2.out hg3)
    clear hr3 hg3
    go_wp2
    go_ret
    exact ⟨_, _, rfl, by omega, by omega, Hr3.out, by omega, Hg3.out⟩

end Go.Proofs.YtjaacdapibokiabGreatDoor

/- The draws of graphs: what is drawn is a graph in new memory, each by a walk of its text; condition: at most 10^5 picks before. -/
namespace Go.Proofs.YtjaacdapibokiabGreatDoor
open Go.RowKit

theorem own_litG (E : TypeId) (w : World) {B : Nat} (xs : List Int) (hB : B ≤ w.heap.size) (hm : xs.length ≤ maxLen) :
    Own E (w.alloc (.cells (xs.map (Value.int .i64)).toArray E)) B (.slice (some ⟨w.heap.size, 0, none⟩) xs.length xs.length) xs :=
  ⟨by simp, .inr ⟨w.heap.size, xs.length, _, rfl, hB, heap_alloc_new w _, Nat.le_refl _, hm, by simp, by simp [List.take_of_length_le]⟩⟩

theorem drawGoodV (R p : Nat) (w : World) (hp : p ≤ 1000000) (hr : Rdr w R p) (hR : R < w.heap.size) :
    Calls Tryz.prog 60 #[.pointer (some ⟨R, 0, none⟩)] w fun e w' => ∃ v xs p', e = .returned v ∧ Own 3 w' w.heap.size v xs ∧ validB xs = true ∧ Rdr w' R p' ∧ p' ≤ p + 20 ∧ w.grownBy w' (some R) := by
  go_enter Tryz.func60, Tryz.ntmps60
  go_wp2_with fail
  refine (drawCommittee R p _ hp hr hR).mono ?_
  rintro e w2 ⟨v, c, p', rfl, hown, hcl, hsm, hr2, hp', hg2⟩
  obtain ⟨a, cap, rfl, hi, _⟩ := hown.ints
  have hz := hg2.size
  have hv' := spec_CommitteeValid a cap c w2 (by omega) hi
  have Hr2 := Lib.hid hr2; clear hr2
  have Hg2 := Lib.hid hg2; clear hg2
  cases hv : validB c with
  | true =>
    rw [hv] at hv'
    have Hvv := Lib.hid hv
    have Hv := Lib.hid hv'; clear hv' hv hi
    have Hown := Lib.hid hown; clear hown
    go_wp2_with fail
    refine Hv.out.mono ?_
    rintro e w3 ⟨rfl, rfl⟩
    go_wp2
    go_ret
    exact ⟨_, c, p', rfl, Hown.out, Hvv.out, Hr2.out, hp', Hg2.out⟩
  | false =>
    rw [hv] at hv'
    have Hv := Lib.hid hv'; clear hv' hv hi hown
    go_wp2_with fail
    refine Hv.out.mono ?_
    rintro e w3 ⟨rfl, rfl⟩
    go_wp2
    go_ret
    exact ⟨_, [1, 1, 1, 1], p', rfl, own_litG 3 w2 [1, 1, 1, 1] hz (by unfold maxLen; simp), by decide, Hr2.out.alloc _, hp', grownBy_trans Hg2.out (World.grownBy_alloc _ _ _)⟩

/-- Valid vertices in order. -/
def GOk (c : List Int) (g : List Vx) : Prop := (∀ x ∈ g, vtxB c x = true) ∧ g.Pairwise fun a b => befB a b = true
theorem gOk_nil (c : List Int) : GOk c [] := ⟨by simp, .nil⟩
theorem gOk_push {c : List Int} {g : List Vx} {x : Vx} (h : GOk c g) (hx : vtxB c x = true) (hb : ∀ y ∈ g, y.r < x.r ∨ y.r = x.r ∧ y.a < x.a) : GOk c (g ++ [x]) := by
  refine ⟨fun y hy => ?_, List.pairwise_append.2 ⟨h.2, by simp, fun a ha b hb' => ?_⟩⟩
  · rcases List.mem_append.1 hy with hy | hy
    · exact h.1 y hy
    · simp at hy; subst hy; exact hx
  · simp at hb'; subst hb'
    exact decide_eq_true (hb a ha)
theorem gOk_auth {c : List Int} {g : List Vx} (h : GOk c g) (r : Int) : (authZ g r).Pairwise (· < ·) ∧ ∀ m ∈ authZ g r, 0 ≤ m ∧ m < c.length := by
  refine ⟨?_, fun m hm => ?_⟩
  · unfold authZ
    rw [List.pairwise_map]
    refine List.Pairwise.imp_of_mem (R := fun a b => befB a b = true) (fun {a b} ha hb hab => ?_) (h.2.filter _)
    have ha := of_decide_eq_true (List.mem_filter.1 ha).2
    have hb := of_decide_eq_true (List.mem_filter.1 hb).2
    have := of_decide_eq_true hab
    omega
  · unfold authZ at hm
    obtain ⟨x, hx, rfl⟩ := List.mem_map.1 hm
    exact vtx_author (h.1 x (List.mem_filter.1 hx).1)
theorem members_sub {n : Nat} {H ps : List Int} (h : H.Pairwise (· < ·) ∧ ∀ m ∈ H, 0 ≤ m ∧ m < n) (hs : ps.Sublist H) : membersB n ps = true :=
  members_pairwise (h.1.sublist hs) fun m hm => h.2 m (hs.subset hm)

theorem OwnR.apartI {E E' Ei : TypeId} {sz : Nat} {w : World} {B B' hi : Nat} {v u : Value} {es : List (List Fd)} {xs : List Int} (h : OwnR E Ei sz w B hi v es) (h' : Own E' w B' u xs) (hE : E ≠ E') : u.ownBlock = none ∨ u.ownBlock ≠ v.ownBlock := by
  obtain ⟨cs, h1, _⟩ := h.row
  rcases h'.2 with ⟨rfl, _⟩ | ⟨g, cap, cur, rfl, _, hg, _⟩
  · exact .inl rfl
  · rcases h1.2 with ⟨rfl, _⟩ | ⟨g', cap', cur', rfl, _, hg', _⟩
    · exact .inr (fun e => by cases e)
    · refine .inr fun e => hE ?_
      have e' : g = g' := by cases e; rfl
      subst e'
      rw [hg] at hg'
      cases hg'
      rfl

set_option maxRecDepth 8000 in
set_option maxHeartbeats 4000000 in
theorem drawGraph (R p : Nat) (rounds : Int) (w : World) (ac : Option Addr) (capc : Nat) (c : List Int) (hp : p ≤ 100000) (hn0 : 0 ≤ rounds) (hn1 : rounds ≤ 40) (hv : validB c = true) (hr : Rdr w R p) (hR : R < w.heap.size) (hc : ∀ W, w.grownBy W (some R) → IntsAt W ac c) :
    Calls Tryz.prog 61 #[.pointer (some ⟨R, 0, none⟩), .slice ac c.length capc, .int .i64 rounds] w fun e w' => ∃ v g p', e = .returned v ∧ OwnR 64 3 4 w' w.heap.size w'.heap.size v (g.map Vx.fd) ∧ GOk c g ∧ g.length ≤ 280 ∧ Rdr w' R p' ∧ p' ≤ p + 80000 ∧ w.grownBy w' (some R) := by
  obtain ⟨hc1, hc7⟩ := validB_len hv
  have Hr0 := Lib.hid (hr.alloc (.cells #[] 64)); clear hr
  have Hg0 := Lib.hid (World.grownBy_alloc w (.cells #[] 64) (some R))
  have hv0 : OwnR 64 3 4 (w.alloc (.cells #[] 64)) w.heap.size (w.alloc (.cells #[] 64)).heap.size (.slice (some ⟨w.heap.size, 0, none⟩) 0 0) [] := .nil (World.ownsRow_made w #[] 0 (Nat.le_refl _) (by simp) (by simp)) (fun g e => by cases e; simp)
  have Hv0 := Lib.hid hv0; clear hv0
  have Hc := Lib.hid hc; clear hc
  obtain ⟨rounds, rfl⟩ := Int.eq_ofNat_of_zero_le hn0
  have HWt := Lib.hid (fun ps am cap W (hm : membersB c.length ps = true) (hl : ps.length ≤ 1099511627776) h h' => spec_l1Weight ac capc c am cap ps W hv hm hl h h')
  have HQt := Lib.hid (fun W h => spec_l1Quorum ac capc c W hv h)
  have HVx := Lib.hid (fun r a d pa pc ps W (hl : ps.length ≤ 1099511627776) h h' => spec_l11Vertex ac capc c r a d pa pc ps W hv hl h h')
  go_enter Tryz.func61, Tryz.ntmps61
  go_wp2_with fail
  go_loopw [7, 8] (fun v i wr => ∃ (n : Nat) (g : List Vx) (q : Nat), n ≤ rounds ∧ i = .int .i64 n ∧ OwnR 64 3 4 wr w.heap.size wr.heap.size v (g.map Vx.fd) ∧ GOk c g ∧ (∀ x ∈ g, x.r < n) ∧ g.length ≤ 7 * n ∧ Rdr wr R q ∧ q ≤ p + 2000 * n ∧ w.grownBy wr (some R)) (fun _ i _ => rounds - (intOf i).toNat)
  case atStart => exact ⟨0, [], p, Nat.zero_le _, rfl, Hv0.out, gOk_nil c, by simp, by simp, Hr0.out, by omega, Hg0.out⟩
  case round =>
    obtain ⟨n, g0, q0, hn, rfl, hown, hok, hlt0, hgl, hrd, hq, hgr⟩ := hrel
    have Hown := Lib.hid hown; clear hown
    have Hrd := Lib.hid hrd; clear hrd
    have Hgr := Lib.hid hgr; clear hgr
    have Hok := Lib.hid hok; clear hok
    have Hlt0 := Lib.hid hlt0; clear hlt0
    by_cases hlt : n < rounds
    case neg =>
      have hn40 : n ≤ 40 := by omega
      go_wp2
      go_ret
      exact ⟨_, g0, q0, rfl, Hown.out, Hok.out, by omega, Hrd.out, by omega, Hgr.out⟩
    case pos =>
    obtain ⟨fo, hro⟩ := Hown.out.reads
    have hwn : IntKind.i64.wrap ((n : Int) - 1) = n - 1 := IntWalk.i64_in _ (by omega)
    have Hau := Lib.hid (spec_l11Authors g0 _ fo ((n : Int) - 1) wr (by omega) hro); clear hro
    have Hasc := Lib.hid (gOk_auth Hok.out ((n : Int) - 1))
    have hHl := authZ_len g0 ((n : Int) - 1)
    generalize authZ g0 ((n : Int) - 1) = H at *
    go_wp2_with fail
    refine Hau.out.mono ?_
    rintro e w2 ⟨uh, rfl, hoh, hb2⟩
    have hs2 := hb2.size
    have Hown2 := Lib.hid (Hown.out.below hb2 (Nat.le_refl _))
    have Hrd2 := Lib.hid (Hrd.out.kept (below_grown hb2) (fun g e => by cases e))
    have Hgr2 := Lib.hid (grown_row Hgr.out (below_grown hb2) (fun g e => by cases e))
    have hRw := Hgr.out.size
    have Hoh := Lib.hid (hoh.mono hRw)
    obtain ⟨ah, ch, rfl, hih, hsh, _⟩ := hoh.src
    clear hb2 hoh hih hsh
    go_wp2
    go_loopw [7, 10] (fun v i wr => ∃ (a : Nat) (g : List Vx) (q : Nat), a ≤ c.length ∧ i = .int .i64 a ∧ OwnR 64 3 4 wr w.heap.size wr.heap.size v (g.map Vx.fd) ∧ GOk c g ∧ (∀ x ∈ g, x.r < n ∨ x.r = n ∧ x.a < a) ∧ g.length ≤ 7 * n + a ∧ Rdr wr R q ∧ q ≤ p + 2000 * n + 283 * a ∧ w.grownBy wr (some R) ∧ Own 3 wr w.heap.size (.slice ah H.length ch) H ∧ w2.heap.size ≤ wr.heap.size) (fun _ i _ => c.length - (intOf i).toNat)
    case atStart => exact ⟨0, g0, q0, Nat.zero_le _, rfl, Hown2.out.mono hs2, Hok.out, fun x hx => .inl (Hlt0.out x hx), by omega, Hrd2.out, by omega, Hgr2.out, Hoh.out, Nat.le_refl _⟩
    case round =>
      obtain ⟨a, g, q, ha, rfl, hown, hok, hord, hgl, hrd, hq, hgr, hoh, hsz⟩ := hrel
      have Hown := Lib.hid hown; clear hown
      have Hrd := Lib.hid hrd; clear hrd
      have Hgr := Lib.hid hgr; clear hgr
      have Hok := Lib.hid hok; clear hok
      have Hord := Lib.hid hord; clear hord
      have Hoh := Lib.hid hoh; clear hoh
      by_cases hal : a < c.length
      case neg =>
        have hac : a = c.length := by omega
        subst hac
        go_wp2
        go_roundw
        case rel => exact ⟨n + 1, g, q, by omega, by go_num, Hown.out, Hok.out, fun x hx => by have := Hord.out x hx; omega, by omega, Hrd.out, by omega, Hgr.out⟩
        case measure => simp [intOf]; omega
      case pos =>
      go_wp2_with fail
      refine (pick_any R 6 q _ (by omega) Hrd.out (by omega)).mono ?_
      rintro e w3 ⟨z, rfl, hz0, hz1, hr3, hg3⟩
      have hs3 := hg3.size
      have Hrd3 := Lib.hid hr3; clear hr3
      have Hgr3 := Lib.hid (grownBy_trans Hgr.out hg3)
      have Hown3 := Lib.hid ((Hown.out.same fun b h1 h2 => hg3.block b (by omega) (fun e => by cases e; omega)).mono hs3)
      have Hoh3 := Lib.hid (Hoh.out.kept hg3 (.inr fun e => by have := (Hoh.out.lt R e).1; omega))
      clear hg3
      by_cases hz : z = 0
      · subst hz
        go_wp2
        go_roundw
        case rel => exact ⟨a + 1, g, q + 1, by omega, by go_num, Hown3.out, Hok.out, fun x hx => by have := Hord.out x hx; omega, by omega, Hrd3.out, by omega, Hgr3.out, Hoh3.out, by omega⟩
        case measure => simp [intOf]; omega
      have hz' : (z == 0) = false := by simpa using hz
      clear hz hz0 hz1 Hrd Hgr Hown Hoh
      have hwa : IntKind.i64.wrap (31 * (n : Int)) = 31 * n := IntWalk.i64_in _ (by omega)
      have hwb : IntKind.i64.wrap (7 * (a : Int)) = 7 * a := IntWalk.i64_in _ (by omega)
      have hwc : IntKind.i64.wrap (31 * (n : Int) + 7 * (a : Int)) = 31 * n + 7 * a := IntWalk.i64_in _ (by omega)
      go_wp2_with fail
      refine (pick_any R 90 (q + 1) _ (by omega) (Hrd3.out.alloc _) (by omega)).mono ?_
      rintro e w5 ⟨y, rfl, hy0, hy1, hr5, hg5⟩
      have ho5 := (own_empty 3 w3 (Nat.le_refl _)).kept hg5 (.inr fun e => by have := Hrd3.out.lt; simp [Value.ownBlock] at e; omega)
      have hg5' := grownBy_trans (World.grownBy_alloc w3 (.cells #[] 3) (some R)) hg5
      have hs5 : w3.heap.size + 1 ≤ w5.heap.size := by have := hg5.size; simpa using this
      have Hrd5 := Lib.hid hr5; clear hr5
      have Ho5 := Lib.hid ho5; clear ho5
      have Hg5 := Lib.hid hg5'; clear hg5' hg5
      have hwd : IntKind.i64.wrap (31 * (n : Int) + 7 * (a : Int) + y) = 31 * n + 7 * a + y := IntWalk.i64_in _ (by omega)
      obtain ⟨D, hD⟩ : ∃ D, (31 * (n : Int) + 7 * (a : Int) + y).tmod 991 = D := ⟨_, rfl⟩
      have hDb : -9223372036854775808 ≤ D ∧ D ≤ 9223372036854775807 := by
        rw [← hD, Int.tmod_eq_emod_of_nonneg (by omega)]; omega
      have hs0 := Str.new w5 64 #[.int .i64 n, .int .i64 a, .slice (some ⟨w3.heap.size, 0, none⟩) 0 0, .int .i64 D]
      have hgA := grownBy_trans Hg5.out (World.grownBy_alloc w5 (.cells #[.int .i64 n, .int .i64 a, .slice (some ⟨w3.heap.size, 0, none⟩) 0 0, .int .i64 D] 64) (some R))
      have hoA := Ho5.out.alloc (.cells #[.int .i64 n, .int .i64 a, .slice (some ⟨w3.heap.size, 0, none⟩) 0 0, .int .i64 D] 64)
      have hrA := Hrd5.out.alloc (.cells #[.int .i64 n, .int .i64 a, .slice (some ⟨w3.heap.size, 0, none⟩) 0 0, .int .i64 D] 64)
      have HsA := Lib.hid hs0; clear hs0
      have HgA := Lib.hid hgA; clear hgA
      have HoA := Lib.hid hoA; clear hoA
      have HrA := Lib.hid hrA; clear hrA Hrd5 Ho5 Hg5
      have hw3 := Hgr3.out.size
      go_wp2
      clear hwa hwb hwc hwd hD
      generalize w5.alloc (.cells #[.int .i64 n, .int .i64 a, .slice (some ⟨w3.heap.size, 0, none⟩) 0 0, .int .i64 D] 64) = w6 at *
      generalize w5.heap.size = Bv at *
      go_loopw [12] (fun i wr => ∃ (k : Nat) (ps : List Int) (vp : Value) (q2 : Nat), k ≤ H.length ∧ i = .int .i64 k ∧ ps.Sublist (H.take k) ∧ Str wr Bv 64 #[.int .i64 n, .int .i64 a, vp, .int .i64 D] ∧ Own 3 wr w3.heap.size vp ps ∧ vp.ownBlock ≠ some Bv ∧ Rdr wr R q2 ∧ q2 ≤ q + 2 + k ∧ w3.grownBy wr (some R)) (fun i _ => H.length - (intOf i).toNat)
      case atStart => exact ⟨0, [], _, q + 1 + 1, Nat.zero_le _, rfl, by simp, HsA.out, HoA.out, by simp [Value.ownBlock]; omega, HrA.out, by omega, HgA.out⟩
      case round =>
        obtain ⟨k, ps, vp, q2, hk, rfl, hsub, hst, hop, hne, hrd, hq2, hg3r⟩ := hrel
        have Hst := Lib.hid hst; clear hst
        have Hop := Lib.hid hop; clear hop
        have Hrd := Lib.hid hrd; clear hrd
        have Hg3r := Lib.hid hg3r; clear hg3r
        have Hsub := Lib.hid hsub; clear hsub
        have Hne := Lib.hid hne; clear hne
        have hBw := Hst.out.lt
        have Hohr := Lib.hid (Hoh3.out.kept Hg3r.out (.inr fun e => by have := (Hoh3.out.lt R e).1; omega))
        by_cases hlt2 : k < H.length
        · obtain ⟨bh, ch', e, hbB, hbs, _, hcells, _⟩ := Hohr.out.row (by omega)
          simp only [Value.slice.injEq, true_and] at e
          obtain ⟨rfl, rfl⟩ := e
          have hch := hcells k hlt2
          have hb3 : bh < w3.heap.size := by
            exact (Hoh3.out.lt bh rfl).2
          clear hcells
          by_cases hn0 : n = 0
          · exfalso; omega
          have hnn : decide ((0 : Int) < (n : Int)) = true := decide_eq_true (by omega)
          have hnn' : (0 : Int) < (n : Int) := by omega
          clear hn0
          go_wp2_with fail
          refine (pick_any R 8 q2 _ (by omega) Hrd.out (by omega)).mono ?_
          rintro e w7 ⟨u, rfl, hu0, hu1, hr7, hg7⟩
          have hs7 := hg7.size
          have Hrd7 := Lib.hid hr7; clear hr7
          have Hst7 := Lib.hid (Hst.out.kept hg7 (by simp; omega))
          have Hop7 := Lib.hid (Hop.out.kept hg7 (.inr fun e => by have := (Hop.out.lt R e).1; have := Hgr3.out.size; omega))
          have Hg37 := Lib.hid (grownBy_trans Hg3r.out hg7)
          have hch7 : w7.cell? ⟨bh, k, none⟩ = some (.int .i64 H[k]) := hg7.cell hch (by simp; omega)
          clear hg7 hch
          by_cases hu : 0 < u
          · have hud : decide ((0 : Int) < u) = true := decide_eq_true hu
            have Hsub' := Lib.hid (show (ps ++ [H[k]]).Sublist (H.take (k + 1)) by
              rw [List.take_succ_eq_append_getElem hlt2]
              exact Hsub.out.append (List.Sublist.refl _))
            generalize H[k] = x at *
            have h2 : w7.drew.cell? ⟨Bv, 2, none⟩ = some vp := Hst7.out.cell 2 (v := vp) rfl
            have h3 : w7.drew.cell? ⟨bh, k, none⟩ = some (.int .i64 x) := hch7
            go_wp2_with fail
            refine wp_region_L 9 (fun w' => w'.cell? ⟨Bv, 2, none⟩ = some vp ∧ w'.cell? ⟨bh, k, none⟩ = some (.int .i64 x)) (by kernel_rfl) ⟨h2, h3⟩ (fun hH => ?_)
            refine takeL 0 (v := ?v0) rfl (by kernel_rfl) (by kernel_rfl) (by kernel_rfl) (by kernel_rfl) (by kernel_rfl) (fun _ _ _ h => h) hH rfl ?y0 ?r0
            case y0 => intro W hSw; go_simp; try with_reducible rfl
            try simp only [Act.put, List.setIfInBounds_toArray, List.set_cons_zero, List.set_cons_succ]
            refine takeL 1 (v := ?v1) rfl (by kernel_rfl) (by kernel_rfl) (by kernel_rfl) (by kernel_rfl) (by kernel_rfl) (fun _ _ _ h => h) hH rfl ?y1 ?r1
            case y1 => intro W hSw; go_simp; try with_reducible rfl
            try simp only [Act.put, List.setIfInBounds_toArray, List.set_cons_zero, List.set_cons_succ]
            refine takeL 2 (v := ?v2) rfl (by kernel_rfl) (by kernel_rfl) (by kernel_rfl) (by kernel_rfl) (by kernel_rfl) (fun _ _ _ h => h) hH rfl ?y2 ?r2
            case y2 => intro W hSw; go_simp; try with_reducible rfl
            try simp only [Act.put, List.setIfInBounds_toArray, List.set_cons_zero, List.set_cons_succ]
            refine takeL 3 (v := ?v3) rfl (by kernel_rfl) (by kernel_rfl) (by kernel_rfl) (by kernel_rfl) (by kernel_rfl) (fun _ _ _ h => h) hH rfl ?y3 ?r3
            case y3 => intro W hSw; go_simp; try with_reducible rfl
            try simp only [Act.put, List.setIfInBounds_toArray, List.set_cons_zero, List.set_cons_succ]
            refine takeL 4 (v := ?v4) rfl (by kernel_rfl) (by kernel_rfl) (by kernel_rfl) (by kernel_rfl) (by kernel_rfl) (fun _ _ _ h => h) hH rfl ?y4 ?r4
            case y4 => intro W hSw; go_simp; try with_reducible rfl
            try simp only [Act.put, List.setIfInBounds_toArray, List.set_cons_zero, List.set_cons_succ]
            refine takeL 5 (v := ?v5) rfl (by kernel_rfl) (by kernel_rfl) (by kernel_rfl) (by kernel_rfl) (by kernel_rfl) (fun _ _ _ h => h) hH rfl ?y5 ?r5
            case y5 => intro W hSw; go_simp; try with_reducible rfl
            try simp only [Act.put, List.setIfInBounds_toArray, List.set_cons_zero, List.set_cons_succ]
            refine callL 6 rfl (by kernel_rfl) rfl (fun K hK => ?_)
            go_simp
            refine hK.out _ _ ⟨(World.grownBy_alloc w7.drew _ none).cell h2 (by simp), (World.grownBy_alloc w7.drew _ none).cell h3 (by simp)⟩ (fun hH => ?_)
            clear hK K
            try simp only [Act.put, List.setIfInBounds_toArray, List.set_cons_zero, List.set_cons_succ]
            have hown7 : Own 3 w7.drew w3.heap.size vp ps := Hop7.out
            have hst7 : Str w7.drew Bv 64 #[.int .i64 n, .int .i64 a, vp, .int .i64 D] := Hst7.out
            have hpl : ps.length ≤ 1099511627776 := by have := Hsub.out.length_le; rw [List.length_take] at this; omega
            have hB7 : w3.heap.size ≤ w7.drew.heap.size := Hg37.out.size
            have hg37 : w3.grownBy w7.drew (some R) := grownBy_drewN Hg37.out 1
            have hrd7 : Rdr w7.drew R (q2 + 1) := Hrd7.out.drewN 1
            refine callL 7 rfl (by kernel_rfl) rfl (fun K hK => ?_)
            refine op_push_at TIg w7.drew (.tmp 59) (.tmp 64) rfl w3.heap.size vp ps x rfl hown7 hpl rfl hB7 ?_
            intro v9 w9 hown9 hg9 hat9
            obtain ⟨g9, c9, rfl⟩ := own_succ hown9
            have s9 := hst7.kept hg9 (fun e => Hne.out e.symm)
            have h9 := s9.cell 2 (v := vp) rfl
            have f9 := s9.frozen 2
            have h39 : w9.cell? ⟨bh, k, none⟩ = some (.int .i64 x) := hg9.cell h3 (by intro e; have h' : w3.heap.size ≤ bh := (hown7.lt _ e.symm).1; omega)
            refine hK.out _ _ ⟨h9, h39⟩ (fun hH => ?_)
            clear hK K
            try simp only [Act.put, List.setIfInBounds_toArray, List.set_cons_zero, List.set_cons_succ]
            refine takeL 8 (v := ?v8) rfl (by kernel_rfl) (by kernel_rfl) (by kernel_rfl) (by kernel_rfl) (by kernel_rfl) (fun _ _ _ h => h) hH rfl ?y8 ?r8
            case y8 => intro W hSw; go_simp; try with_reducible rfl
            try simp only [Act.put, List.setIfInBounds_toArray, List.set_cons_zero, List.set_cons_succ]
            refine lastL rfl (by kernel_rfl) (by kernel_rfl) (by kernel_rfl) rfl (fun K hK => ?_)
            go_simp
            refine hK.out _ _ ?_
            clear hK K
            try simp only [Act.put, List.setIfInBounds_toArray, List.set_cons_zero, List.set_cons_succ]
            have hBs : Bv < w7.drew.heap.size := hst7.lt
            have hne9 : (Value.slice (some ⟨g9, 0, none⟩) (ps.length + 1) c9).ownBlock ≠ some Bv := by
              rcases hat9 with h | ⟨g', h, h'⟩
              · rw [h]; exact Hne.out
              · rw [h]; simp; omega
            have hRB : R < Bv := by omega
            go_wp2
            go_roundw
            case rel => exact ⟨k + 1, ps ++ [x], _, q2 + 1, by omega, by go_num, Hsub'.out, (by have := s9.set 2 (.slice (some ⟨g9, 0, none⟩) (ps.length + 1) c9); simpa using this), hown9.set_other hne9 2 _, hne9, (hrd7.kept hg9 (fun g e => by have := (hown7.lt g e).1; omega)).kept (grownBy_set w9 Bv 2 _) (fun g e => by cases e; exact hRB), by omega, grown_row (grown_row hg37 hg9 (fun g e => (hown7.lt g e).1)) (grownBy_set w9 Bv 2 _) (fun g e => by cases e; omega)⟩
            case measure => simp [intOf]; omega
          · have hud : decide ((0 : Int) < u) = false := decide_eq_false hu
            clear hu0 hu1
            go_wp2
            go_roundw
            case rel => exact ⟨k + 1, ps, vp, q2 + 1, by omega, by go_num, Hsub.out.trans (List.take_sublist_take_left (by omega)), Hst7.out, Hop7.out, Hne.out, Hrd7.out, by omega, Hg37.out⟩
            case measure => simp [intOf]; omega
        · have hke : k = H.length := by omega
          subst hke
          rw [List.take_length] at Hsub
          have hpl : ps.length ≤ 1099511627776 := by have := Hsub.out.length_le; omega
          obtain ⟨ap, cp, rfl, hip, _⟩ := Hop.out.ints
          clear hip
          by_cases hn0 : n = 0
          · have hnn : decide ((0 : Int) < (n : Int)) = false := decide_eq_false (by omega)
            have hnn' : ¬ (0 : Int) < (n : Int) := by omega
            clear hn0
            have hgW := grownBy_trans Hgr3.out Hg3r.out
            have hcW := Hc.out _ hgW
            have HgW := Lib.hid hgW; clear hgW
            have st := Hst.out
            have c0 := st.cell 0 (v := .int .i64 n) rfl
            have c1 := st.cell 1 (v := .int .i64 a) rfl
            have c2 := st.cell 2 (v := .slice ap ps.length cp) rfl
            have c3 := st.cell 3 (v := .int .i64 D) rfl
            have Hcall := Lib.hid (HVx.out n a D ap cp ps _ hpl hcW Hop.out.at)
            clear st hcW
            cases hvx : vtxB c ⟨n, a, ps, D⟩ with
            | false =>
              rw [hvx] at Hcall
              clear Hst Hop Hne
              go_wp2_with fail
              refine Hcall.out.mono ?_
              rintro e w8 ⟨rfl, hb8⟩
              have Hg38 := Lib.hid (grown_row (w := w3) Hg3r.out (below_grown hb8) (fun g e => by cases e))
              have Hown8 := Lib.hid (Hown3.out.same fun b h1 h2 => Hg38.out.block b h2 (fun e => by cases e; omega))
              have Hoh8 := Lib.hid (Hoh3.out.kept Hg38.out (.inr fun e => by have := (Hoh3.out.lt R e).1; omega))
              have Hrd8 := Lib.hid (Hrd.out.kept (below_grown hb8) (fun g e => by cases e))
              have hs8 := Hg38.out.size
              have HgW8 := Lib.hid (grownBy_trans Hgr3.out Hg38.out)
              clear hb8 c0 c1 c2 c3
              go_wp2
              go_roundw
              case rel => exact ⟨a + 1, g, q2, by omega, by go_num, Hown8.out.mono hs8, Hok.out, fun x hx => by have := Hord.out x hx; omega, by omega, Hrd8.out, by omega, HgW8.out, Hoh8.out, by omega⟩
              case measure => simp [intOf]; omega
            | true =>
              rw [hvx] at Hcall
              have Hok' := Lib.hid (gOk_push Hok.out hvx Hord.out)
              clear hvx
              go_wp2_with fail
              refine Hcall.out.mono ?_
              rintro e w8 ⟨rfl, hb8⟩
              have Hg38 := Lib.hid (grown_row (w := w3) Hg3r.out (below_grown hb8) (fun g e => by cases e))
              have Hown8 := Lib.hid (Hown3.out.same fun b h1 h2 => Hg38.out.block b h2 (fun e => by cases e; omega))
              have Hoh8 := Lib.hid (Hoh3.out.kept Hg38.out (.inr fun e => by have := (Hoh3.out.lt R e).1; omega))
              have Hrd8 := Lib.hid (Hrd.out.kept (below_grown hb8) (fun g e => by cases e))
              have hs8 := Hg38.out.size
              have HgW8 := Lib.hid (grownBy_trans Hgr3.out Hg38.out)
              have st := (hb8.block _ Hst.out.lt).trans Hst.out
              have hop8 := Hop.out.below hb8
              have c0 := Str.cell st 0 (v := .int .i64 n) rfl
              have c1 := Str.cell st 1 (v := .int .i64 a) rfl
              have c2 := Str.cell st 2 (v := .slice ap ps.length cp) rfl
              have c3 := Str.cell st 3 (v := .int .i64 D) rfl
              obtain ⟨hfd, hap, hnew⟩ := vertex_new (B := w.heap.size) n a D hop8 hw3
              have Hfd := Lib.hid hfd; clear hfd
              have Hap := Lib.hid hap; clear hap
              have Hnew := Lib.hid hnew; clear hnew hop8 st hb8
              have hel : (g.map Vx.fd).length ≤ 1048576 := by rw [List.length_map]; omega
              have Hex := Lib.hid (show (g ++ [(⟨n, a, ps, D⟩ : Vx)]).map Vx.fd = g.map Vx.fd ++ [[.i n, .i a, .l ps, .i D]] by rw [List.map_append]; rfl)
              have hB8 : w.heap.size ≤ w8.heap.size := by omega
              generalize g.map Vx.fd = es at *
              go_wp2_with (at_builtin; refine wpList_push_own (Ei := 3) Tryz.underlying24 vertex_inf rfl (by decide) (by decide) rfl (.tmp 85) (.tmp 87) rfl w.heap.size _ es _ _ _ rfl rfl (by intro u hu; simp at hu; rcases hu with rfl | rfl | rfl | rfl <;> rfl) rfl rfl Hfd.out Hap.out w3.heap.size Hown8.out hs8 Hnew.out hel rfl hB8 ?_; intro v9 w9 hown9 hg9 hat9)
              go_roundw
              case rel => exact ⟨a + 1, g ++ [⟨n, a, ps, D⟩], q2, by omega, by go_num, by rw [Hex.out]; exact hown9, Hok'.out, fun x hx => by
                rcases List.mem_append.1 hx with hx | hx
                · have := Hord.out x hx; omega
                · simp at hx; subst hx; exact .inr ⟨rfl, (show (a : Int) < ((a + 1 : Nat) : Int) by omega)⟩, by have := hgl; rw [List.length_append]; simp only [List.length_singleton]; omega, Hrd8.out.kept hg9 (fun g e => by have := (Hown8.out.lt g e).1; omega), by omega, grown_row HgW8.out hg9 (fun g e => (Hown8.out.lt g e).1), Hoh8.out.kept hg9 (Hown8.out.apartI Hoh8.out (by decide)), by have := hg9.size; omega⟩
              case measure => simp [intOf]; omega
          have hnn : decide ((0 : Int) < (n : Int)) = true := decide_eq_true (by omega)
          have hnn' : (0 : Int) < (n : Int) := by omega
          clear hn0
          have hmb := members_sub Hasc.out Hsub.out
          have hcW0 := Hc.out _ (grownBy_trans Hgr3.out Hg3r.out)
          have k2 := Hst.out.cell 2 (v := .slice ap ps.length cp) rfl
          have HW1 := Lib.hid (HWt.out ps ap cp wr hmb hpl hcW0 Hop.out.at)
          have HQ1 := Lib.hid (HQt.out wr hcW0)
          clear hcW0 hmb
          go_wp2_with fail
          refine HW1.out.mono ?_
          rintro e w7 ⟨rfl, rfl⟩
          go_wp2_with fail
          refine HQ1.out.mono ?_
          rintro e w7 ⟨rfl, rfl⟩
          by_cases hlow : weightZ c ps < 2 * totalZ c / 3 + 1
          · have hld : decide (weightZ c ps < 2 * totalZ c / 3 + 1) = true := decide_eq_true hlow
            have hoE := own_empty 3 wr (Nat.le_refl wr.heap.size)
            have hsrc : SrcAt (wr.alloc (.cells #[] 3)) ah ch H := by
              obtain ⟨_, _, e, _, hs, _⟩ := (Hohr.out.alloc (.cells #[] 3)).src
              cases e
              exact hs
            have stE := Hst.out.alloc (.cells #[] 3)
            have hzE : (wr.alloc (.cells #[] 3)).heap.size = wr.heap.size + 1 := by simp
            have rdE := Hrd.out.alloc (.cells #[] 3)
            have hgE := grownBy_trans Hg3r.out (World.grownBy_alloc wr (.cells #[] 3) (some R))
            have hsr := Hg3r.out.size
            have hHl2 : H.length ≤ 1099511627776 := by omega
            have hRB : R < Bv := by omega
            have HoE := Lib.hid hoE; clear hoE
            have Hsrc := Lib.hid hsrc; clear hsrc
            have HstE := Lib.hid stE; clear stE
            have HrdE := Lib.hid rdE; clear rdE
            have HgE := Lib.hid hgE; clear hgE
            clear k2 hlow Hop Hst Hrd HW1 HQ1
            go_wp2_with (at_builtin; refine wpList_appI TIg rfl (.tmp 78) (.tmp 79) rfl wr.heap.size (.slice (some ⟨wr.heap.size, 0, none⟩) 0 0) [] H _ _ rfl HoE.out rfl Hsrc.out (by simp; omega) (by rw [hzE]; omega) ?_; intro v7 w7 hown7 hg7; (rw [List.nil_append] at hown7); (generalize wr.alloc (.cells #[] 3) = w71 at *); (have st7 := HstE.out.kept hg7 (by simp [Value.ownBlock]; omega)); (have Hrd7 := Lib.hid (HrdE.out.kept hg7 (fun g e => by have := (HoE.out.lt g e).1; omega))); (have Hg7 := Lib.hid (grown_row HgE.out hg7 (fun g e => by have := (HoE.out.lt g e).1; omega))); (have Hown7 := Lib.hid hown7); (obtain ⟨a7, c7, rfl, _, _⟩ := Hown7.out.ints); (have k2 := st7.cell 2 (v := .slice ap ps.length cp) rfl); (have f2 := st7.frozen 2); (have u := st7.set 2 (.slice a7 H.length c7)); (have e0 := u.cell 0 (v := .int .i64 n) rfl); (have e1 := u.cell 1 (v := .int .i64 a) rfl); (have e2 := u.cell 2 (v := .slice a7 H.length c7) rfl); (have e3 := u.cell 3 (v := .int .i64 D) rfl); (have Hu := Lib.hid u); (clear u st7 hown7 hg7))
            have hne7 : (Value.slice a7 H.length c7).ownBlock ≠ some Bv := fun e => by have := (Hown7.out.lt _ e).1; omega
            have Hrd := Lib.hid (Hrd7.out.kept (grownBy_set w7 Bv 2 (.slice a7 H.length c7)) (fun g e => by cases e; exact hRB))
            have Hg3r := Lib.hid (grown_row Hg7.out (grownBy_set w7 Bv 2 (.slice a7 H.length c7)) (fun g e => by cases e; omega))
            have Hop := Lib.hid ((Hown7.out.mono (show w3.heap.size ≤ wr.heap.size from hsr)).set_other hne7 2 (.slice a7 H.length c7))
            have Hst : Hid (Str (w7.setCell ⟨Bv, 2, none⟩ (.slice a7 H.length c7)) Bv 64 #[.int .i64 n, .int .i64 a, .slice a7 H.length c7, .int .i64 D]) := Lib.hid (by simpa using Hu.out)
            clear k2 f2 Hu Hown7 Hrd7 Hg7 hne7
            generalize w7.setCell ⟨Bv, 2, none⟩ (.slice a7 H.length c7) = wz at *
            have hBz := Hst.out.lt
            have hgW := grownBy_trans Hgr3.out Hg3r.out
            have hcW := Hc.out _ hgW
            have HgW := Lib.hid hgW; clear hgW
            have st := Hst.out
            clear e0 e1 e2 e3
            have c0 := st.cell 0 (v := .int .i64 n) rfl
            have c1 := st.cell 1 (v := .int .i64 a) rfl
            have c2 := st.cell 2 (v := .slice a7 H.length c7) rfl
            have c3 := st.cell 3 (v := .int .i64 D) rfl
            have Hcall := Lib.hid (HVx.out n a D a7 c7 H _ hHl2 hcW Hop.out.at)
            clear st hcW
            cases hvx : vtxB c ⟨n, a, H, D⟩ with
            | false =>
              rw [hvx] at Hcall
              clear Hst Hop
              refine Hcall.out.mono ?_
              rintro e w8 ⟨rfl, hb8⟩
              have Hg38 := Lib.hid (grown_row (w := w3) Hg3r.out (below_grown hb8) (fun g e => by cases e))
              have Hown8 := Lib.hid (Hown3.out.same fun b h1 h2 => Hg38.out.block b h2 (fun e => by cases e; omega))
              have Hoh8 := Lib.hid (Hoh3.out.kept Hg38.out (.inr fun e => by have := (Hoh3.out.lt R e).1; omega))
              have Hrd8 := Lib.hid (Hrd.out.kept (below_grown hb8) (fun g e => by cases e))
              have hs8 := Hg38.out.size
              have HgW8 := Lib.hid (grownBy_trans Hgr3.out Hg38.out)
              clear hb8 c0 c1 c2 c3
              go_wp2
              go_roundw
              case rel => exact ⟨a + 1, g, q2, by omega, by go_num, Hown8.out.mono hs8, Hok.out, fun x hx => by have := Hord.out x hx; omega, by omega, Hrd8.out, by omega, HgW8.out, Hoh8.out, by omega⟩
              case measure => simp [intOf]; omega
            | true =>
              rw [hvx] at Hcall
              have Hok' := Lib.hid (gOk_push Hok.out hvx Hord.out)
              clear hvx
              refine Hcall.out.mono ?_
              rintro e w8 ⟨rfl, hb8⟩
              have Hg38 := Lib.hid (grown_row (w := w3) Hg3r.out (below_grown hb8) (fun g e => by cases e))
              have Hown8 := Lib.hid (Hown3.out.same fun b h1 h2 => Hg38.out.block b h2 (fun e => by cases e; omega))
              have Hoh8 := Lib.hid (Hoh3.out.kept Hg38.out (.inr fun e => by have := (Hoh3.out.lt R e).1; omega))
              have Hrd8 := Lib.hid (Hrd.out.kept (below_grown hb8) (fun g e => by cases e))
              have hs8 := Hg38.out.size
              have HgW8 := Lib.hid (grownBy_trans Hgr3.out Hg38.out)
              have st := (hb8.block _ Hst.out.lt).trans Hst.out
              have hop8 := Hop.out.below hb8
              have c0 := Str.cell st 0 (v := .int .i64 n) rfl
              have c1 := Str.cell st 1 (v := .int .i64 a) rfl
              have c2 := Str.cell st 2 (v := .slice a7 H.length c7) rfl
              have c3 := Str.cell st 3 (v := .int .i64 D) rfl
              obtain ⟨hfd, hap, hnew⟩ := vertex_new (B := w.heap.size) n a D hop8 hw3
              have Hfd := Lib.hid hfd; clear hfd
              have Hap := Lib.hid hap; clear hap
              have Hnew := Lib.hid hnew; clear hnew hop8 st hb8
              have hel : (g.map Vx.fd).length ≤ 1048576 := by rw [List.length_map]; omega
              have Hex := Lib.hid (show (g ++ [(⟨n, a, H, D⟩ : Vx)]).map Vx.fd = g.map Vx.fd ++ [[.i n, .i a, .l H, .i D]] by rw [List.map_append]; rfl)
              have hB8 : w.heap.size ≤ w8.heap.size := by omega
              generalize g.map Vx.fd = es at *
              go_wp2_with (at_builtin; refine wpList_push_own (Ei := 3) Tryz.underlying24 vertex_inf rfl (by decide) (by decide) rfl (.tmp 85) (.tmp 87) rfl w.heap.size _ es _ _ _ rfl rfl (by intro u hu; simp at hu; rcases hu with rfl | rfl | rfl | rfl <;> rfl) rfl rfl Hfd.out Hap.out w3.heap.size Hown8.out hs8 Hnew.out hel rfl hB8 ?_; intro v9 w9 hown9 hg9 hat9)
              go_roundw
              case rel => exact ⟨a + 1, g ++ [⟨n, a, H, D⟩], q2, by omega, by go_num, by rw [Hex.out]; exact hown9, Hok'.out, fun x hx => by
                rcases List.mem_append.1 hx with hx | hx
                · have := Hord.out x hx; omega
                · simp at hx; subst hx; exact .inr ⟨rfl, (show (a : Int) < ((a + 1 : Nat) : Int) by omega)⟩, by have := hgl; rw [List.length_append]; simp only [List.length_singleton]; omega, Hrd8.out.kept hg9 (fun g e => by have := (Hown8.out.lt g e).1; omega), by omega, grown_row HgW8.out hg9 (fun g e => (Hown8.out.lt g e).1), Hoh8.out.kept hg9 (Hown8.out.apartI Hoh8.out (by decide)), by have := hg9.size; omega⟩
              case measure => simp [intOf]; omega
          · have hld : decide (weightZ c ps < 2 * totalZ c / 3 + 1) = false := decide_eq_false hlow
            clear k2
            have hgW := grownBy_trans Hgr3.out Hg3r.out
            have hcW := Hc.out _ hgW
            have HgW := Lib.hid hgW; clear hgW
            have st := Hst.out
            have c0 := st.cell 0 (v := .int .i64 n) rfl
            have c1 := st.cell 1 (v := .int .i64 a) rfl
            have c2 := st.cell 2 (v := .slice ap ps.length cp) rfl
            have c3 := st.cell 3 (v := .int .i64 D) rfl
            have Hcall := Lib.hid (HVx.out n a D ap cp ps _ hpl hcW Hop.out.at)
            clear st hcW
            cases hvx : vtxB c ⟨n, a, ps, D⟩ with
            | false =>
              rw [hvx] at Hcall
              clear Hst Hop Hne
              go_wp2_with fail
              refine Hcall.out.mono ?_
              rintro e w8 ⟨rfl, hb8⟩
              have Hg38 := Lib.hid (grown_row (w := w3) Hg3r.out (below_grown hb8) (fun g e => by cases e))
              have Hown8 := Lib.hid (Hown3.out.same fun b h1 h2 => Hg38.out.block b h2 (fun e => by cases e; omega))
              have Hoh8 := Lib.hid (Hoh3.out.kept Hg38.out (.inr fun e => by have := (Hoh3.out.lt R e).1; omega))
              have Hrd8 := Lib.hid (Hrd.out.kept (below_grown hb8) (fun g e => by cases e))
              have hs8 := Hg38.out.size
              have HgW8 := Lib.hid (grownBy_trans Hgr3.out Hg38.out)
              clear hb8 c0 c1 c2 c3
              go_wp2
              go_roundw
              case rel => exact ⟨a + 1, g, q2, by omega, by go_num, Hown8.out.mono hs8, Hok.out, fun x hx => by have := Hord.out x hx; omega, by omega, Hrd8.out, by omega, HgW8.out, Hoh8.out, by omega⟩
              case measure => simp [intOf]; omega
            | true =>
              rw [hvx] at Hcall
              have Hok' := Lib.hid (gOk_push Hok.out hvx Hord.out)
              clear hvx
              go_wp2_with fail
              refine Hcall.out.mono ?_
              rintro e w8 ⟨rfl, hb8⟩
              have Hg38 := Lib.hid (grown_row (w := w3) Hg3r.out (below_grown hb8) (fun g e => by cases e))
              have Hown8 := Lib.hid (Hown3.out.same fun b h1 h2 => Hg38.out.block b h2 (fun e => by cases e; omega))
              have Hoh8 := Lib.hid (Hoh3.out.kept Hg38.out (.inr fun e => by have := (Hoh3.out.lt R e).1; omega))
              have Hrd8 := Lib.hid (Hrd.out.kept (below_grown hb8) (fun g e => by cases e))
              have hs8 := Hg38.out.size
              have HgW8 := Lib.hid (grownBy_trans Hgr3.out Hg38.out)
              have st := (hb8.block _ Hst.out.lt).trans Hst.out
              have hop8 := Hop.out.below hb8
              have c0 := Str.cell st 0 (v := .int .i64 n) rfl
              have c1 := Str.cell st 1 (v := .int .i64 a) rfl
              have c2 := Str.cell st 2 (v := .slice ap ps.length cp) rfl
              have c3 := Str.cell st 3 (v := .int .i64 D) rfl
              obtain ⟨hfd, hap, hnew⟩ := vertex_new (B := w.heap.size) n a D hop8 hw3
              have Hfd := Lib.hid hfd; clear hfd
              have Hap := Lib.hid hap; clear hap
              have Hnew := Lib.hid hnew; clear hnew hop8 st hb8
              have hel : (g.map Vx.fd).length ≤ 1048576 := by rw [List.length_map]; omega
              have Hex := Lib.hid (show (g ++ [(⟨n, a, ps, D⟩ : Vx)]).map Vx.fd = g.map Vx.fd ++ [[.i n, .i a, .l ps, .i D]] by rw [List.map_append]; rfl)
              have hB8 : w.heap.size ≤ w8.heap.size := by omega
              generalize g.map Vx.fd = es at *
              go_wp2_with (at_builtin; refine wpList_push_own (Ei := 3) Tryz.underlying24 vertex_inf rfl (by decide) (by decide) rfl (.tmp 85) (.tmp 87) rfl w.heap.size _ es _ _ _ rfl rfl (by intro u hu; simp at hu; rcases hu with rfl | rfl | rfl | rfl <;> rfl) rfl rfl Hfd.out Hap.out w3.heap.size Hown8.out hs8 Hnew.out hel rfl hB8 ?_; intro v9 w9 hown9 hg9 hat9)
              go_roundw
              case rel => exact ⟨a + 1, g ++ [⟨n, a, ps, D⟩], q2, by omega, by go_num, by rw [Hex.out]; exact hown9, Hok'.out, fun x hx => by
                rcases List.mem_append.1 hx with hx | hx
                · have := Hord.out x hx; omega
                · simp at hx; subst hx; exact .inr ⟨rfl, (show (a : Int) < ((a + 1 : Nat) : Int) by omega)⟩, by have := hgl; rw [List.length_append]; simp only [List.length_singleton]; omega, Hrd8.out.kept hg9 (fun g e => by have := (Hown8.out.lt g e).1; omega), by omega, grown_row HgW8.out hg9 (fun g e => (Hown8.out.lt g e).1), Hoh8.out.kept hg9 (Hown8.out.apartI Hoh8.out (by decide)), by have := hg9.size; omega⟩
              case measure => simp [intOf]; omega

end Go.Proofs.YtjaacdapibokiabGreatDoor

/- A list that reads as rows is appended to a list that the call builds; a row's cell of such a list is written over; general steps, nothing here speaks of the program. -/
namespace Go.Proofs.YtjaacdapibokiabGreatDoor
open Go.RowKit

theorem Rd.one {w : World} {d : Dt} {c : Value} {fp : List Nat} (h : Rd w d c fp) : c.oneCell' = true := by
  cases h <;> rfl
/-- The cells of a list of rows, one after the other, and how they read. -/
theorem Rd.rows {w : World} {es : List (List Dt)} {u : Value} {fp : List Nat} (h : Rd w (.l es) u fp) {sz : Nat} (hsz : ∀ e ∈ es, e.length = sz) (hpos : 0 < sz) :
    (u = .slice none 0 0 ∧ es = []) ∨ ∃ (ad : Addr) (c : Nat) (vals : List Value), u = .slice (some ad) es.length c ∧ vals.length = es.length * sz ∧ (∀ j x, vals[j]? = some x → w.cell? (ad.add j) = some x) ∧ (∀ x ∈ vals, x.oneCell' = true) ∧
      ∀ k (hk : k < es.length) j (hj : j < (es[k]).length), ∃ c fp', (vals.drop (k * sz))[j]? = some c ∧ Rd w ((es[k])[j]) c fp' ∧ ∀ r ∈ fp', r ∈ fp := by
  generalize hd : Dt.l es = d at h
  cases h with
  | i n => cases hd
  | b x => cases hd
  | s t => cases hd
  | nil a cap hn =>
    cases hd
    cases a with
    | none => rw [hn rfl]; exact .inl ⟨rfl, rfl⟩
    | some ad => exact .inr ⟨ad, cap, [], rfl, by simp, by simp, by simp, fun k hk => by simp at hk⟩
  | l sz' es' g off cap V F hne hsz' hcap hgl hc hrd =>
    cases hd
    have hss : sz' = sz := by
      have h0 := List.getElem_mem hne
      rw [← hsz' _ h0, hsz _ h0]
    subst hss
    have hlt : ∀ p, p < es.length * sz' → p / sz' < es.length ∧ p % sz' < sz' := fun p hp => ⟨by rw [Nat.div_lt_iff_lt_mul hpos]; exact hp, Nat.mod_lt _ hpos⟩
    have hget : ∀ p, p < es.length * sz' → ((List.range (es.length * sz')).map fun p => V (p / sz') (p % sz'))[p]? = some (V (p / sz') (p % sz')) := by
      intro p hp
      simp [List.getElem?_map, List.getElem?_range hp]
    refine .inr ⟨⟨g, off, none⟩, cap, (List.range (es.length * sz')).map fun p => V (p / sz') (p % sz'), rfl, by simp, fun j x hx => ?_, fun x hx => ?_, fun k hk j hj => ?_⟩
    · have hj : j < es.length * sz' := by
        obtain ⟨h, _⟩ := List.getElem?_eq_some_iff.1 hx
        simpa using h
      rw [hget j hj] at hx
      cases hx
      obtain ⟨h1, h2⟩ := hlt j hj
      have := hc (j / sz') (j % sz') h1 h2
      rw [addr_add', ← this]
      congr 3
      rw [Nat.mul_comm]; exact (Nat.div_add_mod _ _).symm
    · obtain ⟨p, hp, rfl⟩ := List.mem_map.1 hx
      obtain ⟨h1, h2⟩ := hlt p (List.mem_range.1 hp)
      exact (hrd _ _ h1 (by rw [hsz _ (List.getElem_mem h1)]; exact h2)).one
    · have hj' : j < sz' := by rw [← hsz _ (List.getElem_mem hk)]; exact hj
      have hp : k * sz' + j < es.length * sz' := by
        have := Nat.mul_le_mul_right sz' (show k + 1 ≤ es.length by omega)
        rw [Nat.add_mul] at this; omega
      have e1 : (k * sz' + j) / sz' = k := by rw [Nat.add_comm, Nat.add_mul_div_right _ _ hpos, Nat.div_eq_of_lt hj', Nat.zero_add]
      have e2 : (k * sz' + j) % sz' = j := by rw [Nat.add_comm, Nat.add_mul_mod_self_right, Nat.mod_eq_of_lt hj']
      refine ⟨V k j, F k j, ?_, hrd k j hk hj, fun r hr => List.mem_cons_of_mem _ (List.mem_flatMap.2 ⟨k, List.mem_range.2 hk, List.mem_flatMap.2 ⟨j, List.mem_range.2 hj', hr⟩⟩)⟩
      rw [List.getElem?_drop, hget _ hp, e1, e2]
/-- 'append(s, t...)' at an operation: s is being built, t reads as rows in memory that is not the outer row's. -/
theorem op_app_rows {P : Program} {T E : TypeId} {z0 : Value} {sz bytes : Nat} (hsl : P.underlying T = some (.slice E)) (hinf : (P.info? E).map (fun i => (i.zero, i.size, i.bytes)) = some (some z0, sz, bytes)) (hz0 : z0.cells.size = sz) (hpos : 0 < sz) (hby : bytes ≤ 1000)
    (w : World) {o : Oper} {a : Act} {K : Act → World → Prop} {Q : Exit → Act → World → Prop} (s x : Operand) (ho : o.op = .call { callee := .builtin .append, args := #[s, x], argTypes := #[T, T] }) (B : Nat) (v u : Value) (es es2 : List (List Dt)) (fp2 : List Nat)
    (hs : a.eval s = v) (hb : Bld E sz w B v es) (hx : a.eval x = u) (hr : Rd w (.l es2) u fp2) (hsz2 : ∀ e ∈ es2, e.length = sz) (hfp : ∀ r ∈ fp2, B ≤ r ∧ v.ownBlock ≠ some r) (hlen : es.length + es2.length ≤ 1048576) (hB : B ≤ w.heap.size)
    (h : ∀ v' w', Bld E sz w' B v' (es ++ es2) → w.grownBy w' v.ownBlock → (∀ g, v'.ownBlock = some g → v.ownBlock = some g ∨ w.heap.size ≤ g) → K (a.put o.dst v') w') : Oper.wp P o a w K Q := by
  obtain ⟨i, hi, hz, hsz, hbb⟩ := info_parts hinf
  obtain ⟨cs, hown, hc⟩ := hb.row
  have hcl : cs.length = es.length * sz := hown.1
  have run : ∃ v' w' vals, (Builtin.append_ #[T, T] o.type #[v, u]).run P w = .ok v' w' ∧ w'.ownsRow B E sz v' (es.length + es2.length) (cs ++ vals) ∧ w.grownBy w' v.ownBlock ∧ (v'.ownBlock = v.ownBlock ∨ v'.ownBlock = some w.heap.size) ∧
      ∀ k (hk : k < es2.length) j (hj : j < (es2[k]).length), ∃ c fp', (vals.drop (k * sz))[j]? = some c ∧ Rd w ((es2[k])[j]) c fp' ∧ ∀ r ∈ fp', r ∈ fp2 := by
    rcases hr.rows hsz2 hpos with ⟨rfl, rfl⟩ | ⟨ad, c, vals, rfl, hvl, hcells, hone, hrd⟩
    · exact ⟨v, w, [], run_append_owned_none (P := P) (w := w) B T o.type E i sz hsl hi v es.length _ hown, by simpa using hown, ⟨rfl, rfl, rfl, Nat.le_refl _, fun _ _ _ => rfl⟩, .inl rfl, fun k hk => by simp at hk⟩
    · obtain ⟨v', w', h1, h2, h3, _, h4⟩ := run_append_own_at (P := P) w B T o.type E i z0 sz bytes hsl hi hz hsz hbb hz0 hpos v es.length _ hown ad es2.length c vals hvl hcells hone (by unfold maxLen; omega) (by
        have := Nat.mul_le_mul hlen hby; omega) hB
      exact ⟨v', w', vals, h1, h2, h3, h4, hrd⟩
  obtain ⟨v', w', vals, hrun, h1, hg, h4, hrd⟩ := run
  unfold Oper.wp execOp
  simp only [ho, resolve, invoke, builtin, Sem.run_bind, Sem.run_pure, Result.andThen_ok, List.map_toArray, List.map_cons, List.map_nil, hs, hx, hrun]
  have hloc : ∀ g, v'.ownBlock = some g → v.ownBlock = some g ∨ w.heap.size ≤ g := fun g e => by
    rcases h4 with h4 | h4
    · exact .inl (by rw [← h4]; exact e)
    · rw [h4] at e; cases e; exact .inr (Nat.le_refl _)
  refine h v' w' ⟨?_, cs ++ vals, by rw [List.length_append]; exact h1, fun k hk => ?_⟩ hg hloc
  · intro d hd
    rcases List.mem_append.1 hd with hd | hd
    · exact hb.szs d hd
    · exact hsz2 d hd
  · by_cases hke : k < es.length
    · have hkk : (es ++ es2)[k] = es[k] := List.getElem_append_left hke
      rw [hkk]
      have hcr := (hc k hke).step (blk' := v'.ownBlock) hg (fun r e => .inr e) hloc
      intro j hj
      obtain ⟨c, fp, hcc, hrest⟩ := hcr j hj
      refine ⟨c, fp, ?_, hrest⟩
      rw [List.getElem?_drop] at hcc ⊢
      rw [List.getElem?_append_left (by obtain ⟨h, _⟩ := List.getElem?_eq_some_iff.1 hcc; exact h)]
      exact hcc
    · have hk2 : k - es.length < es2.length := by rw [List.length_append] at hk; omega
      have hkk : (es ++ es2)[k] = es2[k - es.length] := List.getElem_append_right (by omega)
      rw [hkk]
      intro j hj
      obtain ⟨c, fp', hcc, hr', hin⟩ := hrd (k - es.length) hk2 j hj
      refine ⟨c, fp', ?_, hr'.grown hg (fun r e hm => (hfp r (hin r hm)).2 e), fun r hm => ⟨(hfp r (hin r hm)).1, fun e => ?_⟩⟩
      · rw [List.getElem?_drop] at hcc ⊢
        have hge : cs.length ≤ k * sz + j := by
          rw [hcl]
          have := Nat.mul_le_mul_right sz (show es.length ≤ k by omega)
          omega
        rw [List.getElem?_append_right hge, hcl]
        have hq : k * sz + j - es.length * sz = (k - es.length) * sz + j := by
          rw [Nat.sub_mul]
          have := Nat.mul_le_mul_right sz (show es.length ≤ k by omega)
          omega
        rw [hq]; exact hcc
      · rcases hloc r e with e' | e'
        · exact (hfp r (hin r hm)).2 e'
        · have := hr'.lt r hm; omega

end Go.Proofs.YtjaacdapibokiabGreatDoor

/- The draw of a graph that is seldom invalid: what is drawn reads as a graph in new memory; by a walk of its text; condition: at most 10^4 picks before. -/
namespace Go.Proofs.YtjaacdapibokiabGreatDoor
open Go.RowKit

theorem members_geG {n : Nat} {ms : List Int} (h : membersB n ms = true) : ∀ k (hk : k < ms.length), (k : Int) ≤ ms[k] := by
  intro k
  induction k with
  | zero => intro hk; have := (okAt_bd hk (allB_upto h 0 hk)).1; omega
  | succ k ih =>
    intro hk
    have h1 := ih (by omega)
    have := (okAt_bd hk (allB_upto h (k + 1) hk)).2.2
    rcases this with h0 | h0
    · omega
    · rw [Nat.add_sub_cancel, getD_get (by omega)] at h0; omega
theorem members_lenG {n : Nat} {ms : List Int} (h : membersB n ms = true) : ms.length ≤ n := by
  rcases Nat.eq_zero_or_pos ms.length with h0 | h0
  · omega
  · have h1 := members_geG h (ms.length - 1) (by omega)
    have h2 := (membersB_at h (ms.length - 1) (by omega)).2
    omega
theorem gOk_ps {c : List Int} {g : List Vx} (h : GOk c g) : ∀ x ∈ g, x.ps.length ≤ c.length := fun x hx => by
  have := h.1 x hx
  unfold vtxB at this
  simp only [Bool.and_eq_true] at this
  exact members_lenG this.2.2.1
theorem ownR_gr {E Ei : TypeId} {sz : Nat} {w : World} {B hi : Nat} {v : Value} {g : List Vx} (h : OwnR E Ei sz w B hi v (g.map Vx.fd)) : ∃ fp, Gr w g v fp ∧ ∀ r ∈ fp, B ≤ r := by
  obtain ⟨fp, hr, hf⟩ := h.bld.rd
  exact ⟨fp, hr, hf⟩
theorem set_mem {g : List Vx} {k : Nat} {x : Vx} {m : Nat} (h : ∀ y ∈ g, y.ps.length ≤ m) (hx : x.ps.length ≤ m) : ∀ y ∈ g.set k x, y.ps.length ≤ m := fun y hy => by
  rcases List.mem_or_eq_of_mem_set hy with hy | rfl
  · exact h y hy
  · exact hx
section
variable {E Ei : TypeId} {w : World} {B hi gb n cap : Nat} {g : List Vx} {k : Nat}
theorem vx_cells (h : OwnR E Ei 4 w B hi (.slice (some ⟨gb, 0, none⟩) n cap) (g.map Vx.fd)) (hk : k < g.length) :
    w.cell? ⟨gb, k * 4, none⟩ = some (.int .i64 g[k].r) ∧ w.cell? ⟨gb, k * 4 + 1, none⟩ = some (.int .i64 g[k].a) ∧ (∃ pa pc, w.cell? ⟨gb, k * 4 + 2, none⟩ = some (.slice pa g[k].ps.length pc)) ∧ w.cell? ⟨gb, k * 4 + 3, none⟩ = some (.int .i64 g[k].d) ∧
    w.frozen? ⟨gb, k * 4, none⟩ = false ∧ w.frozen? ⟨gb, k * 4 + 1, none⟩ = false ∧ w.frozen? ⟨gb, k * 4 + 2, none⟩ = false ∧ w.frozen? ⟨gb, k * 4 + 3, none⟩ = false := by
  have hk' : k < (g.map Vx.fd).length := by simpa using hk
  have he : (g.map Vx.fd)[k] = g[k].fd := by simp
  have h0 := h.fieldI (k := k) (j := 0) hk' (by rw [he]; simp [Vx.fd]) (x := g[k].r) (by simp only [he]; rfl)
  have h1 := h.fieldI (k := k) (j := 1) hk' (by rw [he]; simp [Vx.fd]) (x := g[k].a) (by simp only [he]; rfl)
  obtain ⟨pa, pc, h2, _, f2, _⟩ := h.fieldL (k := k) (j := 2) hk' (by rw [he]; simp [Vx.fd]) (xs := g[k].ps) (by simp only [he]; rfl)
  have h3 := h.fieldI (k := k) (j := 3) hk' (by rw [he]; simp [Vx.fd]) (x := g[k].d) (by simp only [he]; rfl)
  exact ⟨h0.1, h1.1, ⟨pa, pc, h2⟩, h3.1, h0.2, h1.2, f2, h3.2⟩
theorem vx_setI (h : OwnR E Ei 4 w B hi (.slice (some ⟨gb, 0, none⟩) n cap) (g.map Vx.fd)) (hn : n = g.length) (hk : k < g.length) (j : Nat) (hj : j < 4) (z : Int) (x : Vx) (hx : (g[k].fd).set j (.i z) = x.fd) :
    OwnR E Ei 4 (w.setCell ⟨gb, k * 4 + j, none⟩ (.int .i64 z)) B hi (.slice (some ⟨gb, 0, none⟩) n cap) ((g.set k x).map Vx.fd) := by
  have := h.setI (by simpa using hn) (k := k) (j := j) (by simpa using hk) hj z
  rwa [List.getElem_map, hx, ← List.map_set] at this
theorem vx_setP {hi' : Nat} {u : Value} {ps : List Int} (h : OwnR E Ei 4 w B hi (.slice (some ⟨gb, 0, none⟩) n cap) (g.map Vx.fd)) (hn : n = g.length) (hk : k < g.length) (ho : Own Ei w B u ps) (hhi : hi ≤ hi') (hu : ∀ b, u.ownBlock = some b → hi ≤ b ∧ b < hi') :
    OwnR E Ei 4 (w.setCell ⟨gb, k * 4 + 2, none⟩ u) B hi' (.slice (some ⟨gb, 0, none⟩) n cap) ((g.set k ⟨g[k].r, g[k].a, ps, g[k].d⟩).map Vx.fd) := by
  have := h.setF (by simpa using hn) (k := k) (j := 2) (by simpa using hk) (by omega) (f := .l ps) (show FdOk Ei w B u (.l ps) from ho) hhi hu
  rwa [List.getElem_map, show (g[k].fd).set 2 (.l ps) = Vx.fd ⟨g[k].r, g[k].a, ps, g[k].d⟩ from rfl, ← List.map_set] at this
end

set_option maxRecDepth 8000 in
set_option maxHeartbeats 4000000 in
theorem drawSpoilt (R p : Nat) (rounds : Int) (w : World) (hp : p ≤ 10000) (hn0 : 0 ≤ rounds) (hn1 : rounds ≤ 40) (hr : Rdr w R p) (hR : R < w.heap.size) :
    Calls Tryz.prog 42 #[.pointer (some ⟨R, 0, none⟩), .int .i64 rounds] w fun e w' => ∃ vc c vg g fp p', e = .returned (.tuple #[vc, vg]) ∧ Own 3 w' w.heap.size vc c ∧ c.length ≤ 11 ∧ Gr w' g vg fp ∧ (∀ r ∈ fp, w.heap.size ≤ r) ∧ g.length ≤ 281 ∧ (∀ x ∈ g, x.ps.length ≤ 100) ∧ Rdr w' R p' ∧ p' ≤ p + 90000 ∧ w.grownBy w' (some R) := by
  go_enter Tryz.func42, Tryz.ntmps42
  go_wp2_with fail
  refine (drawGoodV R p _ (by omega) hr hR).mono ?_
  rintro e w1 ⟨vc, c, p1, rfl, hoc, hv, hr1, hp1, hg1⟩
  obtain ⟨ac, cc, rfl, hic, _⟩ := hoc.ints
  obtain ⟨hc1, hc7⟩ := validB_len hv
  have hs1 := hg1.size
  have hR1 : R < w1.heap.size := by omega
  have Hoc := Lib.hid hoc; clear hoc
  have Hcb := Lib.hid (fun b e => (Hoc.out.lt b e).2)
  have Hdg := Lib.hid (drawGraph R p1 rounds w1 ac cc c (by omega) hn0 hn1 hv hr1 hR1 (fun W hW => (Hoc.out.kept hW (.inr fun e => by have := (Hoc.out.lt R e).1; omega)).at))
  have Hg1 := Lib.hid hg1; clear hg1 hr1 hic
  go_wp2_with fail
  refine Hdg.out.mono ?_
  rintro e w2 ⟨vg, g, p2, rfl, hog, hok, hgl, hr2, hp2, hg2⟩
  have hs2 := hg2.size
  have Hoc2 := Lib.hid (Hoc.out.kept hg2 (.inr fun e => by have := (Hoc.out.lt R e).1; omega))
  have Hr2 := Lib.hid hr2; clear hr2
  have Hg2 := Lib.hid (grownBy_trans Hg1.out hg2); clear hg2
  have Hog2 := Lib.hid hog; clear hog
  have hps := gOk_ps hok
  have Hps := Lib.hid (show ∀ x ∈ g, x.ps.length ≤ 100 from fun x hx => Nat.le_trans (hps x hx) (by omega)); clear hps hok hv Hdg Hoc
  by_cases hg0 : g.length = 0
  · have hgn : g = [] := List.eq_nil_of_length_eq_zero hg0
    subst hgn
    obtain ⟨ag, cg, rfl, _⟩ := Hog2.out.slice
    go_wp2
    go_ret2
    obtain ⟨fp, h1, h2⟩ := ownR_gr Hog2.out
    exact ⟨_, c, _, [], fp, p2, rfl, Hoc2.out, by omega, h1, fun r hr => Nat.le_trans hs1 (h2 r hr), by simp, by simp, Hr2.out, by omega, Hg2.out⟩
  obtain ⟨gb, cg, rfl, hBg, hgh, hgs⟩ := Hog2.out.head (by rw [List.length_map]; omega)
  rw [List.length_map] at *
  have hgne : ((g.length : Int) == 0) = false := by rw [beq_eq_false_iff_ne]; omega
  go_wp2_with fail
  refine (pick_any R (g.length : Int) p2 _ (by omega) Hr2.out (by omega)).mono ?_
  rintro e w3 ⟨k, rfl, hk0, hk1, hr3, hg3⟩
  obtain ⟨k, rfl⟩ := Int.eq_ofNat_of_zero_le hk0
  have hk : k < g.length := by omega
  have hs3 := hg3.size
  have Hoc3 := Lib.hid (Hoc2.out.kept hg3 (.inr fun e => by have := (Hoc2.out.lt R e).1; omega))
  have Hog3 := Lib.hid (Hog2.out.same fun b h1 h2 => hg3.block b (by omega) (fun e => by cases e; omega))
  have Hr3 := Lib.hid hr3; clear hr3
  have Hg3 := Lib.hid (grownBy_trans Hg2.out hg3); clear hg3
  go_wp2_with fail
  refine (pick_any R 20 (p2 + 1) _ (by omega) Hr3.out (by omega)).mono ?_
  rintro e w4 ⟨s, rfl, hs0, hs20, hr4, hg4⟩
  have hs4 := hg4.size
  have Hoc4 := Lib.hid (Hoc3.out.kept hg4 (.inr fun e => by have := (Hoc3.out.lt R e).1; omega))
  have Hog4 := Lib.hid (Hog3.out.same fun b h1 h2 => hg4.block b (by omega) (fun e => by cases e; omega))
  have Hr4 := Lib.hid hr4; clear hr4
  have Hg4 := Lib.hid (grownBy_trans Hg3.out hg4); clear hg4
  clear Hoc2 Hoc3 Hog2 Hog3 Hr2 Hr3 Hg1 Hg2 Hg3 hk0 hk1 hg0 hgne hs20 hs0
  by_cases h0 : s = 0
  · subst h0
    go_wp2_with fail
    refine (drawDigest R (p2 + 1 + 1) _ (by omega) Hr4.out).mono ?_
    rintro e w5 ⟨d, p5, rfl, hd0, hd1, hr5, hp5, hg5⟩
    have hs5 := hg5.size
    have Hoc5 := Lib.hid (Hoc4.out.kept hg5 (.inr fun e => by have := (Hoc4.out.lt R e).1; omega))
    have hog5 := Hog4.out.same fun b h1 h2 => hg5.block b (by omega) (fun e => by cases e; omega)
    obtain ⟨q0, q1, ⟨pa, pc, q2⟩, q3, f0, f1, f2, f3⟩ := vx_cells hog5 hk
    have Hog5 := Lib.hid (show OwnR 64 3 4 (w5.setCell ⟨gb, k * 4 + 3, none⟩ (.int .i64 (d))) _ _ _ _ from vx_setI hog5 rfl hk 3 (by omega) (d) ⟨g[k].r, g[k].a, g[k].ps, d⟩ rfl); clear hog5
    have Hr5 := Lib.hid hr5; clear hr5
    have Hg5 := Lib.hid (grownBy_trans Hg4.out hg5); clear hg5
    have hpk := Hps.out _ (List.getElem_mem hk)
    go_wp2
    go_ret2
    obtain ⟨fp, h1, h2⟩ := ownR_gr Hog5.out
    exact ⟨_, c, _, _, fp, p5, rfl, Hoc5.out.set_other (fun e => by have := Hcb.out gb e; omega) _ _, by omega, h1, fun r hr => Nat.le_trans hs1 (h2 r hr), by rw [List.length_set]; omega, set_mem Hps.out hpk, Hr5.out.kept (grownBy_set w5 gb _ _) (fun g e => by cases e; omega), by omega, grown_row Hg5.out (grownBy_set w5 gb _ _) (fun g e => by cases e; omega)⟩
  have e0 : (s == 0) = false := by rw [beq_eq_false_iff_ne]; exact h0
  clear h0
  by_cases h1 : s = 1
  · subst h1
    go_wp2_with fail
    refine (pick_any R 33 (p2 + 1 + 1) _ (by omega) Hr4.out (by omega)).mono ?_
    rintro e w5 ⟨d, rfl, hd0, hd1, hr5, hg5⟩
    have hs5 := hg5.size
    have Hoc5 := Lib.hid (Hoc4.out.kept hg5 (.inr fun e => by have := (Hoc4.out.lt R e).1; omega))
    have hog5 := Hog4.out.same fun b h1 h2 => hg5.block b (by omega) (fun e => by cases e; omega)
    obtain ⟨q0, q1, ⟨pa, pc, q2⟩, q3, f0, f1, f2, f3⟩ := vx_cells hog5 hk
    have Hog5 := Lib.hid (show OwnR 64 3 4 (w5.setCell ⟨gb, k * 4, none⟩ (.int .i64 (d - 1))) _ _ _ _ from by have := vx_setI hog5 rfl hk 0 (by omega) (d - 1) ⟨d - 1, g[k].a, g[k].ps, g[k].d⟩ rfl; rwa [Nat.add_zero] at this); clear hog5
    have Hr5 := Lib.hid hr5; clear hr5
    have Hg5 := Lib.hid (grownBy_trans Hg4.out hg5); clear hg5
    have hpk := Hps.out _ (List.getElem_mem hk)
    have hwd : IntKind.i64.wrap (d - 1) = d - 1 := IntWalk.i64_in _ (by omega)
    go_wp2
    go_ret2
    obtain ⟨fp, h1, h2⟩ := ownR_gr Hog5.out
    exact ⟨_, c, _, _, fp, p2 + 1 + 1 + 1, rfl, Hoc5.out.set_other (fun e => by have := Hcb.out gb e; omega) _ _, by omega, h1, fun r hr => Nat.le_trans hs1 (h2 r hr), by rw [List.length_set]; omega, set_mem Hps.out hpk, Hr5.out.kept (grownBy_set w5 gb _ _) (fun g e => by cases e; omega), by omega, grown_row Hg5.out (grownBy_set w5 gb _ _) (fun g e => by cases e; omega)⟩
  have e1 : (s == 1) = false := by rw [beq_eq_false_iff_ne]; exact h1
  clear h1
  by_cases h2 : s = 2
  · subst h2
    go_wp2_with fail
    refine (pick_any R 9 (p2 + 1 + 1) _ (by omega) Hr4.out (by omega)).mono ?_
    rintro e w5 ⟨d, rfl, hd0, hd1, hr5, hg5⟩
    have hs5 := hg5.size
    have Hoc5 := Lib.hid (Hoc4.out.kept hg5 (.inr fun e => by have := (Hoc4.out.lt R e).1; omega))
    have hog5 := Hog4.out.same fun b h1 h2 => hg5.block b (by omega) (fun e => by cases e; omega)
    obtain ⟨q0, q1, ⟨pa, pc, q2⟩, q3, f0, f1, f2, f3⟩ := vx_cells hog5 hk
    have Hog5 := Lib.hid (show OwnR 64 3 4 (w5.setCell ⟨gb, k * 4 + 1, none⟩ (.int .i64 (d - 1))) _ _ _ _ from vx_setI hog5 rfl hk 1 (by omega) (d - 1) ⟨g[k].r, d - 1, g[k].ps, g[k].d⟩ rfl); clear hog5
    have Hr5 := Lib.hid hr5; clear hr5
    have Hg5 := Lib.hid (grownBy_trans Hg4.out hg5); clear hg5
    have hpk := Hps.out _ (List.getElem_mem hk)
    have hwd : IntKind.i64.wrap (d - 1) = d - 1 := IntWalk.i64_in _ (by omega)
    go_wp2
    go_ret2
    obtain ⟨fp, h1, h2⟩ := ownR_gr Hog5.out
    exact ⟨_, c, _, _, fp, p2 + 1 + 1 + 1, rfl, Hoc5.out.set_other (fun e => by have := Hcb.out gb e; omega) _ _, by omega, h1, fun r hr => Nat.le_trans hs1 (h2 r hr), by rw [List.length_set]; omega, set_mem Hps.out hpk, Hr5.out.kept (grownBy_set w5 gb _ _) (fun g e => by cases e; omega), by omega, grown_row Hg5.out (grownBy_set w5 gb _ _) (fun g e => by cases e; omega)⟩
  have e2 : (s == 2) = false := by rw [beq_eq_false_iff_ne]; exact h2
  clear h2
  by_cases h3 : s = 3
  · subst h3
    go_wp2_with fail
    refine (drawMembers R (p2 + 1 + 1) c.length _ (by omega) (by omega) Hr4.out (by omega)).mono ?_
    rintro e w5 ⟨u, ps, p5, rfl, hu, hul, hr5, hp5, hg5⟩
    have hs5 := hg5.size
    have Hoc5 := Lib.hid (Hoc4.out.kept hg5 (.inr fun e => by have := (Hoc4.out.lt R e).1; omega))
    have hog5 := Hog4.out.same fun b h1 h2 => hg5.block b (by omega) (fun e => by cases e; omega)
    obtain ⟨q0, q1, ⟨pa, pc, q2⟩, q3, f0, f1, f2, f3⟩ := vx_cells hog5 hk
    have hul2 := hu.lt
    obtain ⟨au, cu, rfl, _, _⟩ := hu.ints
    have Hog5 := Lib.hid (vx_setP (hi' := w5.heap.size) hog5 rfl hk (hu.mono (show w1.heap.size ≤ w4.heap.size by omega)) (by omega) (fun b e => by have := hul2 b e; omega)); clear hog5 hu hul2
    have Hr5 := Lib.hid hr5; clear hr5
    have Hg5 := Lib.hid (grownBy_trans Hg4.out hg5); clear hg5
    go_wp2
    go_ret2
    obtain ⟨fp, h1, h2⟩ := ownR_gr Hog5.out
    exact ⟨_, c, _, _, fp, p5, rfl, Hoc5.out.set_other (fun e => by have := Hcb.out gb e; omega) _ _, by omega, h1, fun r hr => Nat.le_trans hs1 (h2 r hr), by rw [List.length_set]; omega, set_mem Hps.out (by simp only; omega), Hr5.out.kept (grownBy_set w5 gb _ _) (fun g e => by cases e; omega), by omega, grown_row Hg5.out (grownBy_set w5 gb _ _) (fun g e => by cases e; omega)⟩
  have e3 : (s == 3) = false := by rw [beq_eq_false_iff_ne]; exact h3
  clear h3
  by_cases h4 : s = 4
  · subst h4
    obtain ⟨fp, hgr, hfp⟩ := ownR_gr Hog4.out
    have hfl := hgr.lt
    obtain ⟨_, _, e, _, _, h9, hcg, h8⟩ := Rd.at hgr (sz := 4) (by simp; omega) (by intro e he; obtain ⟨e', he', rfl⟩ := List.mem_map.1 he; obtain ⟨y, _, rfl⟩ := List.mem_map.1 he'; rfl)
    clear e h9 h8
    have hsz4 : ∀ e ∈ (g.map Vx.fd).map (fun e => e.map Fd.dt), e.length = 4 := by intro e he; obtain ⟨e', he', rfl⟩ := List.mem_map.1 he; obtain ⟨y, _, rfl⟩ := List.mem_map.1 he'; rfl
    obtain ⟨fpA, hA, hAf⟩ := Rd.cut hgr hsz4 0 k 0 cg (by simp; omega) (fun _ => by simp) (fun _ => by omega)
    obtain ⟨o2, hif, fpB, hB, hBf⟩ := Rd.tail hgr hsz4 (k + 1) (by simp; omega)
    rw [Nat.zero_add] at hif
    rw [List.drop_zero] at hA
    simp only [List.length_map] at hB
    have HA := Lib.hid hA; clear hA
    have HB := Lib.hid hB; clear hB
    have HAf := Lib.hid (show ∀ r ∈ fpA, w1.heap.size ≤ r ∧ r < w4.heap.size from fun r hr => ⟨hfp r (hAf r hr), hfl r (hAf r hr)⟩)
    have HBf := Lib.hid (show ∀ r ∈ fpB, w1.heap.size ≤ r ∧ r < w4.heap.size from fun r hr => ⟨hfp r (hBf r hr), hfl r (hBf r hr)⟩)
    have Hszs := Lib.hid hsz4; clear hsz4 hgr hfp hfl hAf hBf Hog4
    have hwk : IntKind.i64.wrap ((k : Int) + 1) = (k : Int) + 1 := IntWalk.i64_in _ (by omega)
    have e1 : ((k : Int) + 1).toNat = k + 1 := by omega
    have e2 : 0 ≤ (k : Int) + 1 := by omega
    have e3' : (k : Int) + 1 ≤ (g.length : Int) := by omega
    have e4' : (k : Int) ≤ (cg : Int) := by omega
    have e5' : k ≤ cg := by omega
    have e6' : k + 1 ≤ g.length := by omega
    have e7' : (g.length : Int) ≤ (cg : Int) := by omega
    go_wp2_with fail
    refine wp_region_held_drew (S := fun _ => True) (by kernel_rfl) trivial (fun hH => ?_)
    refine takeH 1 (v := ?v1) rfl (by kernel_rfl) (by kernel_rfl) (by kernel_rfl) (fun _ _ _ h => h) hH rfl ?y1 ?r1
    case y1 => intro W hSw; go_simp; try with_reducible rfl
    try simp only [Act.put, List.setIfInBounds_toArray, List.set_cons_zero, List.set_cons_succ]
    refine takeH 2 (v := ?v2) rfl (by kernel_rfl) (by kernel_rfl) (by kernel_rfl) (fun _ _ _ h => h) hH rfl ?y2 ?r2
    case y2 => intro W hSw; go_simp; try with_reducible rfl
    try simp only [Act.put, List.setIfInBounds_toArray, List.set_cons_zero, List.set_cons_succ]
    refine takeH 3 (v := ?v3) rfl (by kernel_rfl) (by kernel_rfl) (by kernel_rfl) (fun _ _ _ h => h) hH rfl ?y3 ?r3
    case y3 => intro W hSw; go_simp; try with_reducible rfl
    try simp only [Act.put, List.setIfInBounds_toArray, List.set_cons_zero, List.set_cons_succ]
    refine takeH 5 (v := ?v5) rfl (by kernel_rfl) (by kernel_rfl) (by kernel_rfl) (fun _ _ _ h => h) hH rfl ?y5 ?r5
    case y5 => intro W hSw; go_simp; try with_reducible rfl
    try simp only [Act.put, List.setIfInBounds_toArray, List.set_cons_zero, List.set_cons_succ]
    refine takeH 6 (v := ?v6) rfl (by kernel_rfl) (by kernel_rfl) (by kernel_rfl) (fun _ _ _ h => h) hH rfl ?y6 ?r6
    case y6 => intro W hSw; go_simp; try with_reducible rfl
    try simp only [Act.put, List.setIfInBounds_toArray, List.set_cons_zero, List.set_cons_succ]
    refine takeH 7 (v := ?v7) rfl (by kernel_rfl) (by kernel_rfl) (by kernel_rfl) (fun _ _ _ h => h) hH rfl ?y7 ?r7
    case y7 => intro W hSw; go_simp; try with_reducible rfl
    try simp only [Act.put, List.setIfInBounds_toArray, List.set_cons_zero, List.set_cons_succ]
    refine takeH 8 (v := ?v8) rfl (by kernel_rfl) (by kernel_rfl) (by kernel_rfl) (fun _ _ _ h => h) hH rfl ?y8 ?r8
    case y8 => intro W hSw; go_simp; try with_reducible rfl
    try simp only [Act.put, List.setIfInBounds_toArray, List.set_cons_zero, List.set_cons_succ]
    refine callH 0 rfl (by kernel_rfl) rfl (fun K hK => ?_)
    go_simp
    refine hK.out _ _ trivial (fun hH => ?_)
    clear hK K
    try simp only [Act.put, List.setIfInBounds_toArray, List.set_cons_zero, List.set_cons_succ]
    have hga : w4.grownBy ((w4.alloc (.cells #[] 64)).drew) none := grownBy_drewN (World.grownBy_alloc w4 (.cells #[] 64) none) 1
    have hbn : Bld 64 4 ((w4.alloc (.cells #[] 64)).drew) w1.heap.size (.slice (some ⟨w4.heap.size, 0, none⟩) 0 0) [] := Bld.nil (World.ownsRow_made w4 #[] 0 (show w1.heap.size ≤ w4.heap.size by omega) (by simp) (by simp))
    have hza : ((w4.alloc (.cells #[] 64)).drew).heap.size = w4.heap.size + 1 := by show (w4.alloc (.cells #[] 64)).heap.size = _; rw [World.size_alloc]
    have hA1 := HA.out.grown hga (fun r e => by cases e)
    have hB1 := HB.out.grown hga (fun r e => by cases e)
    generalize (w4.alloc (.cells #[] 64)).drew = w5 at *
    refine callH 4 rfl (by kernel_rfl) rfl (fun K hK => ?_)
    refine op_app_rows Tryz.underlying24 vertex_inf rfl (by decide) (by decide) w5 (.tmp 64) (.tmp 67) rfl w1.heap.size (.slice (some ⟨w4.heap.size, 0, none⟩) 0 0) (.slice (some ⟨gb, 0, none⟩) k cg) [] _ fpA rfl hbn rfl hA1 (fun e he => Hszs.out e (List.mem_of_mem_take he)) (fun r hr => ⟨(HAf.out r hr).1, fun e => by have := (HAf.out r hr).2; simp [Value.ownBlock] at e; omega⟩) (by simp; omega) (by omega) ?_
    intro v6 w6 hbl6 hg6 hlo6
    rw [List.nil_append] at hbl6
    have hB2 := hB1.grown hg6 (fun r e hm => by have := (HBf.out r hm).2; simp [Value.ownBlock] at e; omega)
    have hs6 := hg6.size
    refine hK.out _ _ trivial (fun hH => ?_)
    clear hK K
    try simp only [Act.put, List.setIfInBounds_toArray, List.set_cons_zero, List.set_cons_succ]
    refine callH 9 rfl (by kernel_rfl) rfl (fun K hK => ?_)
    refine op_app_rows Tryz.underlying24 vertex_inf rfl (by decide) (by decide) w6 (.tmp 68) (.tmp 72) rfl w1.heap.size v6 (.slice (some ⟨gb, o2, none⟩) (g.length - (k + 1)) (cg - (k + 1))) _ _ fpB rfl hbl6 (by first | rfl | (rw [← hif]; rfl)) hB2 (fun e he => Hszs.out e (List.mem_of_mem_drop he)) (fun r hr => ⟨(HBf.out r hr).1, fun e => by
      have := (HBf.out r hr).2
      rcases hlo6 r e with h | h
      · simp [Value.ownBlock] at h; omega
      · omega⟩) (by simp; omega) (by omega) ?_
    intro v7 w7 hbl7 hg7 hlo7
    refine hK.out _ _ trivial (fun hH => ?_)
    clear hK K
    try simp only [Act.put, List.setIfInBounds_toArray, List.set_cons_zero, List.set_cons_succ]
    refine takeH 10 (v := ?v10) rfl (by kernel_rfl) (by kernel_rfl) (by kernel_rfl) (fun _ _ _ h => h) hH rfl ?y10 ?r10
    case y10 => intro W hSw; go_simp; try with_reducible rfl
    try simp only [Act.put, List.setIfInBounds_toArray, List.set_cons_zero, List.set_cons_succ]
    refine wpAnyH_done (by kernel_rfl) ?_ _
    try simp only [Act.put]
    have hv6 : ∀ q, v6.ownBlock = some q → w4.heap.size ≤ q := fun q e => by
      rcases hlo6 q e with h | h
      · simp [Value.ownBlock] at h; omega
      · omega
    have hr5 := (Hr4.out.kept hga (fun q e => by cases e)).kept hg6 (fun q e => by have h : w4.heap.size = q := (by simpa [Value.ownBlock] using e); omega)
    have hoc7 := ((Hoc4.out.kept hga (by cases (Value.slice ac c.length cc).ownBlock <;> simp)).kept hg6 (.inr (fun e => by have h : w4.heap.size < w1.heap.size := Hcb.out _ e; omega))).kept hg7 (by
      cases hvc : (Value.slice ac c.length cc).ownBlock with
      | none => exact .inl rfl
      | some q => exact .inr fun e => by have := Hcb.out q hvc; have := hv6 q e.symm; omega)
    have Hr7 := Lib.hid (hr5.kept hg7 (fun q e => by have := hv6 q e; omega))
    have Hoc7 := Lib.hid hoc7
    have Hg7 := Lib.hid (grown_row (grown_row (grown_row Hg4.out hga (fun q e => by cases e)) hg6 (fun q e => by have h : w4.heap.size = q := (by simpa [Value.ownBlock] using e); omega)) hg7 (fun q e => by have := hv6 q e; omega))
    obtain ⟨fp, h1, h2⟩ := hbl7.rd
    have hgr : Gr w7 (g.take k ++ g.drop (k + 1)) v7 fp := by unfold Gr rowsD; rw [List.map_append, List.map_append, List.map_take, List.map_take, List.map_drop, List.map_drop]; exact h1
    have Hgr := Lib.hid hgr
    have Hfp := Lib.hid h2
    have Hps7 := Lib.hid (show ∀ x ∈ g.take k ++ g.drop (k + 1), x.ps.length ≤ 100 from fun x hx => by
      rcases List.mem_append.1 hx with hx | hx
      · exact Hps.out x (List.mem_of_mem_take hx)
      · exact Hps.out x (List.mem_of_mem_drop hx))
    clear hgr h1 h2 hoc7 hr5 hbl7 hbl6 hB2 hA1 hB1 hg7 hg6 hga
    go_wp2
    go_ret2
    exact ⟨_, c, v7, _, fp, p2 + 1 + 1, rfl, Hoc7.out, by omega, Hgr.out, fun r hr => Nat.le_trans hs1 (Hfp.out r hr), by rw [List.length_append, List.length_take, List.length_drop]; omega, Hps7.out, Hr7.out, by omega, Hg7.out⟩
  have e4 : (s == 4) = false := by rw [beq_eq_false_iff_ne]; exact h4
  clear h4
  by_cases h5 : s = 5
  · subst h5
    have hk' : k < (g.map Vx.fd).length := by simpa using hk
    have he : (g.map Vx.fd)[k] = g[k].fd := by simp
    obtain ⟨q0, q1, _, q3, _⟩ := vx_cells Hog4.out hk
    obtain ⟨pa, pc, q2, ho2, _, hne2, _⟩ := Hog4.out.fieldL (k := k) (j := 2) hk' (by rw [he]; simp [Vx.fd]) (xs := g[k].ps) (by simp only [he]; rfl)
    obtain ⟨fp2, hr2, hf2⟩ := Rd.of_own ho2
    have hcr : CellsRd w4 w1.heap.size (Value.slice (some ⟨gb, 0, none⟩) g.length cg).ownBlock [.int .i64 g[k].r, .int .i64 g[k].a, .slice pa g[k].ps.length pc, .int .i64 g[k].d] [.i g[k].r, .i g[k].a, intsD g[k].ps, .i g[k].d] := by
      intro j hj
      match j, hj with
      | 0, _ => exact ⟨_, [], rfl, .i _, by simp⟩
      | 1, _ => exact ⟨_, [], rfl, .i _, by simp⟩
      | 2, _ => exact ⟨_, fp2, rfl, hr2, fun r hr => ⟨(hf2 r hr).1, fun e => hne2 ((hf2 r hr).2.trans e.symm)⟩⟩
      | 3, _ => exact ⟨_, [], rfl, .i _, by simp⟩
    have Hcr := Lib.hid hcr; clear hcr ho2 hr2 hf2 hne2
    have Hbl := Lib.hid Hog4.out.bld
    have hel : ((g.map Vx.fd).map fun e => e.map Fd.dt).length ≤ 1048576 := by rw [List.length_map, List.length_map]; omega
    have Hex := Lib.hid (show ((g ++ [g[k]]).map Vx.fd).map (fun e => e.map Fd.dt) = (g.map Vx.fd).map (fun e => e.map Fd.dt) ++ [[.i g[k].r, .i g[k].a, intsD g[k].ps, .i g[k].d]] by rw [List.map_append, List.map_append]; rfl)
    have Hlt4 := Lib.hid Hog4.out.lt
    have hB4 : w1.heap.size ≤ w4.heap.size := by omega
    have hpk := Hps.out _ (List.getElem_mem hk)
    have Hap := Lib.hid (Hog4.out.apartI Hoc4.out (by decide))
    clear Hog4 he hk'
    generalize (g.map Vx.fd).map (fun e => e.map Fd.dt) = es at *
    generalize hy : g[k] = y at *
    go_wp2_with (at_builtin; refine wpList_push_row Tryz.underlying24 vertex_inf rfl (by decide) (by decide) rfl (.tmp 76) (.tmp 81) rfl w1.heap.size (.slice (some ⟨gb, 0, none⟩) g.length cg) es _ _ _ rfl rfl (by intro u hu; simp at hu; rcases hu with rfl | rfl | rfl | rfl <;> rfl) rfl Hbl.out rfl Hcr.out hel rfl hB4 ?_; intro v8 w8 hbl8 hg8 hat8)
    go_ret2
    obtain ⟨fp, h1, h2⟩ := hbl8.rd
    have hgr : Gr w8 (g ++ [y]) v8 fp := by unfold Gr rowsD; rw [Hex.out]; exact h1
    exact ⟨_, c, v8, g ++ [y], fp, p2 + 1 + 1, rfl, Hoc4.out.kept hg8 Hap.out, by omega, hgr, fun r hr => Nat.le_trans hs1 (h2 r hr), by rw [List.length_append]; simp; omega, fun x hx => by
      rcases List.mem_append.1 hx with hx | hx
      · exact Hps.out x hx
      · simp at hx; subst hx; exact hpk, Hr4.out.kept hg8 (fun q e => by have := (Hbl.out.lt q e).1; omega), by omega, grown_row Hg4.out hg8 (fun q e => by have := (Hbl.out.lt q e).1; omega)⟩
  have e5 : (s == 5) = false := by rw [beq_eq_false_iff_ne]; exact h5
  clear h5
  by_cases h6 : s = 6
  · subst h6
    go_wp2_with fail
    refine (drawCommittee R (p2 + 1 + 1) _ (by omega) Hr4.out (by omega)).mono ?_
    rintro e w5 ⟨u, c5, p5, rfl, hu, hul, _, hr5, hp5, hg5⟩
    have hs5 := hg5.size
    have Hog5 := Lib.hid (Hog4.out.same fun b h1 h2 => hg5.block b (by omega) (fun e => by cases e; omega))
    obtain ⟨au, cu, rfl, _, _⟩ := hu.ints
    have Hu := Lib.hid (hu.mono (show w.heap.size ≤ w4.heap.size by omega)); clear hu
    have Hr5 := Lib.hid hr5; clear hr5
    have Hg5 := Lib.hid (grownBy_trans Hg4.out hg5); clear hg5
    go_wp2
    go_ret2
    obtain ⟨fp, h1, h2⟩ := ownR_gr Hog5.out
    exact ⟨_, c5, _, g, fp, p5, rfl, Hu.out, hul, h1, fun r hr => Nat.le_trans hs1 (h2 r hr), by omega, Hps.out, Hr5.out, by omega, Hg5.out⟩
  have e6 : (s == 6) = false := by rw [beq_eq_false_iff_ne]; exact h6
  clear h6
  go_wp2
  go_ret2
  obtain ⟨fp, h1, h2⟩ := ownR_gr Hog4.out
  exact ⟨_, c, _, g, fp, p2 + 1 + 1, rfl, Hoc4.out, by omega, h1, fun r hr => Nat.le_trans hs1 (h2 r hr), by omega, Hps.out, Hr4.out, by omega, Hg4.out⟩

end Go.Proofs.YtjaacdapibokiabGreatDoor

/- append(s, make([]int, n)...) at a list of ints of the call's own; condition: both are shorter than 2^20. -/
namespace Go.Proofs.YtjaacdapibokiabGreatDoor
open Go.RowKit

theorem zeros_list (n : Nat) : (Builtin.zeroCells (Value.int .i64 0).cells n).toList = (List.replicate n (0 : Int)).map (Value.int .i64) := by
  apply List.ext_getElem
  · simp [Builtin.zeroCells, Value.cells]
  · intro j h1 h2
    simp [Builtin.zeroCells, Value.cells]
    rw [Nat.mod_one]; rfl
theorem own_newZ {E : TypeId} {w : World} {B cap n : Nat} {xs : List Int} (hB : B ≤ w.heap.size) (h1 : xs.length + n ≤ cap) (h2 : cap ≤ maxLen) (c : Array Value) (hc : c.toList = (xs.map (Value.int .i64)) ++ ((List.replicate n (0 : Int)).map (Value.int .i64)) ++ (List.replicate (cap - (xs.length + n)) (0 : Int)).map (Value.int .i64)) :
    Own E (w.drew.alloc (.cells c E)) B (.slice (some ⟨w.heap.size, 0, none⟩) (xs.length + n) cap) (xs ++ List.replicate n 0) := by
  have hl : (xs ++ List.replicate n (0 : Int)).length = xs.length + n := by simp
  refine ⟨by simp, .inr ⟨w.heap.size, cap, c, by rw [hl], hB, heap_alloc_new w.drew _, by rw [hl]; exact h1, h2, ?_, ?_⟩⟩
  · rw [← Array.length_toList, hc]; simp; omega
  · rw [hc, Nat.mul_one, ← List.map_append]
    rw [show (xs ++ List.replicate n (0 : Int)).length = ((xs ++ List.replicate n (0 : Int)).map (Value.int .i64)).length by simp]
    exact List.take_left
theorem run_appZ {P : Program} {T E tn : TypeId} (hT : IntT P T E) (htn : P.underlying tn = some (.int .i64)) (ty : TypeId) {w : World} {B : Nat} {v : Value} {xs : List Int} (n : Nat) (h0 : 0 < n) (hown : Own E w B v xs)
    (hlen : xs.length + n ≤ 1048576) (hB : B ≤ w.heap.size) :
    ∃ v' w', (Builtin.append_ #[T, tn] ty #[v, .int .i64 n]).run P w = .ok v' w' ∧ Own E w' B v' (xs ++ List.replicate n 0) ∧ w.grownBy w' v.ownBlock := by
  obtain ⟨i, hi, hz, hsz, hby⟩ := info_parts hT.info
  have ht := hT.sl
  have hml : (1048576 : Nat) ≤ maxLen := by unfold maxLen; omega
  have hn : n ≠ 0 := by omega
  have hw : IntKind.i64.wrap (n : Int) = n := by rw [IntKind.wrap_i64]; omega
  have hneg : ¬ ((n : Int) < 0) := by omega
  have hns : ¬ (n * i.size = 0) := Nat.mul_ne_zero hn (by omega)
  have h48i : ¬ (281474976710656 < (n : Int) * (i.bytes : Int)) := by rw [hby]; omega
  have hown' := hown
  rcases hown'.2 with ⟨rfl, hx⟩ | ⟨g, cap, cur, rfl, hbg, hg, hnc, hcm, hcs, htake⟩
  · obtain rfl : xs = [] := List.eq_nil_of_length_eq_zero hx
    have hge := grownCap_ge w n 0 E
    have hcm : grownCap w n 0 E ≤ maxLen := grownCap_le_maxLen w n 0 E (by simp at hlen; omega)
    have hr := Go.Lib.run_append_nil_zeros (P := P) w T tn ty E i (.int .i64 0) .i64 .i64 ht htn hi hz n h0 (by omega) (by simp at hlen; omega) (by rw [hby]; simp at hlen; omega)
    refine ⟨_, _, hr, ?_, ⟨rfl, rfl, rfl, by simp, fun k hk _ => by first | exact heap_alloc_old w.drew _ hk | exact heap_alloc_old w.drew _ k hk⟩⟩
    have := own_newZ (E := E) (w := w) (B := B) (cap := grownCap w n 0 E) (n := n) (xs := []) hB (by simpa using hge) hcm (Builtin.zeroCells (Value.int .i64 0).cells n ++ Builtin.zeroCells (Value.int .i64 0).cells (grownCap w n 0 E - n)) (by rw [Array.toList_append, zeros_list, zeros_list]; simp)
    simpa using this
  · by_cases hroom : xs.length + n ≤ cap
    · have hst := run_storeCells_at P g (xs.length * i.size) E (Builtin.zeroCells (Value.int .i64 0).cells n).toList 0 cur w hg (by rw [hsz, zeros_list, hcs]; simp; omega) (by rw [zeros_list]; intro u hu; obtain ⟨_, _, rfl⟩ := List.mem_map.1 hu; rfl)
      simp only [Nat.add_zero] at hst
      have hst2 : (storeCells ⟨g, xs.length * i.size, none⟩ (Builtin.zeroCells (Value.int .i64 0).cells n).toList).run P w = .ok () _ := hst
      refine ⟨.slice (some ⟨g, 0, none⟩) (xs.length + n) cap, w.setRow g (cur.toList.take (xs.length * i.size) ++ (Builtin.zeroCells (Value.int .i64 0).cells n).toList ++ cur.toList.drop (xs.length * i.size + (Builtin.zeroCells (Value.int .i64 0).cells n).toList.length)).toArray, ?_, ?_, ?_⟩
      · simp [Builtin.append_, run_underlying ht, run_underlying htn, sizeOf, typeInfo, zeroValue, hi, hz, asInt, asIntOf, hw, hneg, hns, h48i, hroom, Addr.add_lit, hst2]
      · have hl : (xs ++ List.replicate n (0 : Int)).length = xs.length + n := by simp
        refine ⟨by simp, .inr ⟨g, cap, _, by rw [hl], hbg, setRow_heap w g cur _ E _ hg, by rw [hl]; exact hroom, hcm, ?_, ?_⟩⟩
        · rw [hsz, zeros_list]
          simp only [List.size_toArray, List.length_append, List.length_take, List.length_drop, Array.length_toList, List.length_map, List.length_replicate]
          omega
        · rw [hsz, hl, zeros_list]
          rw [Nat.mul_one] at htake
          rw [Nat.mul_one, Nat.mul_one, htake, ← List.map_append]
          rw [show xs.length + n = ((xs ++ List.replicate n (0 : Int)).map (Value.int .i64)).length by simp]
          exact List.take_left
      · exact ⟨rfl, rfl, rfl, by simp, fun k _ hk => setRow_other w g k _ (fun e => hk (by simp [Value.ownBlock, e]))⟩
    · have holds : ∀ j u, (xs.map (Value.int .i64))[j]? = some u → w.cell? ((⟨g, 0, none⟩ : Addr).add j) = some u := World.ownsRow.cells hown (g := g) rfl
      have hfo := run_firstCells_some (P := P) w.drew i.size xs.length ⟨g, 0, none⟩ xs.length cap (xs.map (Value.int .i64)) (by rw [hsz]; simp) (by simpa using holds)
      have h63' : ¬ (9223372036854775807 < ((xs.length : Int) + (n : Int))) := by omega
      have hgf := growslice_fits (need := xs.length + n) (old := cap) (bytes := i.bytes) (by omega) (by rw [hby]; omega)
      have h48' : ¬ (281474976710656 < Builtin.nextslicecap (xs.length + n) cap * i.bytes) := by omega
      have hge := grownCap_ge w (xs.length + n) cap E
      have hcm' : grownCap w (xs.length + n) cap E ≤ maxLen := grownCap_le_maxLen w (xs.length + n) cap E (by omega)
      refine ⟨.slice (some ⟨w.heap.size, 0, none⟩) (xs.length + n) (grownCap w (xs.length + n) cap E), w.drew.alloc (.cells ((xs.map (Value.int .i64)).toArray ++ Builtin.zeroCells (Value.int .i64 0).cells n ++ Builtin.zeroCells (Value.int .i64 0).cells (grownCap w (xs.length + n) cap E - (xs.length + n))) E), ?_, ?_, ?_⟩
      · simp [Builtin.append_, run_underlying ht, run_underlying htn, sizeOf, typeInfo, zeroValue, hi, hz, asInt, asIntOf, hw, hneg, hns, h48i, hroom, h63', h48', Question.forced, hfo, newRow, grownCap]
      · refine own_newZ hB hge hcm' _ ?_
        rw [Array.toList_append, Array.toList_append, zeros_list, zeros_list]
      · exact ⟨rfl, rfl, rfl, by simp, fun k hk _ => by first | exact heap_alloc_old w.drew _ hk | exact heap_alloc_old w.drew _ k hk⟩
theorem wpList_appZ {P : Program} {T E tn : TypeId} (hT : IntT P T E) (htn : P.underlying tn = some (.int .i64)) {w : World} {ops : Array Oper} {rest : List Oper} {o : Oper} {a : Act} {Q : Exit → Act → World → Prop} (hgd : o.guard = none) (s x : Operand)
    (ho : o.op = .call { callee := .builtin .append, args := #[s, x], argTypes := #[T, tn] }) (B : Nat) (v : Value) (xs : List Int) (n : Nat) (h0 : 0 < n) (hs : a.eval s = v) (hx : a.eval x = .int .i64 n) (hown : Own E w B v xs)
    (hlen : xs.length + n ≤ 1048576) (hB : B ≤ w.heap.size)
    (h : ∀ v' w', Own E w' B v' (xs ++ List.replicate n 0) → w.grownBy w' v.ownBlock → wpList P ops Q rest (a.put o.dst v') w') : wpList P ops Q (o :: rest) a w := by
  obtain ⟨v', w', hr, h1, h2⟩ := run_appZ hT htn o.type n h0 hown hlen hB
  exact Go.Lib.wpList_append_run w hgd s x T tn ho v (.int .i64 n) hs hx v' w' hr (h v' w' h1 h2)

end Go.Proofs.YtjaacdapibokiabGreatDoor

/- The draws of leaders and of waves: what is drawn reads as lists in new memory; each by a walk of its text; condition: the code is shorter than 2^20. -/
namespace Go.Proofs.YtjaacdapibokiabGreatDoor
open Go.RowKit

set_option maxHeartbeats 1000000 in
theorem drawLeaders (R p : Nat) (m : Int) (ac : Option Addr) (capc : Nat) (nc : Nat) (w : World) (hp : p ≤ 1000000) (hm0 : 0 ≤ m) (hm1 : m ≤ 100) (hnc : nc ≤ 1000) (hr : Rdr w R p) (hR : R < w.heap.size) :
    Calls Tryz.prog 43 #[.pointer (some ⟨R, 0, none⟩), .slice ac nc capc, .int .i64 m] w fun e w' => ∃ v xs p', e = .returned v ∧ Own 3 w' w.heap.size v xs ∧ xs.length ≤ m.toNat + 15 ∧ Rdr w' R p' ∧ p' ≤ p + 200 ∧ w.grownBy w' (some R) := by
  obtain ⟨n, rfl⟩ := Int.eq_ofNat_of_zero_le hm0
  have hn : n ≤ 100 := by omega
  rw [show ((n : Int)).toNat = n from Int.toNat_natCast n]
  have Hr1 := Lib.hid (hr.alloc (.cells #[] 3)); clear hr
  go_enter Tryz.func43, Tryz.ntmps43
  go_wp2_with fail
  go_loopw [7, 8] (fun v i wr => ∃ (xs : List Int) (k : Nat), k ≤ n ∧ xs.length ≤ k ∧ i = .int .i64 (k : Nat) ∧ Own 3 wr w.heap.size v xs ∧ Rdr wr R (p + k) ∧ w.grownBy wr (some R)) (fun _ i _ => n - (intOf i).toNat)
  case atStart => exact ⟨[], 0, by simp, by simp, rfl, own_empty _ _ (Nat.le_refl _), Hr1.out, World.grownBy_alloc _ _ _⟩
  case round =>
    obtain ⟨xs, k, hkn, hxk, rfl, hown, hrd, hgr⟩ := hrel
    have Hrd := Lib.hid hrd; clear hrd
    have Hown := Lib.hid hown; clear hown
    by_cases hlt : k < n
    · go_wp2_with fail
      all_goals (
        refine (pick_any R _ (p + k) _ (by omega) Hrd.out (by omega)).mono ?_
        rintro e w3 ⟨x, rfl, hx0, hx1, hr3, hg3⟩
        have Hr3 := Lib.hid hr3; clear hr3
        have Hg3 := Lib.hid (grownBy_trans hgr hg3)
        have Ho3 := Lib.hid (Hown.out.kept hg3 (.inr (fun e => by have := (Hown.out.lt R e).1; omega)))
        have hB := Hg3.out.size
        clear hg3
        go_wp2_with (at_builtin; refine wpList_push TI' rfl (.tmp 15) (.tmp 21) rfl w.heap.size _ xs _ rfl Ho3.out (by omega) rfl hB ?_; intro v' w5 hown5 hg5)
        go_roundw
        case rel => exact ⟨_, k + 1, by omega, by simp; omega, by go_num, hown5, Hr3.out.kept hg5 (fun g e => by have := (Ho3.out.lt g e).1; omega), grown_row Hg3.out hg5 (fun g e => (Ho3.out.lt g e).1)⟩
        case measure => simp [intOf]; omega)
    · have hk : k = n := by omega
      have hkn' : (k : Int) = n := by omega
      go_wp2_with fail
      refine (pick_any R 24 (p + k) _ (by omega) Hrd.out (by omega)).mono ?_
      rintro e w3 ⟨x, rfl, hx0, hx1, hr3, hg3⟩
      have Hr3 := Lib.hid hr3; clear hr3
      have Hg3 := Lib.hid (grownBy_trans hgr hg3)
      have Ho3 := Lib.hid (Hown.out.kept hg3 (.inr (fun e => by have := (Hown.out.lt R e).1; omega)))
      have hB := Hg3.out.size
      clear hg3
      have Hk := Lib.hid hk; clear hk hkn'
      by_cases h0 : x = 0
      · subst h0
        go_wp2_with (at_builtin; refine wpList_push TI' rfl (.tmp 27) (.tmp 30) rfl w.heap.size _ xs _ rfl Ho3.out (by omega) rfl hB ?_; intro v' w5 hown5 hg5)
        go_ret
        exact ⟨_, _, _, rfl, hown5, by simp; omega, Hr3.out.kept hg5 (fun g e => by have := (Ho3.out.lt g e).1; omega), by omega, grown_row Hg3.out hg5 (fun g e => (Ho3.out.lt g e).1)⟩
      have h0' : (x == 0) = false := by rw [beq_eq_false_iff_ne]; exact h0
      by_cases h1 : x = 1
      · subst h1
        go_wp2_with (at_builtin; refine wpList_appZ TI' Tryz.underlying3 rfl (.tmp 34) (.const (.int .i64 15)) rfl w.heap.size _ xs 15 (by omega) rfl rfl Ho3.out (by omega) hB ?_; intro v' w5 hown5 hg5)
        go_ret
        exact ⟨_, _, _, rfl, hown5, by simp; omega, Hr3.out.kept hg5 (fun g e => by have := (Ho3.out.lt g e).1; omega), by omega, grown_row Hg3.out hg5 (fun g e => (Ho3.out.lt g e).1)⟩
      have h1' : (x == 1) = false := by rw [beq_eq_false_iff_ne]; exact h1
      go_wp2
      go_ret
      exact ⟨_, _, _, rfl, Ho3.out, by omega, Hr3.out, by omega, Hg3.out⟩

set_option maxHeartbeats 2000000 in
theorem drawWaves (R p : Nat) (w : World) (hp : p ≤ 1000) (hr : Rdr w R p) (hR : R < w.heap.size) :
    Calls Tryz.prog 25 #[.pointer (some ⟨R, 0, none⟩)] w fun e w' => ∃ ac cc c vg g fp al cl ls p', e = .returned (.tuple #[.slice ac c.length cc, vg, .slice al ls.length cl]) ∧ Own 3 w' w.heap.size (.slice ac c.length cc) c ∧ c.length ≤ 11 ∧ Gr w' g vg fp ∧ (∀ r ∈ fp, w.heap.size ≤ r) ∧ g.length ≤ 281 ∧ (∀ x ∈ g, x.ps.length ≤ 100) ∧ Own 3 w' w.heap.size (.slice al ls.length cl) ls ∧ ls.length ≤ 22 ∧ Rdr w' R p' ∧ p' ≤ 200000 ∧ w.grownBy w' (some R) := by
  go_enter Tryz.func25, Tryz.ntmps25
  go_wp2_with fail
  refine (pick_any R 13 p _ (by omega) hr (by omega)).mono ?_
  rintro e w2 ⟨n, rfl, hn0, hn1, hr2, hg2⟩
  have hs2 := hg2.size
  have Hr2 := Lib.hid hr2; clear hr2 hr
  have Hg2 := Lib.hid hg2; clear hg2
  have hwn : IntKind.i64.wrap (1 + n) = 1 + n := IntWalk.i64_in _ (by omega)
  go_wp2_with fail
  refine (drawSpoilt R (p + 1) (1 + n) w2 (by omega) (by omega) (by omega) Hr2.out (by omega)).mono ?_
  rintro e w3 ⟨vc, c, vg, g, fp, p3, rfl, hoc, hcl, hgr, hfp, hgl, hps, hr3, hp3, hg3⟩
  have hs3 := hg3.size
  obtain ⟨ac, cc, rfl, _, _⟩ := hoc.ints
  have Hoc3 := Lib.hid hoc; clear hoc
  have Hgr3 := Lib.hid hgr; clear hgr
  have Hfp := Lib.hid hfp; clear hfp
  have Hr3 := Lib.hid hr3; clear hr3
  have Hg3 := Lib.hid (grownBy_trans Hg2.out hg3); clear hg3
  go_wp2_with fail
  refine (pick_any R 8 p3 _ (by omega) Hr3.out (by omega)).mono ?_
  rintro e w4 ⟨x, rfl, hx0, hx1, hr4, hg4⟩
  have hs4 := hg4.size
  have Hoc4 := Lib.hid (Hoc3.out.kept hg4 (.inr fun e => by have := (Hoc3.out.lt R e).1; omega))
  have Hgr4 := Lib.hid (show Gr w4 g vg fp from Rd.grown hg4 Hgr3.out (fun r e hm => by cases e; have := Hfp.out R hm; omega))
  have Hr4 := Lib.hid hr4; clear hr4
  have Hg4 := Lib.hid (grownBy_trans Hg3.out hg4); clear hg4
  have hx7 : x ≤ 7 := by omega
  go_wp2_with fail
  refine (drawLeaders R (p3 + 1) x ac cc c.length w4 (by omega) hx0 (by omega) (by omega) Hr4.out (by omega)).mono ?_
  rintro e w5 ⟨vl, ls, p5, rfl, hol, hll, hr5, hp5, hg5⟩
  have hs5 := hg5.size
  obtain ⟨al, cl, rfl, _, _⟩ := hol.ints
  have Hoc5 := Lib.hid (Hoc4.out.kept hg5 (.inr fun e => by have := (Hoc4.out.lt R e).1; omega))
  have Hgr5 := Lib.hid (show Gr w5 g vg fp from Rd.grown hg5 Hgr4.out (fun r e hm => by cases e; have := Hfp.out R hm; omega))
  have Hol := Lib.hid hol; clear hol
  have Hr5 := Lib.hid hr5; clear hr5
  have Hg5 := Lib.hid (grownBy_trans Hg4.out hg5); clear hg5
  go_wp2
  refine bodyPost_ret (v := .tuple #[.slice ac c.length cc, vg, .slice al ls.length cl]) (by simp [results, Tryz.f25, go_sem]) rfl ?_
  exact ⟨ac, cc, c, vg, g, fp, al, cl, ls, p5, rfl, Hoc5.out.mono (by omega), hcl, Hgr5.out, fun r hr => Nat.le_trans (by omega) (Hfp.out r hr), hgl, hps, Hol.out.mono (by omega), by omega, Hr5.out, by omega, Hg5.out⟩

end Go.Proofs.YtjaacdapibokiabGreatDoor

/- The draws of chapter 22: what is drawn reads as lists in new memory; each by a walk of its text; condition: the code is shorter than 2^20. -/
namespace Go.Proofs.YtjaacdapibokiabGreatDoor
open Go.RowKit

theorem spec_DrawOrderSlots (a : Option Addr) (cap : Nat) (zs : List Int) (w : World) (h : CodeAt w a cap zs) :
    Calls Tryz.prog 6 #[.slice a zs.length cap] w fun e w' => ∃ ac cc c vg g fp al cl ls, e = .returned (.tuple #[.slice ac c.length cc, vg, .slice al ls.length cl]) ∧ Own 3 w' w.heap.size (.slice ac c.length cc) c ∧ c.length ≤ 11 ∧ Gr w' g vg fp ∧ (∀ r ∈ fp, w.heap.size ≤ r) ∧ g.length ≤ 281 ∧ (∀ x ∈ g, x.ps.length ≤ 100) ∧ Own 3 w' w.heap.size (.slice al ls.length cl) ls ∧ ls.length ≤ 22 ∧ Below w.heap.size w w' := by
  go_enter Tryz.func6, Tryz.ntmps6
  go_wp2_with fail
  refine (open_any a cap zs _ h).mono ?_
  rintro e w1 ⟨R, rfl, hR0, hR1, hr1, hb1⟩
  have Hr1 := Lib.hid hr1; clear hr1
  have Hb1 := Lib.hid hb1; clear hb1
  have hsz := Hb1.out.size
  go_wp2_with fail
  refine (drawWaves R 0 _ (by omega) Hr1.out hR1).mono ?_
  rintro e w2 ⟨ac, cc, c, vg, g, fp, al, cl, ls, p2, rfl, hoc, hcl, hgr, hfp, hgl, hps, hol, hll, hr2, hp2, hg2⟩
  have Hoc := Lib.hid hoc; have Hgr := Lib.hid hgr; have Hol := Lib.hid hol; have Hfp := Lib.hid hfp
  have Hb2 := Lib.hid (Hb1.out.grown hg2 Hb1.out.size (fun g e => by cases e; exact hR0))
  clear hoc hgr hol hfp hr2 hg2
  go_wp2
  refine bodyPost_ret (v := .tuple #[.slice ac c.length cc, vg, .slice al ls.length cl]) (by simp [results, Tryz.f6, go_sem]) rfl ?_
  exact ⟨ac, cc, c, vg, g, fp, al, cl, ls, rfl, Hoc.out.mono (by omega), hcl, Hgr.out, fun r hr => Nat.le_trans (by omega) (Hfp.out r hr), hgl, hps, Hol.out.mono (by omega), hll, Hb2.out⟩

end Go.Proofs.YtjaacdapibokiabGreatDoor

/- The reference's tests of leaders and its leader vertex, by walks of its texts; conditions: lists are shorter than 2^40. -/
namespace Go.Proofs.YtjaacdapibokiabGreatDoor
open Go.RowKit

theorem sameBelow {P : Program} {f : FuncId} {args : Array Value} {w : World} {v : Value} (h : Calls P f args w fun e w' => e = .returned v ∧ w = w') : Calls P f args w fun e w' => e = .returned v ∧ Below w.heap.size w w' :=
  h.mono (by rintro e w' ⟨rfl, rfl⟩; exact ⟨rfl, Below.refl _ _⟩)
/-- Whether the leader of wave i + 1 is a member. -/
def okLd (n : Nat) (ls : List Int) (i : Nat) : Bool := decide (0 ≤ ls.getD i 0 ∧ ls.getD i 0 ≤ (n : Int) - 1)
def ldsB (n : Nat) (ls : List Int) : Bool := allB (okLd n ls) ls.length && decide (ls.length ≤ 15)
def lvB (c ls : List Int) : Bool := validB c && ldsB c.length ls
def waB (c : List Int) (g : List Vx) (ls : List Int) : Bool := graphB c g && ldsB c.length ls
theorem ldAt {n : Nat} {ls : List Int} (h : ldsB n ls = true) : ls.length ≤ 15 ∧ ∀ j (hj : j < ls.length), 0 ≤ ls[j] ∧ ls[j] < n := by
  unfold ldsB at h
  simp only [Bool.and_eq_true, decide_eq_true_eq] at h
  refine ⟨h.2, fun j hj => ?_⟩
  have := allB_upto h.1 j hj
  unfold okLd at this
  rw [getD_get hj, decide_eq_true_eq] at this
  omega

set_option maxHeartbeats 1000000 in
theorem spec_l21Leaders (ac : Option Addr) (capc : Nat) (n : Nat) (al : Option Addr) (cap : Nat) (ls : List Int) (w : World) (_hn : n ≤ 1099511627776) (hbig : ls.length ≤ 1099511627776) (hc : IntsAt w al ls) :
    Calls Tryz.prog 47 #[.slice ac n capc, .slice al ls.length cap] w fun e w' => e = .returned (.bool (ldsB n ls)) ∧ w = w' := by
  have Hc := Lib.hid hc; clear hc
  go_enter Tryz.func47, Tryz.ntmps47
  go_wp2
  go_loopw [5] (fun i wr => ∃ k : Nat, k ≤ ls.length ∧ i = .int .i64 k ∧ Hid (Upto (okLd n ls) k) ∧ w = wr) (fun i _ => ls.length - (intOf i).toNat)
  case atStart => exact ⟨0, by omega, rfl, Lib.hid (upto_zero _), rfl⟩
  case round =>
    obtain ⟨k, hk, rfl, hup, rfl⟩ := hrel
    by_cases hlt : k < ls.length
    · obtain ⟨b, off, rfl, hb, hat⟩ := Hc.out.cell (by omega)
      have hcell := hat k hlt
      have hgd := getD_get hlt
      have hok : okLd n ls k = decide (0 ≤ ls[k] ∧ ls[k] ≤ (n : Int) - 1) := by unfold okLd; rw [hgd]
      have Hok := Lib.hid hok
      clear hat hgd hok
      generalize ls[k] = x at *
      have HI := Lib.hid (fun W => spec_l6In x 0 ((n : Int) - 1) W)
      go_wp2_with fail
      refine (HI.out _).mono ?_
      rintro e w1 ⟨rfl, rfl⟩
      cases h1 : decide (0 ≤ x ∧ x ≤ (n : Int) - 1) with
      | false =>
        have hres := Lib.hid (show ldsB n ls = false by unfold ldsB; rw [allB_no hlt (Hok.out.trans h1)]; rfl)
        clear h1
        go_wp2
        go_ret
        exact ⟨by rw [hres.out]; rfl, rfl⟩
      | true =>
        have Hs := Lib.hid (upto_step hup.out (Hok.out.trans h1))
        clear h1
        go_wp2
        go_roundw
        case rel => exact ⟨k + 1, by omega, by go_num, Lib.hid Hs.out, trivial⟩
        case measure => simp [intOf]; omega
    · have hres := Lib.hid (show ldsB n ls = decide (ls.length ≤ 15) by unfold ldsB; rw [allB_yes hup.out (by omega)]; rfl)
      go_wp2
      go_ret
      exact ⟨ret_bool (by rw [hres.out, Bool.eq_iff_iff, decide_eq_true_iff, decide_eq_true_iff]; omega), rfl⟩

theorem spec_l21Ok (ac : Option Addr) (capc : Nat) (c : List Int) (g : List Vx) (v : Value) (fp : List Nat) (al : Option Addr) (cap : Nat) (ls : List Int) (w : World) (hn : c.length ≤ 1099511627776) (hbig : g.length ≤ 1099511627776) (hps : ∀ x ∈ g, x.ps.length ≤ 1099511627776) (hl : ls.length ≤ 1099511627776) (hc : IntsAt w ac c) (hg : Gr w g v fp) (hi : IntsAt w al ls) :
    Calls Tryz.prog 28 #[.slice ac c.length capc, v, .slice al ls.length cap] w fun e w' => e = .returned (.bool (waB c g ls)) ∧ Below w.heap.size w w' := by
  have HV := Lib.hid (spec_GraphValid ac capc c g v fp w hn hbig hps hc hg)
  have HL := Lib.hid (fun W h => spec_l21Leaders ac capc c.length al cap ls W hn hl h)
  have Hi := Lib.hid hi
  have Hres := Lib.hid (show waB c g ls = (graphB c g && ldsB c.length ls) from rfl)
  clear hc hg hi hps
  go_enter Tryz.func28, Tryz.ntmps28
  go_wp2_with fail
  refine HV.out.mono ?_
  rintro e w1 ⟨rfl, hb1⟩
  have Hb1 := Lib.hid hb1
  have Hi1 := Lib.hid (Hi.out.below hb1)
  clear hb1
  cases h1 : graphB c g with
  | false =>
    go_wp2
    go_ret
    exact ⟨ret_bool (by rw [Hres.out, h1]; rfl), Hb1.out⟩
  | true =>
  go_wp2_with fail
  refine (HL.out _ Hi1.out).mono ?_
  rintro e w2 ⟨rfl, rfl⟩
  go_wp2
  go_ret
  exact ⟨ret_bool (by rw [Hres.out, h1]; rfl), Hb1.out⟩

/-- The leader vertex of a wave, as an index. -/
def ldZ (g : List Vx) (ls : List Int) (wv : Nat) : Int := findZ g (2 * (wv : Int) - 1) (ls.getD (wv - 1) 0)

theorem spec_l21Leader (g : List Vx) (v : Value) (fp : List Nat) (al : Option Addr) (cap : Nat) (ls : List Int) (wv : Nat) (w : World) (hbig : g.length ≤ 1099511627776) (hw : 1 ≤ wv ∧ wv ≤ ls.length) (hl : ls.length ≤ 15) (hg : Gr w g v fp) (hi : IntsAt w al ls) :
    Calls Tryz.prog 75 #[v, .slice al ls.length cap, .int .i64 wv] w fun e w' => e = .returned (.int .i64 (ldZ g ls wv)) ∧ w = w' := by
  obtain ⟨hw1, hw2⟩ := hw
  obtain ⟨va, vc, rfl⟩ := hg.slice
  obtain ⟨b, off, rfl, hb, hat⟩ := hi.cell (by omega)
  have hcell := hat (wv - 1) (by omega)
  have hgd : ls.getD (wv - 1) 0 = ls[wv - 1] := getD_get (by omega)
  have HF := Lib.hid (spec_l11Find g _ fp (2 * (wv : Int) - 1) (ls[wv - 1]) w hbig hg)
  have Hz := Lib.hid (show ldZ g ls wv = findZ g (2 * (wv : Int) - 1) ls[wv - 1] by unfold ldZ; rw [hgd])
  clear hat hgd hg hi
  generalize ls[wv - 1] = x at *
  have e1 : IntKind.i64.wrap ((wv : Int) - 1) = wv - 1 := IntWalk.i64_in _ (by omega)
  have e2 : ((wv : Int) - 1).toNat = wv - 1 := by omega
  have e3 : 0 ≤ (wv : Int) - 1 := by omega
  have e4 : (wv : Int) - 1 < ls.length := by omega
  have e5 : 1 ≤ (wv : Int) := by omega
  have e6 : (wv : Int) ≤ 15 := by omega
  go_enter Tryz.func75, Tryz.ntmps75
  go_wp2_with fail
  refine HF.out.mono ?_
  rintro e w1 ⟨rfl, rfl⟩
  go_wp2
  go_ret
  exact ⟨by rw [Hz.out]; rfl, rfl⟩

end Go.Proofs.YtjaacdapibokiabGreatDoor

/- The reference's WaveLeader, by a walk of its text; conditions: lists are shorter than 2^40. -/
namespace Go.Proofs.YtjaacdapibokiabGreatDoor
open Go.RowKit

def wlB (c : List Int) (g : List Vx) (ls : List Int) (wave : Int) : Bool := waB c g ls && decide (1 ≤ wave ∧ wave ≤ ls.length)
def wlZ (c : List Int) (g : List Vx) (ls : List Int) (wave : Int) : Int := if wlB c g ls wave then ldZ g ls wave.toNat else -1

end Go.Proofs.YtjaacdapibokiabGreatDoor

/- The reference's l1Has, by a walk of its text; condition: the list is shorter than 2^40. -/
namespace Go.Proofs.YtjaacdapibokiabGreatDoor
open Go.RowKit

theorem spec_has (a : Option Addr) (cap : Nat) (l : List Int) (n : Int) (w : World) (hbig : l.length ≤ 1099511627776) (hc : IntsAt w a l) :
    Calls Tryz.prog 102 #[.slice a l.length cap, .int .i64 n] w fun e w' => e = .returned (.bool (hasB l n)) ∧ w = w' := by
  rcases hc.len with h0 | ⟨b, off, rfl, hb, hc⟩
  all_goals
    go_enter Tryz.func102, Tryz.ntmps102
    go_wp2
    go_loop [5] (fun i => ∃ k : Nat, k ≤ l.length ∧ i = .int .i64 k ∧ Pre (fun x => x != n) l k) (fun i => l.length - (intOf i).toNat)
    case atStart => exact ⟨0, by omega, rfl, pre_zero _ _⟩
    case round =>
      obtain ⟨k, hk, rfl, hg⟩ := hrel
      by_cases hlt : k < l.length
      · first
        | (exfalso; omega)
        | (have hcell := hc k hlt
           have Hc := Lib.hid hc; clear hc
           by_cases e : l[k] = n
           · have e1 : (l[k] == n) = true := by rw [beq_iff_eq]; exact e
             have hf := hasB_yes hlt
             rw [e] at hf
             have Hf := Lib.hid hf; clear hf e
             go_wp2
             go_ret
             exact ⟨ret_bool Hf.out.symm, rfl⟩
           · have e1 : (l[k] == n) = false := by rw [beq_eq_false_iff_ne]; exact e
             have Hs := Lib.hid (pre_step hg hlt (by simpa using e)); clear hg e
             go_wp2
             go_round
             case rel => exact ⟨k + 1, by omega, by go_num, Hs.out⟩
             case measure => simp [intOf]; omega)
      · have Hf := Lib.hid (hasB_no hg (by omega)); clear hg
        go_wp2
        go_ret
        exact ⟨ret_bool Hf.out.symm, rfl⟩

end Go.Proofs.YtjaacdapibokiabGreatDoor
