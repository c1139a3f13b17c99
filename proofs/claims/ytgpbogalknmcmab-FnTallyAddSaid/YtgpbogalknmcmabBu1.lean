/- Texts that the laws of this folder share, one behind another; no conditions. -/
import Derived.Test.YtgpbogalknmcmabBu0
import Derived.Deep.RegionHeld3
import Derived.Deep.Slices
import Derived.ChangeArms
import Derived.ChangeSame
import Derived.Test.YtgpbogalknmcmabRows
import Derived.Deep.QuietTactic
import Derived.BigQuiet
import Derived.Laws.Strings
import Derived.Laws.StructEq

/- A region that draws its order, operation by operation: an operation that yields its value in every world that meets S, or is left out by its guard, is taken first; a call is met where it alone may come up. General steps; nothing here speaks of the program. -/
namespace Go.Proofs.Ytgpbogalknmcmab
open Go.RowKit

section
variable {P : Program} {md : Region.Mode} {l : List Oper} {Q : Exit → Act → World → Prop} {S : World → Prop} {oi : Oper} {rest : List Oper} {fuel : Nat} {listed : Array Bool} {a : Act} {w : World}

theorem drop_at {i : Nat} (hi : l.drop i = oi :: rest) : l.toArray[i]? = some oi := by
  have h : (l.drop i)[0]? = some oi := by rw [hi]; rfl
  rw [List.getElem?_drop] at h
  simpa using h
/-- Take number i first: it is carried out and yields v in every world that meets S. -/
theorem takeH (i : Nat) {v : Value} (hi : l.drop i = oi :: rest) (hs : Region.noSelect l.toArray = true) (hf : Region.free md l.toArray listed i = true) (hr : (Region.ready md l.toArray listed).contains i = true)
    (hQ : ∀ c a w, Q (.panic c) (a.put oi.dst v) w → Q (.panic c) a w) (hS : S w) (hw : Region.wanted oi (yielded l.toArray a.tmps) = true)
    (hy : ∀ w, S w → (execOp a.eval oi).run P w = .ok (.value v) w)
    (h : wpAnyH P md l.toArray Q S fuel (listed.setIfInBounds i true) (a.put oi.dst v) w) : wpAnyH P md l.toArray Q S (fuel + 1) listed a w :=
  wpAnyH_take (drop_at hi) hs hf hr hQ (.inl ⟨hw, hy⟩) hS h
/-- Number i is left out by its guard. -/
theorem skipH (i : Nat) (hi : l.drop i = oi :: rest) (hs : Region.noSelect l.toArray = true) (hf : Region.free md l.toArray listed i = true) (hr : (Region.ready md l.toArray listed).contains i = true)
    (hQ : ∀ c a w, Q (.panic c) (a.put oi.dst undef) w → Q (.panic c) a w) (hS : S w) (hw : Region.wanted oi (yielded l.toArray a.tmps) = false)
    (h : wpAnyH P md l.toArray Q S fuel (listed.setIfInBounds i true) (a.put oi.dst undef) w) : wpAnyH P md l.toArray Q S (fuel + 1) listed a w :=
  wpAnyH_take (drop_at hi) hs hf hr hQ (.inr ⟨hw, rfl⟩) hS h
/-- Number i alone may come up: it is carried out, and S is shown behind it. -/
theorem callH (i : Nat) (hi : l.drop i = oi :: rest) (hr : Region.ready md l.toArray listed = [i]) (hw : Region.wanted oi (yielded l.toArray a.tmps) = true)
    (h : ∀ K' : Act → World → Prop, Shut (∀ a w, S w → (S w → wpAnyH P md l.toArray Q S fuel (listed.setIfInBounds i true) a w) → K' a w) → Oper.wp P oi a w K' Q) : wpAnyH P md l.toArray Q S (fuel + 1) listed a w :=
  wpAnyH_ready hr (by simp) (AllReadyH.cons (drop_at hi) (fun K' hK => by rw [if_pos hw]; exact h K' hK) AllReadyH.nil)
/-- Either of two may come up next. -/
theorem twoH {oj : Oper} {rest2 : List Oper} (i j : Nat) (hi : l.drop i = oi :: rest) (hj : l.drop j = oj :: rest2) (hr : Region.ready md l.toArray listed = [i, j]) (hw : Region.wanted oi (yielded l.toArray a.tmps) = true) (hw' : Region.wanted oj (yielded l.toArray a.tmps) = true)
    (h : ∀ K' : Act → World → Prop, Shut (∀ a w, S w → (S w → wpAnyH P md l.toArray Q S fuel (listed.setIfInBounds i true) a w) → K' a w) → Oper.wp P oi a w K' Q)
    (h' : ∀ K' : Act → World → Prop, Shut (∀ a w, S w → (S w → wpAnyH P md l.toArray Q S fuel (listed.setIfInBounds j true) a w) → K' a w) → Oper.wp P oj a w K' Q) : wpAnyH P md l.toArray Q S (fuel + 1) listed a w :=
  wpAnyH_ready hr (by simp) (AllReadyH.cons (drop_at hi) (fun K' hK => by rw [if_pos hw]; exact h K' hK) (AllReadyH.cons (drop_at hj) (fun K' hK => by rw [if_pos hw']; exact h' K' hK) AllReadyH.nil))
end

end Go.Proofs.Ytgpbogalknmcmab

/- Arguments that came in, read as data: numbers, truth values, texts, slices of these and of structs of these; general steps, nothing here speaks of the program. -/
namespace Go.Proofs.Ytgpbogalknmcmab
open Go.ChangeShapes Go.WideShapes Go.ChangeAt Go.RowKit

section
variable {H : Type} {enc : TypeId × Value → H} {P : Program} {W : World}

/-- A one-cell value of type t that came in reads as a datum with G. -/
def Opens (H : Type) (enc : TypeId × Value → H) (P : Program) (W : World) (t : TypeId) (G : Dt → Prop) : Prop :=
  P.cellsOf t = 1 ∧ ∀ fuel c x, DataW.trod enc P W 0 (fun _ => true) true fuel t [c] = some x → ∃ d fp, Rd W d c fp ∧ G d
def IntG (d : Dt) : Prop := ∃ n, d = .i n ∧ (-9223372036854775808 ≤ n ∧ n ≤ 9223372036854775807)
def BoolG (d : Dt) : Prop := ∃ x, d = .b x
def StrG (d : Dt) : Prop := ∃ s : ByteArray, d = .s s ∧ s.size ≤ maxLen
/-- A list whose elements are rows of these. -/
def RowsG (Gs : List (Dt → Prop)) (d : Dt) : Prop := ∃ es : List (List Dt), d = .l es ∧ es.length ≤ maxLen ∧ ∀ e ∈ es, e.length = Gs.length ∧ ∀ j (h : j < e.length) (h' : j < Gs.length), Gs[j] e[j]
theorem opens_int {t : TypeId} (ht : P.underlying t = some (.int .i64)) (hc : P.cellsOf t = 1) : Opens H enc P W t IntG := ⟨hc, fun fuel c x h => by
  obtain ⟨n, e, _, hw⟩ := DataW.trod_int ht h
  obtain rfl : c = .int .i64 n := by simpa using e
  exact ⟨.i n, [], .i n, n, rfl, wf_i64 hw⟩⟩
theorem opens_bool {t : TypeId} (ht : P.underlying t = some .bool) (hc : P.cellsOf t = 1) : Opens H enc P W t BoolG := ⟨hc, fun fuel c x h => by
  obtain ⟨n, e, _⟩ := DataW.trod_bool ht h
  obtain rfl : c = .bool n := by simpa using e
  exact ⟨.b n, [], .b n, n, rfl⟩⟩
theorem opens_str {t : TypeId} (ht : P.underlying t = some .string) (hc : P.cellsOf t = 1) : Opens H enc P W t StrG := ⟨hc, fun fuel c x h => by
  obtain ⟨n, e, _, hs⟩ := DataW.trod_string ht h
  obtain rfl : c = .string n := by simpa using e
  exact ⟨.s n, [], .s n, n, rfl, hs⟩⟩
theorem mapM_some {α β : Type} {f : α → Option β} : ∀ {l : List α} {r : List β}, l.mapM f = some r → r.length = l.length ∧ ∀ i (h : i < l.length) (h' : i < r.length), f l[i] = some r[i]
  | [], r, h => by
    have : r = [] := by simpa using h.symm
    subst this
    exact ⟨rfl, fun i h => by simp at h⟩
  | x :: l, r, h => by
    rw [List.mapM_cons] at h
    simp only [Option.bind_eq_bind, Option.bind_eq_some_iff, Option.pure_def, Option.some.injEq] at h
    obtain ⟨y, hy, ys, hys, rfl⟩ := h
    obtain ⟨h1, h2⟩ := mapM_some hys
    refine ⟨by simp [h1], fun i hi hi' => ?_⟩
    cases i with
    | zero => simpa using hy
    | succ i => simpa using h2 i (by simpa using hi) (by simpa using hi')
/-- A slice's elements, whatever reads each of them. -/
theorem opens_slice_by {T e : TypeId} {sz : Nat} {Gs : List (Dt → Prop)} (hT : P.underlying T = some (.slice e)) (hc : P.cellsOf T = 1) (hsz : P.cellsOf e = sz) (hpos : 0 < sz) (hg : Gs.length = sz)
    (hE : ∀ fuel cs x, cs.length = sz → DataW.trod enc P W 0 (fun _ => true) true fuel e cs = some x → ∀ j (h : j < cs.length) (h' : j < Gs.length), ∃ d fp, Rd W d cs[j] fp ∧ Gs[j] d) : Opens H enc P W T (RowsG Gs) := by
  refine ⟨hc, fun fuel c x h => ?_⟩
  rcases Go.Deep.open_slice hT h with ⟨e1, _⟩ | ⟨a, len, cap, m, n, D, Pl, e1, _, hlc, hcm, hm, _, hel⟩
  · obtain rfl : c = .slice none 0 0 := by simpa using e1
    exact ⟨.l [], [], .nil _ _ (fun _ => rfl), [], rfl, by simp, by simp⟩
  · obtain rfl : c = .slice (some a) len cap := by simpa using e1
    rw [if_pos rfl] at hm
    have hm' := hm.symm
    subst hm'
    rcases Nat.eq_zero_or_pos len with h0 | h0
    · subst h0; exact ⟨.l [], [], .nil _ _ (fun e => by cases e), [], rfl, by simp, by simp⟩
    · have hrow : ∀ i, i < len → ∃ cs : List Value, cs.length = sz ∧ (∀ j (h : j < cs.length), W.cell? ((a.add (i * sz)).add j) = some cs[j]) ∧ ∀ j (h : j < cs.length) (h' : j < Gs.length), ∃ d fp, Rd W d cs[j] fp ∧ Gs[j] d := by
        intro i hi
        obtain ⟨cs, h1, h2⟩ := hel i (by omega)
        rw [hsz] at h1
        unfold World.cells? at h1
        rw [if_pos (Nat.zero_le _)] at h1
        obtain ⟨hl, hcell⟩ := mapM_some h1
        rw [List.length_range] at hl
        exact ⟨cs, hl, fun j hj => by have := hcell j (by rw [List.length_range]; omega) hj; rwa [List.getElem_range] at this, hE n cs _ hl h2⟩
      obtain ⟨cs0, hl0, hc0, _⟩ := hrow 0 h0
      obtain ⟨b, off, spot⟩ := a
      have hspot : spot = none := by
        have := hc0 0 (by omega)
        simpa [Addr.add] using World.cell?_spot this
      subst hspot
      have hblt : b < W.heap.size := by
        have := hc0 0 (by omega)
        rw [show ((⟨b, off, none⟩ : Addr).add (0 * sz)).add 0 = ⟨b, off, none⟩ by simp [Addr.add]] at this
        exact World.block_lt_of_cell? W _ this
      have hex : ∀ k j, ∃ p : Value × Dt × List Nat, ∀ (_ : k < len) (_ : j < sz), W.cell? ⟨b, off + (k * sz + j), none⟩ = some p.1 ∧ Rd W p.2.1 p.1 p.2.2 ∧ ∀ (h' : j < Gs.length), Gs[j] p.2.1 := by
        intro k j
        by_cases hk : k < len
        · by_cases hj : j < sz
          · obtain ⟨cs, hl, hcc, hr⟩ := hrow k hk
            obtain ⟨d, fp, h1, h2⟩ := hr j (by omega) (by omega)
            refine ⟨(cs[j]'(by omega), d, fp), fun _ _ => ⟨?_, h1, fun _ => h2⟩⟩
            have := hcc j (by omega)
            rwa [addr_add', addr_add', Nat.add_assoc] at this
          · exact ⟨(undef, .i 0, []), fun _ h => absurd h hj⟩
        · exact ⟨(undef, .i 0, []), fun h => absurd h hk⟩
      obtain ⟨F, hF⟩ : ∃ F : Nat → Nat → Value × Dt × List Nat, ∀ k j (_ : k < len) (_ : j < sz), W.cell? ⟨b, off + (k * sz + j), none⟩ = some (F k j).1 ∧ Rd W (F k j).2.1 (F k j).1 (F k j).2.2 ∧ ∀ (h' : j < Gs.length), Gs[j] (F k j).2.1 :=
        ⟨fun k j => Classical.choose (hex k j), fun k j => Classical.choose_spec (hex k j)⟩
      obtain ⟨es, hes⟩ : ∃ es : List (List Dt), es = (List.range len).map fun k => (List.range sz).map fun j => (F k j).2.1 := ⟨_, rfl⟩
      have hel' : es.length = len := by rw [hes]; simp
      have hget : ∀ k j (hk : k < es.length) (hj : j < (es[k]).length), (es[k])[j] = (F k j).2.1 := fun k j hk hj => by subst hes; simp
      have hrl : ∀ e ∈ es, e.length = sz := by intro e he; rw [hes] at he; obtain ⟨k, _, rfl⟩ := List.mem_map.1 he; simp
      have hrd := Rd.l (w := W) sz es b off cap (fun k j => (F k j).1) (fun k j => (F k j).2.2) (by omega) hrl (by omega) hblt (fun k j hk hj => (hF k j (by omega) hj).1)
        (fun k j hk hj => by rw [hget k j hk hj]; exact (hF k j (by omega) (by rw [← hrl _ (List.getElem_mem hk)]; exact hj)).2.1)
      rw [hel'] at hrd
      refine ⟨.l es, _, hrd, es, rfl, by omega, fun e he => ⟨by rw [hrl e he, hg], fun j hj hj' => ?_⟩⟩
      obtain ⟨k, hk, rfl⟩ := List.mem_iff_getElem.1 he
      rw [hget k j hk hj]
      exact (hF k j (by omega) (by omega)).2.2 hj'
/-- A slice of one-cell elements. -/
theorem opens_slice {T e : TypeId} {G : Dt → Prop} (hT : P.underlying T = some (.slice e)) (hc : P.cellsOf T = 1) (hE : Opens H enc P W e G) : Opens H enc P W T (RowsG [G]) :=
  opens_slice_by (sz := 1) hT hc hE.1 (by omega) rfl fun fuel cs x hl h j hj hj' => by
    have : j = 0 := by omega
    subst this
    match cs, hl with
    | [c], _ => exact hE.2 fuel c x h
/-- The fields of a struct, each in one cell. -/
theorem fields_open {t : TypeId} {fs : Array Field} {Gs : List (Dt → Prop)} (ht : P.underlying t = some (.struct fs)) (_hg : Gs.length = fs.size) (hf : ∀ j (h : j < fs.size) (h' : j < Gs.length), (fs[j]).offset = j ∧ Opens H enc P W (fs[j]).type Gs[j])
    (fuel : Nat) (cs : List Value) (x : DataW H × List MemPlace) (hl : cs.length = fs.size) (h : DataW.trod enc P W 0 (fun _ => true) true fuel t cs = some x) : ∀ j (h : j < cs.length) (h' : j < Gs.length), ∃ d fp, Rd W d cs[j] fp ∧ Gs[j] d := by
  obtain ⟨xs, n, _, rfl, hl', hlen, hff⟩ := DataW.trod_struct ht h
  intro j hj hj'
  have hjf : j < fs.size := by omega
  obtain ⟨ho, hO⟩ := hf j hjf hj'
  have := hff j (fs[j]) (by simp [hjf])
  rw [ho, hO.1] at this
  have hd : (cs.drop j).take 1 = [cs[j]] := by
    rw [List.drop_eq_getElem_cons hj]; rfl
  rw [hd, List.getElem?_eq_getElem (show j < xs.length by omega)] at this
  exact hO.2 n _ _ this
/-- A slice of structs. -/
theorem opens_slice_struct {T e : TypeId} {fs : Array Field} {Gs : List (Dt → Prop)} (hT : P.underlying T = some (.slice e)) (hc : P.cellsOf T = 1) (he : P.underlying e = some (.struct fs)) (hsz : P.cellsOf e = fs.size) (hpos : 0 < fs.size) (hg : Gs.length = fs.size)
    (hf : ∀ j (h : j < fs.size) (h' : j < Gs.length), (fs[j]).offset = j ∧ Opens H enc P W (fs[j]).type Gs[j]) : Opens H enc P W T (RowsG Gs) :=
  opens_slice_by hT hc hsz hpos hg fun fuel cs x hl h => fields_open he hg hf fuel cs x hl h
/-- A struct by value. -/
theorem open_struct {t : TypeId} {fs : Array Field} {Gs : List (Dt → Prop)} {base : Nat} {v : Value} {d : DataW H} {p : List MemPlace} (ht : P.underlying t = some (.struct fs)) (hsz : P.cellsOf t = fs.size) (hg : Gs.length = fs.size) (hf : ∀ j (h : j < fs.size) (h' : j < Gs.length), (fs[j]).offset = j ∧ Opens H enc P W (fs[j]).type Gs[j])
    (hv : Value.okWide P W .any base t v) (h : DataW.Trod enc P W 0 (fun _ => true) true t v d p) : ∃ cs : List Value, v = .agg cs.toArray ∧ cs.length = fs.size ∧ ∀ j (h : j < cs.length) (h' : j < Gs.length), ∃ d fp, Rd W d cs[j] fp ∧ Gs[j] d := by
  unfold Value.okWide at hv
  rw [ht] at hv
  obtain ⟨cs, rfl, hs, _⟩ := hv
  obtain ⟨fuel, hf'⟩ := h
  refine ⟨cs.toList, by simp, by rw [Array.length_toList, hs, hsz], ?_⟩
  exact fields_open ht hg hf fuel cs.toList _ (by rw [Array.length_toList, hs, hsz]) hf'
/-- A one-cell value. -/
theorem open_cell {t : TypeId} {G : Dt → Prop} {v : Value} {d : DataW H} {p : List MemPlace} (hO : Opens H enc P W t G) (hna : v.cells = #[v]) (h : DataW.Trod enc P W 0 (fun _ => true) true t v d p) : ∃ d fp, Rd W d v fp ∧ G d := by
  obtain ⟨fuel, hf⟩ := h
  rw [hna] at hf
  exact hO.2 fuel v _ hf
end
/-- A list of numbers. -/
theorem ints_of {d : Dt} (h : RowsG [IntG] d) : ∃ xs, d = intsD xs ∧ xs.length ≤ maxLen ∧ ∀ x ∈ xs, -9223372036854775808 ≤ x ∧ x ≤ 9223372036854775807 := by
  obtain ⟨es, rfl, hl, he⟩ := h
  refine ⟨es.map fun e => match e with | [.i n] => n | _ => 0, ?_, by simpa using hl, ?_⟩
  · unfold intsD
    congr 1
    rw [List.map_map]
    conv => lhs; rw [← List.map_id es]
    refine List.map_congr_left fun e hm => ?_
    obtain ⟨h1, h2⟩ := he e hm
    match e, h1, h2 with
    | [d], _, h2 =>
      obtain ⟨n, hn, _⟩ := h2 0 (by simp) (by simp)
      simp only [List.getElem_cons_zero] at hn
      subst hn; rfl
  · intro x hx
    obtain ⟨e, hm, rfl⟩ := List.mem_map.1 hx
    obtain ⟨h1, h2⟩ := he e hm
    match e, h1, h2 with
    | [d], _, h2 =>
      obtain ⟨n, hn, hr⟩ := h2 0 (by simp) (by simp)
      simp only [List.getElem_cons_zero] at hn
      subst hn; exact hr

end Go.Proofs.Ytgpbogalknmcmab

/- What the exact laws keep at hand: lists of numbers in blocks of their own within bounds, rows that came in as arguments; general steps, nothing here speaks of the program. -/
namespace Go.Proofs.Ytgpbogalknmcmab
open Go.RowKit

/-- A list of numbers in a block of its own, which lies from lo to before hi. -/
structure OwnI (E : TypeId) (w : World) (lo hi : Nat) (v : Value) (xs : List Int) : Prop where
  own : Own E w lo v xs
  lt : ∀ g, v.ownBlock = some g → g < hi
section
variable {E : TypeId} {w w' : World} {lo hi lo' hi' : Nat} {v : Value} {xs ys : List Int}
theorem OwnI.of (h : Own E w lo v xs) : OwnI E w lo w.heap.size v xs := ⟨h, fun g e => (h.lt g e).2⟩
theorem OwnI.below (h : OwnI E w lo hi v xs) (hb : Below w.heap.size w w') : OwnI E w' lo hi v xs := ⟨h.own.below hb, h.lt⟩
theorem OwnI.btw (h : OwnI E w lo hi v xs) (hb : Btw lo' hi' w w') (hd : hi ≤ lo' ∨ hi' ≤ lo) : OwnI E w' lo hi v xs :=
  ⟨hb.own h.own fun g e => by have := h.own.lt g e; have := h.lt g e; omega, h.lt⟩
theorem OwnI.mark (h : OwnI E w lo hi v xs) (ho : Own E w' lo v ys) : OwnI E w' lo hi v ys := ⟨ho, h.lt⟩
theorem OwnI.marks (h : OwnI E w lo hi v xs) (hg : w.grownBy w' v.ownBlock) : Btw lo hi w w' := .grown hg fun g e => ⟨(h.own.lt g e).1, h.lt g e⟩
theorem OwnI.at {a : Option Addr} {n c : Nat} (h : OwnI E w lo hi (.slice a n c) xs) : IntsAt w a xs := h.own.at
theorem OwnI.ints (h : OwnI E w lo hi v xs) : ∃ a cap, v = .slice a xs.length cap ∧ IntsAt w a xs ∧ xs.length ≤ maxLen := h.own.ints
theorem OwnI.cap {a : Option Addr} {n c : Nat} (h : OwnI E w lo hi (.slice a n c) xs) : xs.length ≤ c := h.own.cap
theorem Str.btw {B : Nat} {t : TypeId} {vs : Array Value} (h : Str w B t vs) (hb : Btw lo hi w w') (hd : B < lo ∨ hi ≤ B) : Str w' B t vs := (hb.block B h.lt (by omega)).trans h
theorem Btw.alloc (w : World) (o : Obj) : Btw lo hi w (w.alloc o) := .grown (World.grownBy_alloc w o none) (by simp)
end

theorem OwnR.from {E Ei : TypeId} {sz : Nat} {w : World} {B B' hi : Nat} {v : Value} {es : List (List Fd)} (h : OwnR E Ei sz w B hi v es) (hB : B' ≤ B) : OwnR E Ei sz w B' hi v es := by
  obtain ⟨cs, h1, h2, h3, h4, h5, h6⟩ := h.row
  refine ⟨h.szs, cs, ⟨h1.1, ?_⟩, fun k j hk hj => ?_, h3, h4, fun p c g a b => ⟨Nat.le_trans hB (h5 p c g a b).1, (h5 p c g a b).2⟩, h6⟩
  · rcases h1.2 with h | ⟨g, cap, cur, e, hb, hrest⟩
    · exact .inl h
    · exact .inr ⟨g, cap, cur, e, Nat.le_trans hB hb, hrest⟩
  obtain ⟨c, hc, hf⟩ := h2 k j hk hj
  refine ⟨c, hc, ?_⟩
  revert hf
  generalize (es[k])[j] = f
  intro hf
  cases f with
  | l xs => exact Own.mono (show Own Ei w B c xs from hf) hB
  | i n => exact hf
  | b n => exact hf
  | s n => exact hf

/-! rows that came in -/
def fitE (e : List Fd) : Prop := (∀ x, Fd.i x ∈ e → -9223372036854775808 ≤ x ∧ x ≤ 9223372036854775807) ∧ ∀ xs, Fd.l xs ∈ e → xs.length ≤ maxLen ∧ ∀ x ∈ xs, -9223372036854775808 ≤ x ∧ x ≤ 9223372036854775807
theorem rows_all {P : List Fd → Prop} : ∀ l : List (List Dt), (∀ e ∈ l, ∃ f : List Fd, e = f.map Fd.dt ∧ P f) → ∃ es : List (List Fd), l = es.map (fun e => e.map Fd.dt) ∧ ∀ e ∈ es, P e
  | [], _ => ⟨[], rfl, by simp⟩
  | e :: l, h => by
    obtain ⟨f, rfl, hf⟩ := h e (by simp)
    obtain ⟨es, rfl, hes⟩ := rows_all l fun e he => h e (List.mem_cons_of_mem _ he)
    refine ⟨f :: es, rfl, fun e he => ?_⟩
    rcases List.mem_cons.1 he with rfl | he
    · exact hf
    · exact hes e he
theorem rows_of {Gs : List (Dt → Prop)} {d : Dt} (h : RowsG Gs d) {P : List Fd → Prop} (hP : ∀ e : List Dt, e.length = Gs.length → (∀ j (h : j < e.length) (h' : j < Gs.length), Gs[j] e[j]) → ∃ f : List Fd, e = f.map Fd.dt ∧ P f) :
    ∃ es, d = rowsD es ∧ es.length ≤ maxLen ∧ ∀ e ∈ es, P e := by
  obtain ⟨l, rfl, hl, he⟩ := h
  obtain ⟨es, rfl, hes⟩ := rows_all l fun e h => hP e (he e h).1 (he e h).2
  exact ⟨es, rfl, by simpa using hl, hes⟩

end Go.Proofs.Ytgpbogalknmcmab

/- The exact laws' functions on values and lists of Vote: sameness, copies, sizes, marks, each by a walk of its text; conditions: the lists are no longer than the laws' bound. -/
namespace Go.Proofs.Ytgpbogalknmcmab
open Go.RowKit

def voteP (e : List Fd) : Prop := ∃ (x0 : Int) (x1 : Int) (x2 : Int), e = [.i x0, .i x1, .i x2]
theorem voteP_len {es : List (List Fd)} (h : ∀ e ∈ es, voteP e) : ∀ e ∈ es, e.length = 3 := by
  intro e he
  obtain ⟨_, _, _, rfl⟩ := h e he
  rfl

theorem vote_inf : (Try.prog.info? 25).map (fun i => (i.zero, i.size, i.bytes)) = some (some (.agg #[.int .i64 0, .int .i64 0, .int .i64 0]), 3, 24) := by kernel_rfl

set_option maxRecDepth 8000 in
/-- A Vote that came in by value. -/
theorem open_Vote {H : Type} {enc : TypeId × Value → H} {W : World} {base : Nat} {v : Value} {d : DataW H} {p : List MemPlace} (hv : Value.okWide Try.prog W .any base 46 v) (h : DataW.Trod enc Try.prog W 0 (fun _ => true) true 46 v d p) :
    ∃ x0 x1 x2, v = .agg #[.int .i64 x0, .int .i64 x1, .int .i64 x2] ∧ (-9223372036854775808 ≤ x0 ∧ x0 ≤ 9223372036854775807) ∧ (-9223372036854775808 ≤ x1 ∧ x1 ≤ 9223372036854775807) ∧ (-9223372036854775808 ≤ x2 ∧ x2 ≤ 9223372036854775807) := by
  obtain ⟨cs, rfl, hl, hf⟩ := open_struct (Gs := [IntG, IntG, IntG]) Try.underlying46 (by kernel_rfl) rfl (fun j h h' => by
    match j, h, h' with
    | 0, _, _ => exact ⟨rfl, opens_int Try.underlying3 (by kernel_rfl)⟩
    | 1, _, _ => exact ⟨rfl, opens_int Try.underlying3 (by kernel_rfl)⟩
    | 2, _, _ => exact ⟨rfl, opens_int Try.underlying3 (by kernel_rfl)⟩) hv h
  match cs, hl with
  | [u0, u1, u2], _ =>
    obtain ⟨d0, f0, r0, x0, rfl, b0⟩ := hf 0 (by simp) (by simp)
    obtain ⟨rfl, _⟩ := Rd.int (show Rd W (.i x0) u0 f0 from r0)
    obtain ⟨d1, f1, r1, x1, rfl, b1⟩ := hf 1 (by simp) (by simp)
    obtain ⟨rfl, _⟩ := Rd.int (show Rd W (.i x1) u1 f1 from r1)
    obtain ⟨d2, f2, r2, x2, rfl, b2⟩ := hf 2 (by simp) (by simp)
    obtain ⟨rfl, _⟩ := Rd.int (show Rd W (.i x2) u2 f2 from r2)
    exact ⟨x0, x1, x2, rfl, b0, b1, b2⟩

theorem laws_eqVoteR (x0 : Int) (x1 : Int) (x2 : Int) (w : World) :
    Calls Try.prog 58 #[.agg #[.int .i64 x0, .int .i64 x1, .int .i64 x2], .agg #[.int .i64 x0, .int .i64 x1, .int .i64 x2]] w fun e w' => e = .returned (.bool true) ∧ Below w.heap.size w w' := by
  have hb : Below w.heap.size w ((w.alloc (.cells #[.int .i64 x0, .int .i64 x1, .int .i64 x2] 25)).alloc (.cells #[.int .i64 x0, .int .i64 x1, .int .i64 x2] 25)) := ((Below.refl _ w).alloc (Nat.le_refl _) _).alloc (by simp) _
  go_enter Try.func58, Try.ntmps58
  go_wp2
  go_ret
  exact ⟨rfl, hb⟩

theorem laws_toVoteR (x0 : Int) (x1 : Int) (x2 : Int) (w : World) :
    Calls Try.prog 57 #[.agg #[.int .i64 x0, .int .i64 x1, .int .i64 x2]] w fun e w' => e = .returned (.agg #[.int .i64 x0, .int .i64 x1, .int .i64 x2]) ∧ Below w.heap.size w w' := by
  have hbW : Below w.heap.size w (((w.alloc (.cells #[.int .i64 x0, .int .i64 x1, .int .i64 x2] 46)).alloc (.cells #[.int .i64 0, .int .i64 0, .int .i64 0] 25)).alloc (.cells #[.int .i64 x0, .int .i64 x1, .int .i64 x2] 25)) := (((Below.refl _ w).alloc (Nat.le_refl _) _).alloc (by simp) _).alloc (by simp; omega) _
  have s0 := ((Str.new w 46 #[.int .i64 x0, .int .i64 x1, .int .i64 x2]).alloc (.cells #[.int .i64 0, .int .i64 0, .int .i64 0] 25)).alloc (.cells #[.int .i64 x0, .int .i64 x1, .int .i64 x2] 25)
  have s1 := (Str.new (w.alloc (.cells #[.int .i64 x0, .int .i64 x1, .int .i64 x2] 46)) 25 #[.int .i64 0, .int .i64 0, .int .i64 0]).alloc (.cells #[.int .i64 x0, .int .i64 x1, .int .i64 x2] 25)
  have s2 := Str.new ((w.alloc (.cells #[.int .i64 x0, .int .i64 x1, .int .i64 x2] 46)).alloc (.cells #[.int .i64 0, .int .i64 0, .int .i64 0] 25)) 25 #[.int .i64 x0, .int .i64 x1, .int .i64 x2]
  have hzW : (((w.alloc (.cells #[.int .i64 x0, .int .i64 x1, .int .i64 x2] 46)).alloc (.cells #[.int .i64 0, .int .i64 0, .int .i64 0] 25)).alloc (.cells #[.int .i64 x0, .int .i64 x1, .int .i64 x2] 25)).heap.size = w.heap.size + 3 := by simp
  simp only [World.size_alloc] at s1 s2
  have Hb := Lib.hid hbW
  have Hs0 := Lib.hid s0
  have Hs1 := Lib.hid s1
  have Hs2 := Lib.hid s2
  have Hz := Lib.hid hzW
  clear hbW s0 s1 s2 hzW
  have t0 := Hs0.out
  have t1 := Hs1.out
  have t2 := Hs2.out
  clear Hs0 Hs1 Hs2 Hz
  have k0 := t1.cell 0 (v := .int .i64 0) rfl
  have k1 := t1.cell 1 (v := .int .i64 0) rfl
  have k2 := t1.cell 2 (v := .int .i64 0) rfl
  have f0 := t1.frozen 0
  have f1 := t1.frozen 1
  have f2 := t1.frozen 2
  have j0 := t2.cell 0 (v := .int .i64 x0) rfl
  have j1 := t2.cell 1 (v := .int .i64 x1) rfl
  have j2 := t2.cell 2 (v := .int .i64 x2) rfl
  have hne : w.heap.size + 1 ≠ w.heap.size + 1 + 1 := by omega
  have u := (((t1.set 0 (.int .i64 x0)).set 1 (.int .i64 x1)).set 2 (.int .i64 x2))
  have e0 := u.cell 0 (v := .int .i64 x0) rfl
  have e1 := u.cell 1 (v := .int .i64 x1) rfl
  have e2 := u.cell 2 (v := .int .i64 x2) rfl
  clear u t0 t1 t2
  go_enter Try.func57, Try.ntmps57
  go_wp2
  refine bodyPost_ret (v := .agg #[.int .i64 x0, .int .i64 x1, .int .i64 x2]) (by simp [results, Try.f57, go_sem]) rfl ?_
  exact ⟨rfl, (((Below.refl _ w).alloc (Nat.le_refl _) _).alloc (by simp) _).alloc (by simp; omega) _⟩

theorem vote_info : (Try.prog.info? 25).map (fun i => (i.zero, i.size, i.bytes)) = some (some (.agg #[.int .i64 0, .int .i64 0, .int .i64 0]), 3, 24) := by kernel_rfl

end Go.Proofs.Ytgpbogalknmcmab

/- Plain arithmetic of digests and of hash trees; no walk and no condition of our own. -/
namespace Go.Proofs.Ytgpbogalknmcmab

def digB (n : Int) : Bool := decide (0 ≤ n ∧ n ≤ 990)
theorem digB_bd {n : Int} (h : digB n = true) : 0 ≤ n ∧ n ≤ 990 := of_decide_eq_true h
theorem digB_yes {n : Int} (h0 : 0 ≤ n) (h1 : n ≤ 990) : digB n = true := decide_eq_true ⟨h0, h1⟩
theorem digB_no {n : Int} (h : ¬ (0 ≤ n ∧ n ≤ 990)) : digB n = false := decide_eq_false h
def pairZ (a b : Int) : Int := (31 * a + 17 * b + 5) % 991
theorem pairZ_bd (a b : Int) : 0 ≤ pairZ a b ∧ pairZ a b ≤ 990 := by unfold pairZ; omega
theorem pairZ_dig (a b : Int) : digB (pairZ a b) = true := decide_eq_true (pairZ_bd a b)
theorem pairZ_left {a a' b : Int} (h : digB a = true) (h' : digB a' = true) (e : pairZ a b = pairZ a' b) : a = a' := by
  have := digB_bd h; have := digB_bd h'; unfold pairZ at e; omega
theorem pairZ_right {a b b' : Int} (h : digB b = true) (h' : digB b' = true) (e : pairZ a b = pairZ a b') : b = b' := by
  have := digB_bd h; have := digB_bd h'; unfold pairZ at e; omega

/-- The next level. -/
def upZ : List Int → List Int
  | a :: b :: r => pairZ a b :: upZ r
  | l => l
theorem upZ_nil : upZ [] = [] := rfl
theorem upZ_one (a : Int) : upZ [a] = [a] := rfl
theorem upZ_two (a b : Int) (r : List Int) : upZ (a :: b :: r) = pairZ a b :: upZ r := by rw [upZ]
/-- The other node of the pair of node i. -/
def sib (i : Nat) : Nat := if i % 2 = 0 then i + 1 else i - 1
theorem pairs_ind {p : List Int → Prop} (h0 : p []) (h1 : ∀ a, p [a]) (h2 : ∀ a b r, p r → p (a :: b :: r)) : ∀ n l, l.length ≤ n → p l := by
  intro n
  induction n with
  | zero =>
    intro l hl
    have : l = [] := List.eq_nil_of_length_eq_zero (by omega)
    subst this; exact h0
  | succ n ih =>
    intro l hl
    match l, hl with
    | [], _ => exact h0
    | [a], _ => exact h1 a
    | a :: b :: r, hl => exact h2 a b r (ih r (by simp at hl; omega))
theorem upZ_len (l : List Int) : (upZ l).length = (l.length + 1) / 2 :=
  pairs_ind (p := fun l => (upZ l).length = (l.length + 1) / 2) rfl (fun a => by simp [upZ]) (fun a b r ih => by rw [upZ_two]; simp only [List.length_cons]; rw [ih]; omega) l.length l (Nat.le_refl _)
theorem upZ_dig (l : List Int) (h : ∀ x ∈ l, digB x = true) : ∀ x ∈ upZ l, digB x = true := by
  refine pairs_ind (p := fun l => (∀ x ∈ l, digB x = true) → ∀ x ∈ upZ l, digB x = true) (fun _ => by simp [upZ]) (fun a h => by simpa [upZ] using h) (fun a b r ih h => ?_) l.length l (Nat.le_refl _) h
  rw [upZ_two]
  intro x hx
  rcases List.mem_cons.1 hx with rfl | hx
  · exact pairZ_dig _ _
  · exact ih (fun y hy => h y (by simp [hy])) x hx
/-- A node of the next level. -/
theorem upZ_get (l : List Int) : ∀ i, i < l.length → (upZ l).getD (i / 2) 0 = if sib i < l.length then (if i < sib i then pairZ (l.getD i 0) (l.getD (sib i) 0) else pairZ (l.getD (sib i) 0) (l.getD i 0)) else l.getD i 0 := by
  refine pairs_ind (p := fun l => ∀ i, i < l.length → (upZ l).getD (i / 2) 0 = if sib i < l.length then (if i < sib i then pairZ (l.getD i 0) (l.getD (sib i) 0) else pairZ (l.getD (sib i) 0) (l.getD i 0)) else l.getD i 0)
    (fun i h => by simp at h) (fun a i h => ?_) (fun a b r ih i h => ?_) l.length l (Nat.le_refl _)
  · have : i = 0 := by simpa using h
    subst this; rfl
  · rw [upZ_two]
    match i, h with
    | 0, _ => simp [sib]
    | 1, _ => simp [sib]
    | i + 2, h =>
      have hi := ih i (by simpa using h)
      have e1 : (i + 2) / 2 = i / 2 + 1 := by omega
      have e2 : sib (i + 2) = sib i + 2 := by unfold sib; split <;> split <;> omega
      rw [e1, e2]
      simp only [List.getD_cons_succ, List.length_cons]
      rw [hi]
      by_cases hs : sib i < r.length
      · rw [if_pos hs, if_pos (show sib i + 2 < r.length + 1 + 1 by omega)]
        by_cases hl : i < sib i
        · rw [if_pos hl, if_pos (show i + 2 < sib i + 2 by omega)]
        · rw [if_neg hl, if_neg (show ¬ i + 2 < sib i + 2 by omega)]
      · rw [if_neg hs, if_neg (show ¬ sib i + 2 < r.length + 1 + 1 by omega)]

def rootF : Nat → List Int → Int
  | 0, l => l.getD 0 0
  | n + 1, l => if 1 < l.length then rootF n (upZ l) else l.getD 0 0
def proofF : Nat → List Int → Nat → List Int
  | 0, _, _ => []
  | n + 1, l, i => if 1 < l.length then (if sib i < l.length then [l.getD (sib i) 0] else []) ++ proofF n (upZ l) (i / 2) else []
/-- Where a leaf x at place i and a proof lead in a tree of this size. -/
def checkF : Nat → Nat → Nat → Int → List Int → Option Int
  | 0, _, _, x, p => if p = [] then some x else none
  | n + 1, size, i, x, p =>
    if 1 < size then
      if sib i < size then
        match p with
        | [] => none
        | q :: r => if digB q = true then checkF n ((size + 1) / 2) (i / 2) (if i < sib i then pairZ x q else pairZ q x) r else none
      else checkF n ((size + 1) / 2) (i / 2) x p
    else if p = [] then some x else none

theorem dig_getD {l : List Int} (h : ∀ x ∈ l, digB x = true) {i : Nat} (hi : i < l.length) : digB (l.getD i 0) = true := by
  rw [getD_get hi]; exact h _ (List.getElem_mem hi)

/-- Each leaf has a proof. -/
theorem check_proof : ∀ (n : Nat) (l : List Int) (i : Nat), (∀ x ∈ l, digB x = true) → i < l.length → l.length ≤ 2 ^ n → checkF n l.length i (l.getD i 0) (proofF n l i) = some (rootF n l) := by
  intro n
  induction n with
  | zero => intro l i _ hi hl; have : i = 0 := by omega
            subst this; simp [checkF, proofF, rootF]
  | succ n ih =>
    intro l i hd hi hl
    simp only [checkF, proofF, rootF]
    by_cases h1 : 1 < l.length
    · rw [if_pos h1, if_pos h1, if_pos h1]
      have hu := ih (upZ l) (i / 2) (upZ_dig l hd) (by rw [upZ_len]; omega) (by rw [upZ_len, Nat.pow_succ] at *; omega)
      rw [upZ_len, upZ_get l i hi] at hu
      by_cases hs : sib i < l.length
      · rw [if_pos hs] at hu ⊢
        rw [if_pos hs]
        simp only [List.cons_append, List.nil_append]
        rw [if_pos (dig_getD hd hs)]
        exact hu
      · rw [if_neg hs] at hu ⊢
        rw [if_neg hs, List.nil_append]
        exact hu
    · have : i = 0 := by omega
      subst this; simp [h1]

/-- No other leaf has the proof. -/
theorem check_leaf : ∀ (n size i : Nat) (x y : Int) (p : List Int) (R : Int), digB x = true → digB y = true → checkF n size i x p = some R → checkF n size i y p = some R → x = y := by
  intro n
  induction n with
  | zero =>
    intro size i x y p R _ _ h1 h2
    simp only [checkF] at h1 h2
    split at h1
    · rename_i h; rw [if_pos h] at h2; cases h1; cases h2; rfl
    · cases h1
  | succ n ih =>
    intro size i x y p R hx hy h1 h2
    simp only [checkF] at h1 h2
    by_cases hz : 1 < size
    · rw [if_pos hz] at h1 h2
      by_cases hs : sib i < size
      · rw [if_pos hs] at h1 h2
        match p, h1, h2 with
        | q :: r, h1, h2 =>
          simp only at h1 h2
          by_cases hq : digB q = true
          · rw [if_pos hq] at h1 h2
            by_cases hl : i < sib i
            · rw [if_pos hl] at h1 h2
              exact pairZ_left hx hy (ih _ _ _ _ _ _ (pairZ_dig _ _) (pairZ_dig _ _) h1 h2)
            · rw [if_neg hl] at h1 h2
              exact pairZ_right hx hy (ih _ _ _ _ _ _ (pairZ_dig _ _) (pairZ_dig _ _) h1 h2)
          · rw [if_neg hq] at h1; cases h1
      · rw [if_neg hs] at h1 h2
        exact ih _ _ _ _ _ _ hx hy h1 h2
    · rw [if_neg hz] at h1 h2
      split at h1
      · rename_i h; rw [if_pos h] at h2; cases h1; cases h2; rfl
      · cases h1

/-- How long a proof is. -/
def plen : Nat → Nat → Nat → Nat
  | 0, _, _ => 0
  | n + 1, size, i => if 1 < size then (if sib i < size then 1 else 0) + plen n ((size + 1) / 2) (i / 2) else 0
theorem plen_le : ∀ (n size i : Nat), plen n size i ≤ n := by
  intro n
  induction n with
  | zero => intro _ _; exact Nat.le_refl _
  | succ n ih =>
    intro size i
    simp only [plen]
    have := ih ((size + 1) / 2) (i / 2)
    split
    · split <;> omega
    · omega
theorem check_len : ∀ (n size i : Nat) (x : Int) (p : List Int) (R : Int), checkF n size i x p = some R → p.length = plen n size i := by
  intro n
  induction n with
  | zero =>
    intro size i x p R h
    simp only [checkF] at h
    split at h
    · rename_i hp; rw [hp]; rfl
    · cases h
  | succ n ih =>
    intro size i x p R h
    simp only [checkF] at h
    simp only [plen]
    by_cases hz : 1 < size
    · rw [if_pos hz] at h ⊢
      by_cases hs : sib i < size
      · rw [if_pos hs] at h ⊢
        match p, h with
        | q :: r, h =>
          simp only at h
          by_cases hq : digB q = true
          · rw [if_pos hq] at h
            have := ih _ _ _ _ _ h
            simp only [List.length_cons]; omega
          · rw [if_neg hq] at h; cases h
      · rw [if_neg hs] at h ⊢
        have := ih _ _ _ _ _ h; omega
    · rw [if_neg hz] at h ⊢
      split at h
      · rename_i hp; rw [hp]; rfl
      · cases h

/-- A changed leaf on the next level. -/
theorem upZ_set (l : List Int) : ∀ i y, i < l.length → upZ (l.set i y) = (upZ l).set (i / 2) ((upZ (l.set i y)).getD (i / 2) 0) := by
  refine pairs_ind (p := fun l => ∀ i y, i < l.length → upZ (l.set i y) = (upZ l).set (i / 2) ((upZ (l.set i y)).getD (i / 2) 0)) (fun i y h => by simp at h) (fun a i y h => ?_) (fun a b r ih i y h => ?_) l.length l (Nat.le_refl _)
  · have : i = 0 := by simpa using h
    subst this; rfl
  · match i, h with
    | 0, _ => simp [upZ_two]
    | 1, _ => simp [upZ_two]
    | i + 2, h =>
      have hi := ih i y (by simpa using h)
      have e1 : (i + 2) / 2 = i / 2 + 1 := by omega
      rw [e1]
      simp only [List.set_cons_succ, upZ_two, List.getD_cons_succ]
      rw [← hi]
theorem proof_set : ∀ (n : Nat) (l : List Int) (i : Nat) (y : Int), i < l.length → proofF n (l.set i y) i = proofF n l i := by
  intro n
  induction n with
  | zero => intros; rfl
  | succ n ih =>
    intro l i y hi
    simp only [proofF, List.length_set]
    have hne : sib i ≠ i := by unfold sib; split <;> omega
    have e : (l.set i y).getD (sib i) 0 = l.getD (sib i) 0 := by
      simp only [List.getD]
      rw [List.getElem?_set_ne (fun h => hne h.symm)]
    rw [e, upZ_set l i y hi, ih (upZ l) (i / 2) _ (by rw [upZ_len]; omega)]
/-- A changed leaf changes the root. -/
theorem root_set {n : Nat} {l : List Int} {i : Nat} {y : Int} (hd : ∀ x ∈ l, digB x = true) (hi : i < l.length) (hl : l.length ≤ 2 ^ n) (hy : digB y = true) (e : rootF n (l.set i y) = rootF n l) : y = l.getD i 0 := by
  have h1 := check_proof n l i hd hi hl
  have h2 := check_proof n (l.set i y) i (fun x hx => by rcases List.mem_or_eq_of_mem_set hx with h | rfl; exact hd x h; exact hy) (by simpa using hi) (by simpa using hl)
  rw [List.length_set, proof_set n l i y hi, e] at h2
  have e2 : (l.set i y).getD i 0 = y := by simp [List.getD, hi]
  rw [e2] at h2
  exact check_leaf _ _ _ _ _ _ _ hy (dig_getD hd hi) h2 h1
theorem rootF_bd : ∀ (n : Nat) (l : List Int), (∀ x ∈ l, digB x = true) → 0 < l.length → digB (rootF n l) = true := by
  intro n
  induction n with
  | zero => intro l hd hl; exact dig_getD hd hl
  | succ n ih =>
    intro l hd hl
    simp only [rootF]
    split
    · exact ih _ (upZ_dig l hd) (by rw [upZ_len]; omega)
    · exact dig_getD hd hl

/-! texts -/
def txtS (n : Int) (c : UInt8) : Int := (257 * n + c.toNat + 1) % 991
def txtF (n : Int) (l : List UInt8) : Int := l.foldl txtS n
def txtZ (l : List UInt8) : Int := txtF 7 l
theorem txtS_bd (n : Int) (c : UInt8) : 0 ≤ txtS n c ∧ txtS n c ≤ 990 := by unfold txtS; omega
theorem txtF_bd (l : List UInt8) : ∀ n, 0 ≤ n → n ≤ 990 → 0 ≤ txtF n l ∧ txtF n l ≤ 990 := by
  induction l with
  | nil => intro n h0 h1; exact ⟨h0, h1⟩
  | cons c l ih => intro n _ _; exact ih _ (txtS_bd n c).1 (txtS_bd n c).2
theorem txtZ_bd (l : List UInt8) : 0 ≤ txtZ l ∧ txtZ l ≤ 990 := txtF_bd l 7 (by omega) (by omega)
theorem txtZ_snoc (l : List UInt8) (c : UInt8) : txtZ (l ++ [c]) = txtS (txtZ l) c := by unfold txtZ txtF; rw [List.foldl_append]; rfl
theorem txtF_ne (l : List UInt8) : ∀ n m, 0 ≤ n → n ≤ 990 → 0 ≤ m → m ≤ 990 → n ≠ m → txtF n l ≠ txtF m l := by
  induction l with
  | nil => intro n m _ _ _ _ h; exact h
  | cons c l ih =>
    intro n m h0 h1 h2 h3 h
    refine ih _ _ (txtS_bd n c).1 (txtS_bd n c).2 (txtS_bd m c).1 (txtS_bd m c).2 ?_
    unfold txtS; omega
theorem txtZ_byte (l r : List UInt8) {b c : UInt8} (h : b ≠ c) : txtZ (l ++ [b] ++ r) ≠ txtZ (l ++ [c] ++ r) := by
  have e : ∀ x, txtZ (l ++ [x] ++ r) = txtF (txtS (txtZ l) x) r := fun x => by unfold txtZ txtF; rw [List.foldl_append, List.foldl_append]; rfl
  rw [e, e]
  refine txtF_ne r _ _ (txtS_bd _ _).1 (txtS_bd _ _).2 (txtS_bd _ _).1 (txtS_bd _ _).2 ?_
  have hb := b.toNat_lt
  have hc := c.toNat_lt
  have hn : b.toNat ≠ c.toNat := fun e => h (UInt8.toNat_inj.1 e)
  have := txtZ_bd l
  unfold txtS; omega

theorem txt_step (s : ByteArray) (k : Nat) (hk : k < s.size) : txtZ (s.data.toList.take (k + 1)) = txtS (txtZ (s.data.toList.take k)) s[k] := by
  rw [← txtZ_snoc, List.take_succ_eq_append_getElem (by simpa using hk)]; rfl
def htZ (s : ByteArray) : Int := if s.size ≤ 60 then txtZ s.data.toList else -1
def hpZ (a b : Int) : Int := if digB a = true ∧ digB b = true then pairZ a b else -1
def leavesB (l : List Int) : Bool := decide (1 ≤ l.length ∧ l.length ≤ 16) && l.all digB
theorem leavesB_bad {l : List Int} {k : Nat} (hk : k < l.length) (h : digB l[k] = false) : leavesB l = false := by unfold leavesB; rw [pre_not hk h, Bool.and_false]
theorem leavesB_len {l : List Int} {k : Nat} (h : Pre digB l k) (hk : l.length ≤ k) : leavesB l = decide (1 ≤ l.length ∧ l.length ≤ 16) := by unfold leavesB; rw [pre_all h hk, Bool.and_true]
theorem leavesB_iff {l : List Int} (h : leavesB l = true) : (1 ≤ l.length ∧ l.length ≤ 16) ∧ ∀ x ∈ l, digB x = true := by
  unfold leavesB at h; rw [Bool.and_eq_true, decide_eq_true_eq, List.all_eq_true] at h; exact h
def mrZ (l : List Int) : Int := if leavesB l = true then rootF 4 l else -1
def mpZ (l : List Int) (i : Int) : List Int := if leavesB l = true ∧ 0 ≤ i ∧ i < l.length then proofF 4 l i.toNat else []
def mcB (root size i leaf : Int) (p : List Int) : Bool := decide (1 ≤ size ∧ size ≤ 16 ∧ 0 ≤ i ∧ i < size ∧ digB leaf = true ∧ checkF 4 size.toNat i.toNat leaf p = some root)

theorem mrZ_yes {l : List Int} (h : leavesB l = true) : mrZ l = rootF 4 l := by unfold mrZ; rw [if_pos h]
theorem mrZ_no {l : List Int} (h : leavesB l = false) : mrZ l = -1 := by unfold mrZ; rw [if_neg (by simp [h])]
theorem mpZ_yes {l : List Int} {i : Nat} (h : leavesB l = true) (hi : i < l.length) : mpZ l i = proofF 4 l i := by unfold mpZ; rw [if_pos ⟨h, by omega, by omega⟩]; rfl
theorem mpZ_no {l : List Int} {i : Int} (h : ¬ (leavesB l = true ∧ 0 ≤ i ∧ i < l.length)) : mpZ l i = [] := by unfold mpZ; rw [if_neg h]
theorem sib_int (j : Nat) : (j : Int) + 1 - (j : Int) % 2 * 2 = (sib j : Nat) := by unfold sib; split <;> omega
theorem sib_ne (j : Nat) : sib j ≠ j := by unfold sib; split <;> omega
theorem rootF_up {n : Nat} {l : List Int} (h : 1 < l.length) : rootF (n + 1) l = rootF n (upZ l) := by rw [rootF, if_pos h]
theorem rootF_end {n : Nat} {l : List Int} (h : l.length = 1) : rootF n l = l.getD 0 0 := by
  cases n with
  | zero => rfl
  | succ n => rw [rootF, if_neg (by omega)]
theorem proofF_sib {n : Nat} {l : List Int} {i : Nat} (h : 1 < l.length) (hs : sib i < l.length) : proofF (n + 1) l i = l.getD (sib i) 0 :: proofF n (upZ l) (i / 2) := by rw [proofF, if_pos h, if_pos hs]; rfl
theorem proofF_lone {n : Nat} {l : List Int} {i : Nat} (h : 1 < l.length) (hs : ¬ sib i < l.length) : proofF (n + 1) l i = proofF n (upZ l) (i / 2) := by rw [proofF, if_pos h, if_neg hs]; rfl
theorem proofF_end {n : Nat} {l : List Int} {i : Nat} (h : ¬ 1 < l.length) : proofF n l i = [] := by
  cases n with
  | zero => rfl
  | succ n => rw [proofF, if_neg h]
theorem proofF_len : ∀ (n : Nat) (l : List Int) (i : Nat), (proofF n l i).length ≤ n := by
  intro n
  induction n with
  | zero => intro _ _; exact Nat.le_refl _
  | succ n ih =>
    intro l i
    by_cases h : 1 < l.length
    · have := ih (upZ l) (i / 2)
      by_cases hs : sib i < l.length
      · rw [proofF_sib h hs, List.length_cons]; omega
      · rw [proofF_lone h hs]; omega
    · rw [proofF_end h]; simp
theorem pow_half {n k : Nat} (h : k ≤ 2 ^ (n + 1)) : (k + 1) / 2 ≤ 2 ^ n := by rw [Nat.pow_succ] at h; omega
theorem pow_pos' {n k : Nat} (h : k ≤ 2 ^ n) (h1 : 1 < k) : ∃ m, n = m + 1 := by
  cases n with
  | zero => simp at h; omega
  | succ n => exact ⟨n, rfl⟩

theorem checkF_end {n size i : Nat} {x : Int} {p : List Int} (h : ¬ 1 < size) : checkF n size i x p = if p = [] then some x else none := by
  cases n with
  | zero => rfl
  | succ n => simp only [checkF]; rw [if_neg h]
theorem checkF_lone {n size i : Nat} {x : Int} {p : List Int} (h : 1 < size) (hs : ¬ sib i < size) : checkF (n + 1) size i x p = checkF n ((size + 1) / 2) (i / 2) x p := by simp only [checkF]; rw [if_pos h, if_neg hs]
theorem checkF_none {n size i : Nat} {x : Int} (h : 1 < size) (hs : sib i < size) : checkF (n + 1) size i x [] = none := by simp only [checkF]; rw [if_pos h, if_pos hs]
theorem checkF_sib {n size i : Nat} {x q : Int} {r : List Int} (h : 1 < size) (hs : sib i < size) (hq : digB q = true) : checkF (n + 1) size i x (q :: r) = checkF n ((size + 1) / 2) (i / 2) (if i < sib i then pairZ x q else pairZ q x) r := by simp only [checkF]; rw [if_pos h, if_pos hs, if_pos hq]
theorem checkF_bad {n size i : Nat} {x q : Int} {r : List Int} (h : 1 < size) (hs : sib i < size) (hq : digB q = false) : checkF (n + 1) size i x (q :: r) = none := by simp only [checkF]; rw [if_pos h, if_pos hs, if_neg (by simp [hq])]
theorem mcB_yes {root leaf : Int} {size i : Nat} {p : List Int} (h1 : 1 ≤ size) (h2 : size ≤ 16) (h3 : i < size) (h4 : digB leaf = true) : mcB root size i leaf p = decide (checkF 4 size i leaf p = some root) := by
  unfold mcB
  refine decide_eq_decide.2 ⟨fun h => h.2.2.2.2.2, fun h => ⟨by omega, by omega, by omega, by omega, h4, h⟩⟩
theorem mcB_no {root size i leaf : Int} {p : List Int} (h : ¬ (1 ≤ size ∧ size ≤ 16 ∧ 0 ≤ i ∧ i < size ∧ digB leaf = true)) : mcB root size i leaf p = false :=
  decide_eq_false fun h' => h ⟨h'.1, h'.2.1, h'.2.2.1, h'.2.2.2.1, h'.2.2.2.2.1⟩

theorem mrZ_bd (l : List Int) : -1 ≤ mrZ l ∧ mrZ l ≤ 990 := by
  by_cases h : leavesB l = true
  · rw [mrZ_yes h]
    have := digB_bd (rootF_bd 4 l (leavesB_iff h).2 (by have := (leavesB_iff h).1; omega))
    omega
  · rw [mrZ_no (by simpa using h)]; omega
theorem mpZ_len (l : List Int) (i : Int) : (mpZ l i).length ≤ 4 := by
  unfold mpZ; split
  · exact proofF_len _ _ _
  · simp

theorem htZ_yes (s : ByteArray) (h : s.size ≤ 60) : 0 ≤ htZ s ∧ htZ s ≤ 990 := by unfold htZ; rw [if_pos h]; exact txtZ_bd _
theorem htZ_no (s : ByteArray) (h : 60 < s.size) : htZ s = -1 := by unfold htZ; rw [if_neg (by omega)]
theorem htZ_empty : htZ ⟨#[]⟩ = 7 := rfl
theorem hpZ_yes {a b : Int} (h : digB a = true) (h' : digB b = true) : hpZ a b = pairZ a b := by unfold hpZ; rw [if_pos ⟨h, h'⟩]
theorem hpZ_no {a b : Int} (h : ¬ (digB a = true ∧ digB b = true)) : hpZ a b = -1 := by unfold hpZ; rw [if_neg h]

theorem str_ne {s : ByteArray} (h : ¬ s.size = 0) : s.toList.isEmpty = false := by
  rw [ByteArray.toList_eq]
  cases e : s.data.toList with
  | nil => exact absurd (by have := congrArg List.length e; simpa using this) h
  | cons _ _ => rfl
theorem str_nil {s : ByteArray} (h : s.size = 0) : s.toList.isEmpty = true := by
  have e : s.data.toList = [] := List.eq_nil_of_length_eq_zero (by simpa using h)
  rw [ByteArray.toList_eq, e]
  rfl

/-- A text with one byte changed. -/
theorem txt_change (s : ByteArray) (k : Nat) (hk : k < s.size) (c : UInt8) (hc : c ≠ s[k]) (h60 : s.size ≤ 60) (t : ByteArray) (ht : t = s.extract 0 k ++ ⟨#[c]⟩ ++ s.extract (k + 1) s.size) : t.size = s.size ∧ 0 ≤ htZ t ∧ htZ t ≤ 990 ∧ htZ t ≠ htZ s := by
  have hd : t.data.toList = s.data.toList.take k ++ [c] ++ s.data.toList.drop (k + 1) := by
    subst ht
    simp
    exact List.take_of_length_le (by simp)
  have hsd : s.data.toList = s.data.toList.take k ++ [s[k]] ++ s.data.toList.drop (k + 1) := by
    have hk' : k < s.data.toList.length := by simpa using hk
    have h := List.take_append_drop (k + 1) s.data.toList
    rw [List.take_succ_eq_append_getElem hk'] at h
    exact h.symm
  have hsz : t.size = s.size := by
    have h1 := congrArg List.length hd
    simp at h1
    have e1 : s.data.size = s.size := rfl
    have e2 : t.data.size = t.size := rfl
    omega
  have hn := txtZ_byte (s.data.toList.take k) (s.data.toList.drop (k + 1)) hc
  rw [← hd, ← hsd] at hn
  have hb := htZ_yes t (by omega)
  refine ⟨hsz, hb.1, hb.2, ?_⟩
  unfold htZ
  rw [if_pos (show t.size ≤ 60 by omega), if_pos h60]
  exact hn

/-- A byte xor 1, 2 or 3. -/
theorem xor_byte (b : UInt8) (m : Int) (h1 : 1 ≤ m) (h3 : m ≤ 3) : ∃ c : UInt8, bits .xor .u8 (b.toNat : Int) m = (c.toNat : Int) ∧ c ≠ b := by
  have key : ∀ x : Fin 256, ∀ y : Fin 3, bits .xor .u8 (x.val : Int) ((y.val : Int) + 1) = ((x.val ^^^ (y.val + 1) : Nat) : Int) ∧ x.val ^^^ (y.val + 1) ≠ x.val ∧ x.val ^^^ (y.val + 1) < 256 := by decide +kernel
  obtain ⟨hz, hne, hlt⟩ := key ⟨b.toNat, UInt8.toNat_lt b⟩ ⟨(m - 1).toNat, by omega⟩
  simp only at hz hne hlt
  rw [show (((m - 1).toNat : Nat) : Int) + 1 = m by omega] at hz
  generalize b.toNat ^^^ ((m - 1).toNat + 1) = z at hz hne hlt
  refine ⟨UInt8.ofNat z, ?_, ?_⟩
  · rw [UInt8.toNat_ofNat', Nat.mod_eq_of_lt (show z < 2 ^ 8 from hlt), hz]
  · intro e
    apply hne
    rw [← e, UInt8.toNat_ofNat', Nat.mod_eq_of_lt (show z < 2 ^ 8 from hlt)]

theorem wrap_tmod3 (n : Nat) : ∃ m : Int, 1 ≤ m ∧ m ≤ 3 ∧ IntKind.u8.wrap (IntKind.i64.wrap (1 + ((n : Int)).tmod 3)) = m := by
  have e : ((n : Int)).tmod 3 = (n : Int) % 3 := Int.tmod_eq_emod_of_nonneg (by omega)
  refine ⟨1 + (n : Int) % 3, by omega, by omega, ?_⟩
  rw [e, IntWalk.i64_in _ (by omega), IntWalk.u8_in _ (by omega)]

theorem mcB_root {root root' size i leaf : Int} {p : List Int} (h : mcB root size i leaf p = true) (hne : root' ≠ root) : mcB root' size i leaf p = false := by
  have h1 := of_decide_eq_true h
  exact decide_eq_false fun h2 => hne (by
    have := h2.2.2.2.2.2.symm.trans h1.2.2.2.2.2
    simpa using this)
theorem mcB_len {root size i leaf : Int} {p q : List Int} (h : mcB root size i leaf p = true) (hne : q.length ≠ p.length) : mcB root size i leaf q = false := by
  have h1 := of_decide_eq_true h
  exact decide_eq_false fun h2 => hne ((check_len _ _ _ _ _ _ h2.2.2.2.2.2).trans (check_len _ _ _ _ _ _ h1.2.2.2.2.2).symm)
theorem mcB_short {root size i leaf : Int} {p : List Int} (h : mcB root size i leaf p = true) : p.length ≤ 4 := by
  have h1 := of_decide_eq_true h
  rw [check_len _ _ _ _ _ _ h1.2.2.2.2.2]
  exact plen_le _ _ _
theorem leaves_get {l : List Int} (h : leavesB l = true) {i : Nat} (hi : i < l.length) : digB l[i] = true := (leavesB_iff h).2 _ (List.getElem_mem hi)
theorem getD_at {l : List Int} {i : Nat} (hi : i < l.length) : l.getD i 0 = l[i] := by simp [hi]
theorem mc_proof {l : List Int} {i : Nat} (h : leavesB l = true) (hi : i < l.length) : mcB (mrZ l) l.length i l[i] (mpZ l i) = true := by
  obtain ⟨hl, hd⟩ := leavesB_iff h
  rw [mcB_yes (by omega) (by omega) hi (leaves_get h hi), mrZ_yes h, mpZ_yes h hi, ← getD_at hi]
  exact decide_eq_true (check_proof 4 l i hd hi (by omega))
theorem mc_leaf {l : List Int} {i : Nat} {x : Int} (h : leavesB l = true) (hi : i < l.length) (hx : x ≠ l[i]) : mcB (mrZ l) l.length i x (mpZ l i) = false := by
  obtain ⟨hl, hd⟩ := leavesB_iff h
  cases hm : mcB (mrZ l) l.length i x (mpZ l i) with
  | false => rfl
  | true =>
    have h1 := (of_decide_eq_true (mc_proof h hi)).2.2.2.2.2
    have h2 := of_decide_eq_true hm
    exact absurd (check_leaf _ _ _ _ _ _ _ h2.2.2.2.2.1 (leaves_get h hi) h2.2.2.2.2.2 h1) hx

theorem mrZ_pos {l : List Int} (h : leavesB l = true) : 0 ≤ mrZ l ∧ mrZ l ≤ 990 := by
  rw [mrZ_yes h]
  obtain ⟨hl, hd⟩ := leavesB_iff h
  exact digB_bd (rootF_bd 4 l hd (by omega))

theorem mc_leaf' {l : List Int} {i : Int} {x : Int} (h : leavesB l = true) (h0 : 0 ≤ i) (hi : i < l.length) (hx : x ≠ l.getD i.toNat 0) : mcB (mrZ l) l.length i x (mpZ l i) = false := by
  obtain ⟨i, rfl⟩ := Int.eq_ofNat_of_zero_le h0
  have hi' : i < l.length := by omega
  exact mc_leaf h hi' (by rw [← getD_at hi']; exact hx)

end Go.Proofs.Ytgpbogalknmcmab

/- What spec's functions of digests and hash trees answer, each by a walk of its text: the answers are those of plain functions on lists; conditions: a list that is read has fewer than 2^40 elements, numbers that are paired are digests. -/
namespace Go.Proofs.Ytgpbogalknmcmab
open Go.RowKit

theorem TI2 : IntT Try.prog 23 3 := ⟨Try.underlying23, by kernel_rfl⟩

theorem spec_l2Digest (n : Int) (w : World) : Calls Try.prog 82 #[.int .i64 n] w fun e w' => e = .returned (.bool (digB n)) ∧ w = w' := by
  go_enter Try.func82, Try.ntmps82
  go_wp2_with (go_at_call 44; refine (spec_l6In _ _ _ _).mono ?_; rintro e w' ⟨rfl, rfl⟩)
  go_ret
  exact ⟨ret_bool (by unfold digB; simp), rfl⟩

end Go.Proofs.Ytgpbogalknmcmab

/- Votes, voters and tallies as lists of numbers, and the reference's tests of them, each by a walk of its text; conditions: lists are shorter than 2^40, and where the text asks it, the committee is valid. -/
namespace Go.Proofs.Ytgpbogalknmcmab
open Go.RowKit

/-- A vote: round, author, digest. -/
structure Vt where
  r : Int
  a : Int
  d : Int
deriving DecidableEq
def Vt.fd (v : Vt) : List Fd := [.i v.r, .i v.a, .i v.d]
def vt0 : Vt := ⟨0, 0, 0⟩
def vtRB (r : Int) : Bool := decide (0 ≤ r ∧ r ≤ 30)
def vtAB (a : Int) : Bool := decide (0 ≤ a ∧ a ≤ 6)
def voteB (v : Vt) : Bool := vtRB v.r && (vtAB v.a && digB v.d)
def vbefB (a b : Vt) : Bool := decide (a.r < b.r ∨ a.r = b.r ∧ a.a < b.a)
/-- The vote at k of a voter with this floor is valid, not below the floor and behind the one before it. -/
def okVt (f : Int) (g : List Vt) (i : Nat) : Bool := voteB (g.getD i vt0) && (decide (f ≤ (g.getD i vt0).r) && (i == 0 || vbefB (g.getD (i - 1) vt0) (g.getD i vt0)))
def voterB (f : Int) (g : List Vt) : Bool := allB (okVt f g) g.length && (decide (0 ≤ f ∧ f ≤ 31) && decide (g.length ≤ 40))
def tallyB (c : List Int) (v : Vt) (ms : List Int) : Bool := validB c && (voteB v && membersB c.length ms)
theorem getVt {g : List Vt} {k : Nat} (h : k < g.length) : g.getD k vt0 = g[k] := by simp [List.getD, List.getElem?_eq_getElem h]

/-- A list of votes in memory. -/
def Vts (w : World) (g : List Vt) (v : Value) (fp : List Nat) : Prop := Rd w (rowsD (g.map Vt.fd)) v fp
theorem Vts.under {w w' : World} {g : List Vt} {v : Value} {fp : List Nat} (h : Vts w g v fp) (hb : Below w.heap.size w w') : Vts w' g v fp := Rd.under h hb
theorem Vts.slice {w : World} {g : List Vt} {v : Value} {fp : List Nat} (h : Vts w g v fp) : ∃ a cap, v = .slice a g.length cap := by
  obtain ⟨a, cap, rfl⟩ := Rd.slice h
  exact ⟨a, cap, by simp⟩
theorem Vts.at {w : World} {g : List Vt} {a : Option Addr} {n cap : Nat} {fp : List Nat} (h : Vts w g (.slice a n cap) fp) (hne : 0 < g.length) : ∃ b off, a = some ⟨b, off, none⟩ ∧ b < w.heap.size ∧ ∀ k (hk : k < g.length),
    w.cell? ⟨b, off + k * 3, none⟩ = some (.int .i64 g[k].r) ∧ w.cell? ⟨b, off + k * 3 + 1, none⟩ = some (.int .i64 g[k].a) ∧ w.cell? ⟨b, off + k * 3 + 2, none⟩ = some (.int .i64 g[k].d) := by
  obtain ⟨b, off, rfl, hb, hc⟩ := rows_at (es := g.map Vt.fd) (m := 3) h (by simpa using hne) (fun e he => by obtain ⟨x, _, rfl⟩ := List.mem_map.1 he; rfl)
  refine ⟨b, off, rfl, hb, fun k hk => ?_⟩
  have hk' : k < (g.map Vt.fd).length := by simpa using hk
  have he : (g.map Vt.fd)[k] = g[k].fd := by simp
  obtain ⟨c0, _, h0, r0⟩ := hc k hk' 0 (by rw [he]; simp [Vt.fd])
  obtain ⟨c1, _, h1, r1⟩ := hc k hk' 1 (by rw [he]; simp [Vt.fd])
  obtain ⟨c2, _, h2, r2⟩ := hc k hk' 2 (by rw [he]; simp [Vt.fd])
  obtain rfl := rd_i r0 (x := g[k].r) (by simp only [he]; rfl)
  obtain rfl := rd_i r1 (x := g[k].a) (by simp only [he]; rfl)
  obtain rfl := rd_i r2 (x := g[k].d) (by simp only [he]; rfl)
  exact ⟨h0, h1, h2⟩

theorem spec_l12Vote (r a d : Int) (w : World) :
    Calls Try.prog 69 #[.agg #[.int .i64 r, .int .i64 a, .int .i64 d]] w fun e w' => e = .returned (.bool (voteB ⟨r, a, d⟩)) ∧ Below w.heap.size w w' := by
  have hb0 : Below w.heap.size w (w.alloc (.cells #[.int .i64 r, .int .i64 a, .int .i64 d] 25)) := (Below.refl _ _).alloc (Nat.le_refl _) _
  have s0 := Str.new w 25 #[.int .i64 r, .int .i64 a, .int .i64 d]
  have k0 := s0.cell 0 (v := .int .i64 r) rfl
  have k1 := s0.cell 1 (v := .int .i64 a) rfl
  have k2 := s0.cell 2 (v := .int .i64 d) rfl
  have H1 := Lib.hid (fun W => spec_l6In r 0 30 W)
  have H2 := Lib.hid (fun W => spec_l6In a 0 6 W)
  have H4 := Lib.hid (fun W => spec_l2Digest d W)
  have Hb0 := Lib.hid hb0; clear hb0 s0
  have Hres := Lib.hid (show voteB ⟨r, a, d⟩ = (vtRB r && (vtAB a && digB d)) from rfl)
  go_enter Try.func69, Try.ntmps69
  go_wp2_with fail
  generalize w.alloc (.cells #[.int .i64 r, .int .i64 a, .int .i64 d] 25) = W0 at *
  refine (H1.out W0).mono ?_
  rintro e w1 ⟨rfl, rfl⟩
  rw [show decide (0 ≤ r ∧ r ≤ 30) = vtRB r from rfl]
  cases h1 : vtRB r with
  | false =>
    go_wp2
    go_ret
    exact ⟨ret_bool (by rw [Hres.out, h1]; rfl), Hb0.out⟩
  | true =>
  go_wp2_with fail
  refine (H2.out W0).mono ?_
  rintro e w1 ⟨rfl, rfl⟩
  rw [show decide (0 ≤ a ∧ a ≤ 6) = vtAB a from rfl]
  cases h2 : vtAB a with
  | false =>
    go_wp2
    go_ret
    exact ⟨ret_bool (by rw [Hres.out, h1, h2]; rfl), Hb0.out⟩
  | true =>
  go_wp2_with fail
  refine (H4.out W0).mono ?_
  rintro e w1 ⟨rfl, rfl⟩
  cases h4 : digB d with
  | false =>
    go_wp2
    go_ret
    exact ⟨ret_bool (by rw [Hres.out, h1, h2, h4]; rfl), Hb0.out⟩
  | true =>
  go_wp2
  go_ret
  exact ⟨ret_bool (by rw [Hres.out, h1, h2, h4]; rfl), Hb0.out⟩

end Go.Proofs.Ytgpbogalknmcmab

/- The reference's tests of tallies, each by a walk of its text; conditions: lists are shorter than 2^40. -/
namespace Go.Proofs.Ytgpbogalknmcmab
open Go.RowKit

set_option maxHeartbeats 1000000 in
theorem spec_l12Tally (ac : Option Addr) (capc : Nat) (c : List Int) (r a d : Int) (am : Option Addr) (cm : Nat) (ms : List Int) (w : World) (hn : c.length ≤ 1099511627776) (hbig : ms.length ≤ 1099511627776) (hc : IntsAt w ac c) (hm : IntsAt w am ms) :
    Calls Try.prog 43 #[.slice ac c.length capc, .agg #[.int .i64 r, .int .i64 a, .int .i64 d, .slice am ms.length cm]] w fun e w' => e = .returned (.bool (tallyB c ⟨r, a, d⟩ ms)) ∧ Below w.heap.size w w' := by
  have hb0 : Below w.heap.size w (w.alloc (.cells #[.int .i64 r, .int .i64 a, .int .i64 d, .slice am ms.length cm] 27)) := (Below.refl _ _).alloc (Nat.le_refl _) _
  have s0 := Str.new w 27 #[.int .i64 r, .int .i64 a, .int .i64 d, .slice am ms.length cm]
  have hsz0 : (w.alloc (.cells #[.int .i64 r, .int .i64 a, .int .i64 d, .slice am ms.length cm] 27)).heap.size = w.heap.size + 1 := by simp
  have k0 := s0.cell 0 (v := .int .i64 r) rfl
  have k1 := s0.cell 1 (v := .int .i64 a) rfl
  have k2 := s0.cell 2 (v := .int .i64 d) rfl
  have k3 := s0.cell 3 (v := .slice am ms.length cm) rfl
  have HC := Lib.hid (hc.below hb0)
  have HM := Lib.hid (hm.below hb0)
  have Hb0 := Lib.hid hb0; clear hb0 s0 hc hm
  have H1 := Lib.hid (fun W (h : IntsAt W ac c) => spec_CommitteeValid ac capc c W hn h)
  have H2 := Lib.hid (fun W => spec_l12Vote r a d W)
  have H3 := Lib.hid (fun W (h : IntsAt W am ms) => spec_l1Members ac capc c.length am cm ms W hn hbig h)
  have Hres := Lib.hid (show tallyB c ⟨r, a, d⟩ ms = (validB c && (voteB ⟨r, a, d⟩ && membersB c.length ms)) from rfl)
  go_enter Try.func43, Try.ntmps43
  go_wp2_with fail
  generalize w.alloc (.cells #[.int .i64 r, .int .i64 a, .int .i64 d, .slice am ms.length cm] 27) = W0 at *
  refine (H1.out W0 HC.out).mono ?_
  rintro e w1 ⟨rfl, rfl⟩
  cases h1 : validB c with
  | false =>
    go_wp2
    go_ret
    exact ⟨ret_bool (by rw [Hres.out, h1]; rfl), Hb0.out⟩
  | true =>
  go_wp2_with fail
  refine (H2.out W0).mono ?_
  rintro e w1 ⟨rfl, hb1⟩
  have k3 := (hb1.cell (p := ⟨w.heap.size, 3, none⟩) (by simp only; omega)).trans k3
  have HM1 := Lib.hid (HM.out.below hb1)
  have Hb1 := Lib.hid (below_step Hb0.out Hb0.out.size hb1)
  clear hb1 k0 k1 k2
  cases h2 : voteB ⟨r, a, d⟩ with
  | false =>
    go_wp2
    go_ret
    exact ⟨ret_bool (by rw [Hres.out, h1, h2]; rfl), Hb1.out⟩
  | true =>
  go_wp2_with fail
  refine (H3.out w1 HM1.out).mono ?_
  rintro e w2 ⟨rfl, hd⟩
  have Hb2 := Lib.hid (Hb1.out.trans (hd.below _))
  clear hd
  cases h3 : membersB c.length ms with
  | false =>
    go_wp2
    go_ret
    exact ⟨ret_bool (by rw [Hres.out, h1, h2, h3]; rfl), Hb2.out⟩
  | true =>
    go_wp2
    go_ret
    exact ⟨ret_bool (by rw [Hres.out, h1, h2, h3]; rfl), Hb2.out⟩

/-- The tally is done. -/
def doneB (c : List Int) (v : Vt) (ms : List Int) : Bool := tallyB c v ms && decide (2 * totalZ c / 3 + 1 ≤ weightZ c ms)

set_option maxHeartbeats 1000000 in
theorem spec_TallyDone (ac : Option Addr) (capc : Nat) (c : List Int) (r a d : Int) (am : Option Addr) (cm : Nat) (ms : List Int) (w : World) (hn : c.length ≤ 1099511627776) (hbig : ms.length ≤ 1099511627776) (hc : IntsAt w ac c) (hm : IntsAt w am ms) :
    Calls Try.prog 17 #[.slice ac c.length capc, .agg #[.int .i64 r, .int .i64 a, .int .i64 d, .slice am ms.length cm]] w fun e w' => e = .returned (.bool (doneB c ⟨r, a, d⟩ ms)) ∧ Below w.heap.size w w' := by
  have hb0 : Below w.heap.size w (w.alloc (.cells #[.int .i64 r, .int .i64 a, .int .i64 d, .slice am ms.length cm] 27)) := (Below.refl _ _).alloc (Nat.le_refl _) _
  have s0 := Str.new w 27 #[.int .i64 r, .int .i64 a, .int .i64 d, .slice am ms.length cm]
  have hsz0 : (w.alloc (.cells #[.int .i64 r, .int .i64 a, .int .i64 d, .slice am ms.length cm] 27)).heap.size = w.heap.size + 1 := by simp
  have k0 := s0.cell 0 (v := .int .i64 r) rfl
  have k1 := s0.cell 1 (v := .int .i64 a) rfl
  have k2 := s0.cell 2 (v := .int .i64 d) rfl
  have k3 := s0.cell 3 (v := .slice am ms.length cm) rfl
  have HC := Lib.hid (hc.below hb0)
  have HM := Lib.hid (hm.below hb0)
  have Hb0 := Lib.hid hb0; clear hb0 s0 hc hm
  have H1 := Lib.hid (fun W (h : IntsAt W ac c) (h' : IntsAt W am ms) => spec_l12Tally ac capc c r a d am cm ms W hn hbig h h')
  have Hres := Lib.hid (show doneB c ⟨r, a, d⟩ ms = (tallyB c ⟨r, a, d⟩ ms && decide (2 * totalZ c / 3 + 1 ≤ weightZ c ms)) from rfl)
  go_enter Try.func17, Try.ntmps17
  go_wp2_with fail
  generalize w.alloc (.cells #[.int .i64 r, .int .i64 a, .int .i64 d, .slice am ms.length cm] 27) = W0 at *
  refine (H1.out W0 HC.out HM.out).mono ?_
  rintro e w1 ⟨rfl, hb1⟩
  have k3 := (hb1.cell (p := ⟨w.heap.size, 3, none⟩) (by simp only; omega)).trans k3
  have HM1 := Lib.hid (HM.out.below hb1)
  have HC1 := Lib.hid (HC.out.below hb1)
  have Hb1 := Lib.hid (below_step Hb0.out Hb0.out.size hb1)
  clear hb1 k0 k1 k2
  cases h1 : tallyB c ⟨r, a, d⟩ ms with
  | false =>
    go_wp2
    go_ret
    exact ⟨ret_bool (by rw [Hres.out, h1]; rfl), Hb1.out⟩
  | true =>
  have hv : validB c = true := by
    have h := h1; unfold tallyB at h; simp only [Bool.and_eq_true] at h; exact h.1
  have hms : membersB c.length ms = true := by
    have h := h1; unfold tallyB at h; simp only [Bool.and_eq_true] at h; exact h.2.2
  have H2 := Lib.hid (spec_l1Weight ac capc c am cm ms w1 hv hms hbig HC1.out HM1.out)
  have H3 := Lib.hid (spec_l1Quorum ac capc c w1 hv HC1.out)
  clear hv hms
  go_wp2_with fail
  refine H2.out.mono ?_
  rintro e w2 ⟨rfl, rfl⟩
  go_wp2_with fail
  refine H3.out.mono ?_
  rintro e w2 ⟨rfl, rfl⟩
  go_wp2
  go_ret
  exact ⟨ret_bool (by rw [Hres.out, h1]; simp), Hb1.out⟩

end Go.Proofs.Ytgpbogalknmcmab

/- impl's small functions of votes and tallies, each by a walk of its text; conditions: lists are shorter than 2^40, and where the text asks it, the committee is valid. -/
namespace Go.Proofs.Ytgpbogalknmcmab
open Go.RowKit

theorem vt_isRound (n : Int) (w : World) : Calls Try.prog 77 #[.int .i64 n] w fun e w' => e = .returned (.bool (vtRB n)) ∧ w = w' := by
  by_cases h : 0 ≤ n
  · have Hf := Lib.hid (show vtRB n = decide (n ≤ 30) by unfold vtRB; rw [Bool.eq_iff_iff]; simp only [decide_eq_true_eq]; omega)
    go_enter Try.func77, Try.ntmps77
    go_wp2
    go_ret
    exact ⟨ret_bool Hf.out.symm, rfl⟩
  · have Hf := Lib.hid (show vtRB n = false by unfold vtRB; exact decide_eq_false (by omega))
    go_enter Try.func77, Try.ntmps77
    go_wp2
    go_ret
    exact ⟨ret_bool Hf.out.symm, rfl⟩

theorem vt_isDigest (n : Int) (w : World) : Calls Try.prog 79 #[.int .i64 n] w fun e w' => e = .returned (.bool (digB n)) ∧ w = w' := by
  by_cases h : 0 ≤ n
  · have Hf := Lib.hid (show digB n = decide (n < 991) by unfold digB; rw [Bool.eq_iff_iff]; simp only [decide_eq_true_eq]; omega)
    go_enter Try.func79, Try.ntmps79
    go_wp2
    go_ret
    exact ⟨ret_bool Hf.out.symm, rfl⟩
  · have Hf := Lib.hid (show digB n = false by unfold digB; exact decide_eq_false (by omega))
    go_enter Try.func79, Try.ntmps79
    go_wp2
    go_ret
    exact ⟨ret_bool Hf.out.symm, rfl⟩

theorem vt_isAuthor (n : Int) (w : World) : Calls Try.prog 78 #[.int .i64 n] w fun e w' => e = .returned (.bool (vtAB n)) ∧ w = w' := by
  obtain ⟨z, hz⟩ : ∃ z, z = decide (0 ≤ n ∧ n ≤ 6) := ⟨_, rfl⟩
  rw [show (vtAB n) = z from hz.symm]
  by_cases h : 0 ≤ n
  · have Hf := Lib.hid (show z = decide (n < 7) from hz.trans (decide_eq_decide.2 (by omega))); clear hz
    go_enter Try.func78, Try.ntmps78
    go_wp2
    go_ret
    exact ⟨ret_bool Hf.out.symm, rfl⟩
  · have Hf := Lib.hid (show z = false from hz.trans (decide_eq_false (by omega))); clear hz
    go_enter Try.func78, Try.ntmps78
    go_wp2
    go_ret
    exact ⟨ret_bool Hf.out.symm, rfl⟩

theorem vote_valid (r a d : Int) (w : World) :
    Calls Try.prog 62 #[.agg #[.int .i64 r, .int .i64 a, .int .i64 d]] w fun e w' => e = .returned (.bool (voteB ⟨r, a, d⟩)) ∧ Below w.heap.size w w' := by
  have hb0 : Below w.heap.size w (w.alloc (.cells #[.int .i64 r, .int .i64 a, .int .i64 d] 25)) := (Below.refl _ _).alloc (Nat.le_refl _) _
  have s0 := Str.new w 25 #[.int .i64 r, .int .i64 a, .int .i64 d]
  have k0 := s0.cell 0 (v := .int .i64 r) rfl
  have k1 := s0.cell 1 (v := .int .i64 a) rfl
  have k2 := s0.cell 2 (v := .int .i64 d) rfl
  have H1 := Lib.hid (fun W => vt_isRound r W)
  have H2 := Lib.hid (fun W => vt_isAuthor a W)
  have H4 := Lib.hid (fun W => vt_isDigest d W)
  have Hb0 := Lib.hid hb0; clear hb0 s0
  have Hres := Lib.hid (show voteB ⟨r, a, d⟩ = (vtRB r && (vtAB a && digB d)) from rfl)
  go_enter Try.func62, Try.ntmps62
  go_wp2_with fail
  generalize w.alloc (.cells #[.int .i64 r, .int .i64 a, .int .i64 d] 25) = W0 at *
  refine (H1.out W0).mono ?_
  rintro e w1 ⟨rfl, rfl⟩
  cases h1 : vtRB r with
  | false =>
    go_wp2
    go_ret
    exact ⟨ret_bool (by rw [Hres.out, h1]; rfl), Hb0.out⟩
  | true =>
  go_wp2_with fail
  refine (H2.out W0).mono ?_
  rintro e w1 ⟨rfl, rfl⟩
  cases h2 : vtAB a with
  | false =>
    go_wp2
    go_ret
    exact ⟨ret_bool (by rw [Hres.out, h1, h2]; rfl), Hb0.out⟩
  | true =>
  go_wp2_with fail
  refine (H4.out W0).mono ?_
  rintro e w1 ⟨rfl, rfl⟩
  go_wp2
  go_ret
  exact ⟨ret_bool (by rw [Hres.out, h1, h2]; rfl), Hb0.out⟩

theorem vote_place (r a d : Int) (w : World) :
    Calls Try.prog 73 #[.agg #[.int .i64 r, .int .i64 a, .int .i64 d]] w fun e w' => e = .returned (.agg #[.int .i64 r, .int .i64 a]) ∧ Below w.heap.size w w' := by
  have hb0 : Below w.heap.size w ((w.alloc (.cells #[.int .i64 r, .int .i64 a, .int .i64 d] 25)).alloc (.cells #[.int .i64 0, .int .i64 0] 85)) := ((Below.refl _ w).alloc (Nat.le_refl _) _).alloc (by simp) _
  have s0 := (Str.new w 25 #[.int .i64 r, .int .i64 a, .int .i64 d]).alloc (.cells #[.int .i64 0, .int .i64 0] 85)
  have s1 := Str.new (w.alloc (.cells #[.int .i64 r, .int .i64 a, .int .i64 d] 25)) 85 #[.int .i64 0, .int .i64 0]
  simp only [World.size_alloc] at s1
  have k0 := s0.cell 0 (v := .int .i64 r) rfl
  have k1 := s0.cell 1 (v := .int .i64 a) rfl
  have g0 := s1.frozen 0
  have g1 := s1.frozen 1
  have j0 := s1.cell 0 (v := .int .i64 0) rfl
  have j1 := s1.cell 1 (v := .int .i64 0) rfl
  have u := (s1.set 0 (.int .i64 r)).set 1 (.int .i64 a)
  have e0 := u.cell 0 (v := .int .i64 r) rfl
  have e1 := u.cell 1 (v := .int .i64 a) rfl
  clear u s0 s1
  clear hb0
  go_enter Try.func73, Try.ntmps73
  go_wp2
  refine bodyPost_ret (v := .agg #[.int .i64 r, .int .i64 a]) (by simp [results, Try.f73, go_sem]) rfl ?_
  exact ⟨rfl, ((Below.refl _ w).alloc (Nat.le_refl _) _).alloc (by simp) _⟩

set_option maxHeartbeats 1000000 in
theorem tally_fits (ac : Option Addr) (capc : Nat) (c : List Int) (r a d : Int) (am : Option Addr) (cm : Nat) (ms : List Int) (w : World) (hn : c.length ≤ 1099511627776) (hbig : ms.length ≤ 1099511627776) (hc : IntsAt w ac c) (hm : IntsAt w am ms) :
    Calls Try.prog 39 #[.agg #[.int .i64 r, .int .i64 a, .int .i64 d, .slice am ms.length cm], .slice ac c.length capc] w fun e w' => e = .returned (.bool (tallyB c ⟨r, a, d⟩ ms)) ∧ Below w.heap.size w w' := by
  have hb0 : Below w.heap.size w (w.alloc (.cells #[.int .i64 r, .int .i64 a, .int .i64 d, .slice am ms.length cm] 27)) := (Below.refl _ _).alloc (Nat.le_refl _) _
  have s0 := Str.new w 27 #[.int .i64 r, .int .i64 a, .int .i64 d, .slice am ms.length cm]
  have hsz0 : (w.alloc (.cells #[.int .i64 r, .int .i64 a, .int .i64 d, .slice am ms.length cm] 27)).heap.size = w.heap.size + 1 := by simp
  have k0 := s0.cell 0 (v := .int .i64 r) rfl
  have k1 := s0.cell 1 (v := .int .i64 a) rfl
  have k2 := s0.cell 2 (v := .int .i64 d) rfl
  have k3 := s0.cell 3 (v := .slice am ms.length cm) rfl
  have HC := Lib.hid (hc.below hb0)
  have HM := Lib.hid (hm.below hb0)
  have Hb0 := Lib.hid hb0; clear hb0 s0 hc hm
  have H1 := Lib.hid (fun W (h : IntsAt W ac c) => committee_valid ac capc c W hn h)
  have H2 := Lib.hid (fun W => vote_valid r a d W)
  have H3 := Lib.hid (fun (h : c.length ≤ 7) W (h' : IntsAt W am ms) => committee_hasMembers ac capc c.length am cm ms W (by omega) hbig h')
  have Hres := Lib.hid (show tallyB c ⟨r, a, d⟩ ms = (validB c && (voteB ⟨r, a, d⟩ && membersB c.length ms)) from rfl)
  go_enter Try.func39, Try.ntmps39
  go_wp2_with fail
  generalize w.alloc (.cells #[.int .i64 r, .int .i64 a, .int .i64 d, .slice am ms.length cm] 27) = W0 at *
  refine (H1.out W0 HC.out).mono ?_
  rintro e w1 ⟨rfl, rfl⟩
  cases h1 : validB c with
  | false =>
    go_wp2
    go_ret
    exact ⟨ret_bool (by rw [Hres.out, h1]; rfl), Hb0.out⟩
  | true =>
  go_wp2_with fail
  refine (H2.out W0).mono ?_
  rintro e w1 ⟨rfl, hb1⟩
  have k3 := (hb1.cell (p := ⟨w.heap.size, 3, none⟩) (by simp only; omega)).trans k3
  have HM1 := Lib.hid (HM.out.below hb1)
  have Hb1 := Lib.hid (below_step Hb0.out Hb0.out.size hb1)
  clear hb1 k0 k1 k2
  cases h2 : voteB ⟨r, a, d⟩ with
  | false =>
    go_wp2
    go_ret
    exact ⟨ret_bool (by rw [Hres.out, h1, h2]; rfl), Hb1.out⟩
  | true =>
  have hl7 := (validB_len h1).2
  go_wp2_with fail
  refine (H3.out hl7 w1 HM1.out).mono ?_
  rintro e w2 ⟨rfl, rfl⟩
  go_wp2
  go_ret
  exact ⟨ret_bool (by rw [Hres.out, h1, h2]; rfl), Hb1.out⟩

theorem slices_Index (a : Option Addr) (cap : Nat) (l : List Int) (n : Int) (w : World) (hbig : l.length ≤ 1099511627776) (hc : IntsAt w a l) :
    Calls Try.prog 83 #[.slice a l.length cap, .int .i64 n] w fun e w' => ∃ z : Int, e = .returned (.int .i64 z) ∧ decide (0 ≤ z) = hasB l n ∧ w = w' := by
  rcases hc.len with h0 | ⟨b, off, rfl, hb, hc⟩
  all_goals
    go_enter Try.func83, Try.ntmps83
    go_wp2
    go_loop [8] (fun i => ∃ k : Nat, k ≤ l.length ∧ i = .int .i64 k ∧ Pre (fun x => x != n) l k) (fun i => l.length - (intOf i).toNat)
    case atStart => exact ⟨0, by omega, rfl, pre_zero _ _⟩
    case round =>
      obtain ⟨k, hk, rfl, hg⟩ := hrel
      by_cases hlt : k < l.length
      · first
        | (exfalso; omega)
        | (have hcell := hc k hlt
           have Hc := Lib.hid hc; clear hc
           by_cases e : l[k] = n
           · have e1 : (n == l[k]) = true := by rw [beq_iff_eq]; exact e.symm
             have hf := hasB_yes hlt
             rw [e] at hf
             have Hf := Lib.hid hf; clear hf e
             go_wp2
             go_ret
             exact ⟨_, rfl, by rw [Hf.out]; exact decide_eq_true (by omega), rfl⟩
           · have e1 : (n == l[k]) = false := by rw [beq_eq_false_iff_ne]; exact fun h => e h.symm
             have Hs := Lib.hid (pre_step hg hlt (by simpa using e)); clear hg e
             go_wp2
             go_round
             case rel => exact ⟨k + 1, by omega, by go_num, Hs.out⟩
             case measure => simp [intOf]; omega)
      · have Hf := Lib.hid (hasB_no hg (by omega)); clear hg
        go_wp2
        go_ret
        exact ⟨_, rfl, by rw [Hf.out]; rfl, rfl⟩

theorem slices_Contains (a : Option Addr) (cap : Nat) (l : List Int) (n : Int) (w : World) (hbig : l.length ≤ 1099511627776) (hc : IntsAt w a l) :
    Calls Try.prog 75 #[.slice a l.length cap, .int .i64 n] w fun e w' => e = .returned (.bool (hasB l n)) ∧ w = w' := by
  have H := Lib.hid (slices_Index a cap l n w hbig hc)
  go_enter Try.func75, Try.ntmps75
  go_wp2_with fail
  refine H.out.mono ?_
  rintro e w1 ⟨z, rfl, hz, rfl⟩
  have Hz := Lib.hid hz; clear hz
  go_wp2
  go_ret
  exact ⟨ret_bool (by rw [← Hz.out]), rfl⟩

end Go.Proofs.Ytgpbogalknmcmab

/- A region that draws its order, operation by operation, where the condition on the world is kept up to a last operation alone (a store into what was loaded): general steps, nothing here speaks of the program. -/
namespace Go.Proofs.Ytgpbogalknmcmab
open Go.RowKit

/-- Whatever order is picked from here on; S holds behind every operation until number m has come up. -/
def wpAnyL (P : Program) (md : Region.Mode) (ops : Array Oper) (Q : Exit → Act → World → Prop) (m : Nat) (S : World → Prop) : Nat → Array Bool → Act → World → Prop
  | 0, listed, a, w => Region.ready md ops listed = [] ∧ Q .normal a w
  | fuel + 1, listed, a, w =>
    (Region.ready md ops listed = [] → Q .normal a w) ∧
    ∀ i ∈ Region.ready md ops listed, wpOp P ops Q i (fun a' w' => ((listed.setIfInBounds i true).getD m true = false → S w') ∧ wpAnyL P md ops Q m S fuel (listed.setIfInBounds i true) a' w') a w

section
variable {P : Program} {md : Region.Mode} {ops : Array Oper} {Q : Exit → Act → World → Prop} {S : World → Prop} {m : Nat}

theorem any_of_L : ∀ (fuel : Nat) (listed : Array Bool) (a : Act) (w : World), wpAnyL P md ops Q m S fuel listed a w → wpAny P md ops Q fuel listed a w
  | 0, _, _, _, h => h
  | fuel + 1, _, _, _, h => ⟨h.1, fun i hi => wpOp_mono (fun a' w' h' => any_of_L fuel _ a' w' h'.2) (h.2 i hi)⟩

/-- Of two that may come up, neither waits for the other. -/
theorem ready_pair {listed : Array Bool} {i j : Nat} (hi : i ∈ Region.ready md ops listed) (hj : j ∈ Region.ready md ops listed) :
    listed.getD j true = false ∧ ∃ o, ops[j]? = some o ∧ ∀ e ∈ o.after, Region.binds md e = true → e.on ≠ i := by
  obtain ⟨hun, o, ho, hall⟩ := mem_ready.1 hj
  refine ⟨hun, o, ho, fun e he hb heq => ?_⟩
  have h1 := hall e he hb
  have h0 := (mem_ready.1 hi).1
  rw [heq] at h1
  by_cases hlt : i < listed.size <;> simp [hlt] at h0 h1
  rw [h0] at h1; cases h1
/-- Number m waits for number i. -/
def waits (md : Region.Mode) (ops : Array Oper) (m i : Nat) : Bool := (ops[m]?.map fun o => o.after.any fun e => Region.binds md e && e.on == i).getD false
theorem waits_not {listed : Array Bool} {i : Nat} (hw : waits md ops m i = true) (hi : i ∈ Region.ready md ops listed) : m ∉ Region.ready md ops listed := by
  intro hm
  obtain ⟨_, o, ho, hno⟩ := ready_pair hi hm
  unfold waits at hw
  rw [ho, Option.map_some, Option.getD_some, Array.any_eq_true'] at hw
  obtain ⟨e, he, hb⟩ := hw
  rw [Bool.and_eq_true, beq_iff_eq] at hb
  exact hno e he hb.1 hb.2

/-- Whoever may come up ahead of number i leaves its temporaries alone. -/
def FreeAt (md : Region.Mode) (ops : Array Oper) (oi : Oper) (i : Nat) (listed : Array Bool) : Prop :=
  ∀ j oj, ops[j]? = some oj → j ≠ i → listed.getD j true = false → (∀ e ∈ oj.after, Region.binds md e = true → e.on ≠ i) → oi.apart ops oj = true
theorem FreeAt.set {oi : Oper} {i j : Nat} {listed : Array Bool} (h : FreeAt md ops oi i listed) (hj : listed.getD j true = false) : FreeAt md ops oi i (listed.setIfInBounds j true) := by
  intro k ok hk hki hun hno
  refine h k ok hk hki ?_ hno
  rcases Nat.decEq j k with hjk | hjk
  · rwa [getD_set_ne true hjk] at hun
  · exact hjk ▸ hj
theorem firstL {i : Nat} {oi : Oper} {v : Value} (hi : ops[i]? = some oi) (hsel : ∀ (j : Nat) (o : Oper) cs b, ops[j]? = some o → o.op ≠ .select cs b)
    (hQ : ∀ c a w, Q (.panic c) (a.put oi.dst v) w → Q (.panic c) a w) (hw : waits md ops m i = true) (fuel : Nat) :
    ∀ (listed : Array Bool) (a : Act) (w : World), FreeAt md ops oi i listed → listed.getD m true = false → i ∈ Region.ready md ops listed → YieldsIf P ops S oi v a → S w →
      wpAnyL P md ops Q m S fuel (listed.setIfInBounds i true) (a.put oi.dst v) w → wpAnyL P md ops Q m S (fuel + 1) listed a w := by
  have im : ∀ {listed}, i ∈ Region.ready md ops listed → i ≠ m := fun hr e => waits_not hw hr (e ▸ hr)
  induction fuel with
  | zero =>
    intro listed a w _ _ hr hy hS H
    refine ⟨fun h => absurd hr (by rw [h]; simp), fun j hj => ?_⟩
    rcases Nat.decEq j i with hji | rfl
    · exact absurd (ready_mono hj hji) (by rw [H.1]; simp)
    · exact hy.wpOp hi hS ⟨fun _ => hS, H⟩
  | succ fuel ih =>
    intro listed a w hfree hmf hr hy hS H
    refine ⟨fun h => absurd hr (by rw [h]; simp), fun j hj => ?_⟩
    rcases Nat.decEq j i with hji | rfl
    · have hjm : j ≠ m := fun e => waits_not hw hr (e ▸ hj)
      obtain ⟨hjun, oj, hoj, hno⟩ := ready_pair hr hj
      refine wpOp_mono (fun a' w' h3 => ?_) (wpOp_putIf hoj (hfree j oj hoj hji hjun hno) (fun cs b => hsel i oi cs b hi) (fun cs b => hsel j oj cs b hoj) hQ hy (H.2 j (ready_mono hj hji)))
      have hS' : S w' := h3.2.1 (by rw [getD_set_ne true hjm, getD_set_ne true (im hr)]; exact hmf)
      exact ⟨fun _ => hS', ih _ a' w' (hfree.set hjun) (by rw [getD_set_ne true hjm]; exact hmf) (ready_mono hr (Ne.symm hji)) h3.1 hS' (by rw [Array.setIfInBounds_comm _ _ hji]; exact h3.2.2)⟩
    · exact hy.wpOp hi hS ⟨fun _ => hS, H⟩
end

section
variable {P : Program} {md : Region.Mode} {l : List Oper} {Q : Exit → Act → World → Prop} {S : World → Prop} {oi : Oper} {rest : List Oper} {fuel m : Nat} {listed : Array Bool} {a : Act} {w : World}

/-- Take number i first: it is carried out and yields v in every world that meets S. -/
theorem takeL (i : Nat) {v : Value} (hi : l.drop i = oi :: rest) (hs : Region.noSelect l.toArray = true) (hf : Region.free md l.toArray listed i = true) (hr : (Region.ready md l.toArray listed).contains i = true) (hm : waits md l.toArray m i = true) (hm' : listed.getD m true = false)
    (hQ : ∀ c a w, Q (.panic c) (a.put oi.dst v) w → Q (.panic c) a w) (hS : S w) (hw : Region.wanted oi (yielded l.toArray a.tmps) = true)
    (hy : ∀ w, S w → (execOp a.eval oi).run P w = .ok (.value v) w)
    (h : wpAnyL P md l.toArray Q m S fuel (listed.setIfInBounds i true) (a.put oi.dst v) w) : wpAnyL P md l.toArray Q m S (fuel + 1) listed a w :=
  firstL (drop_at hi) (Region.noSelect_spec hs) hQ hm fuel listed a w (Region.free_spec (drop_at hi) hf) hm' (by simpa using hr) (.inl ⟨hw, hy⟩) hS h
/-- Number i is left out by its guard. -/
theorem skipL (i : Nat) (hi : l.drop i = oi :: rest) (hs : Region.noSelect l.toArray = true) (hf : Region.free md l.toArray listed i = true) (hr : (Region.ready md l.toArray listed).contains i = true) (hm : waits md l.toArray m i = true) (hm' : listed.getD m true = false)
    (hQ : ∀ c a w, Q (.panic c) (a.put oi.dst undef) w → Q (.panic c) a w) (hS : S w) (hw : Region.wanted oi (yielded l.toArray a.tmps) = false)
    (h : wpAnyL P md l.toArray Q m S fuel (listed.setIfInBounds i true) (a.put oi.dst undef) w) : wpAnyL P md l.toArray Q m S (fuel + 1) listed a w :=
  firstL (drop_at hi) (Region.noSelect_spec hs) hQ hm fuel listed a w (Region.free_spec (drop_at hi) hf) hm' (by simpa using hr) (.inr ⟨hw, rfl⟩) hS h
/-- Number i alone may come up, and is not the last: it is carried out, and S is shown behind it. -/
theorem callL (i : Nat) (hi : l.drop i = oi :: rest) (hr : Region.ready md l.toArray listed = [i]) (hw : Region.wanted oi (yielded l.toArray a.tmps) = true)
    (h : ∀ K' : Act → World → Prop, Shut (∀ a w, S w → (S w → wpAnyL P md l.toArray Q m S fuel (listed.setIfInBounds i true) a w) → K' a w) → Oper.wp P oi a w K' Q) : wpAnyL P md l.toArray Q m S (fuel + 1) listed a w := by
  refine ⟨fun h0 => absurd (hr ▸ h0) (by simp), fun j hj => ?_⟩
  rw [hr] at hj
  have : j = i := by simpa using hj
  subst this
  exact wpOp_step (drop_at hi) fun K' hK => by rw [if_pos hw]; exact h K' fun a w hS hW => hK a w ⟨fun _ => hS, hW hS⟩
/-- The last one. -/
theorem lastL (hi : l.drop m = oi :: rest) (hr : Region.ready md l.toArray listed = [m]) (hend : Region.ready md l.toArray (listed.setIfInBounds m true) = []) (hm : (listed.setIfInBounds m true).getD m true = true) (hw : Region.wanted oi (yielded l.toArray a.tmps) = true)
    (h : ∀ K' : Act → World → Prop, Shut (∀ a w, Q .normal a w → K' a w) → Oper.wp P oi a w K' Q) : wpAnyL P md l.toArray Q m S (fuel + 1) listed a w := by
  refine ⟨fun h0 => absurd (hr ▸ h0) (by simp), fun j hj => ?_⟩
  rw [hr] at hj
  have : j = m := by simpa using hj
  subst this
  refine wpOp_step (drop_at hi) fun K' hK => by
    rw [if_pos hw]
    refine h K' fun a w hq => hK a w ⟨fun e => absurd (hm.symm.trans e) (by simp), ?_⟩
    cases fuel with
    | zero => exact ⟨hend, hq⟩
    | succ f => exact ⟨fun _ => hq, by rw [hend]; simp⟩
theorem wp_region_L (m : Nat) (S : World → Prop) {id : Nat} {ops : Array Oper} {a : Act} {w : World} (hm : P.follows .mixedOrders = true) (hS : S w.drew)
    (h : S w.drew → wpAnyL P .any ops Q m S ops.size (Array.replicate ops.size false) a w.drew) : (Code.region id ops true).wp P Q a w :=
  wp_region_any hm (any_of_L _ _ _ _ (h hS))
end

end Go.Proofs.Ytgpbogalknmcmab

/- A region that draws its order and keeps a condition up to its last operation: either of two operations may come up next. A general step; nothing here speaks of the program. -/
namespace Go.Proofs.Ytgpbogalknmcmab
open Go.RowKit
section
variable {P : Program} {md : Region.Mode} {l : List Oper} {Q : Exit → Act → World → Prop} {S : World → Prop} {oi oj : Oper} {rest rest' : List Oper} {fuel m : Nat} {listed : Array Bool} {a : Act} {w : World}
/-- Number i or number j may come up, neither is the last. -/
theorem twoL (i j : Nat) (hi : l.drop i = oi :: rest) (hj : l.drop j = oj :: rest') (hr : Region.ready md l.toArray listed = [i, j]) (hw : Region.wanted oi (yielded l.toArray a.tmps) = true) (hw' : Region.wanted oj (yielded l.toArray a.tmps) = true)
    (h : ∀ K' : Act → World → Prop, Shut (∀ a w, S w → (S w → wpAnyL P md l.toArray Q m S fuel (listed.setIfInBounds i true) a w) → K' a w) → Oper.wp P oi a w K' Q)
    (h' : ∀ K' : Act → World → Prop, Shut (∀ a w, S w → (S w → wpAnyL P md l.toArray Q m S fuel (listed.setIfInBounds j true) a w) → K' a w) → Oper.wp P oj a w K' Q) : wpAnyL P md l.toArray Q m S (fuel + 1) listed a w := by
  refine ⟨fun h0 => absurd (hr ▸ h0) (by simp), fun k hk => ?_⟩
  rw [hr] at hk
  have hk' : k = i ∨ k = j := by simpa using hk
  rcases hk' with e | e
  · subst e
    exact wpOp_step (drop_at hi) fun K' hK => by rw [if_pos hw]; exact h K' fun a w hS hW => hK a w ⟨fun _ => hS, hW hS⟩
  · subst e
    exact wpOp_step (drop_at hj) fun K' hK => by rw [if_pos hw']; exact h' K' fun a w hS hW => hK a w ⟨fun _ => hS, hW hS⟩
end
end Go.Proofs.Ytgpbogalknmcmab

/- The members that two tallies have in common, as impl finds them with a closure, by a walk of its text; conditions: lists are shorter than 2^40. -/
namespace Go.Proofs.Ytgpbogalknmcmab
open Go.RowKit

theorem contradiction1 (B : Nat) (C : Nat) (ok : Bool) (am : Option Addr) (cm : Nat) (ms : List Int) (n : Int) (w : World) (hbig : ms.length ≤ 1099511627776) (hB : w.cell? ⟨B, 0, none⟩ = some (.bool ok)) (hC : w.cell? ⟨C, 3, none⟩ = some (.slice am ms.length cm)) (hm : IntsAt w am ms) :
    Calls Try.prog 74 #[.int .i64 n, .pointer (some ⟨B, 0, none⟩), .pointer (some ⟨C, 0, none⟩)] w fun e w' => e = .returned (.bool (ok && hasB ms n)) ∧ w = w' := by
  have H := Lib.hid (slices_Contains am cm ms n w hbig hm)
  go_enter Try.func74, Try.ntmps74
  cases ok with
  | false =>
    go_wp2
    go_ret
    exact ⟨rfl, rfl⟩
  | true =>
  go_wp2_with fail
  refine H.out.mono ?_
  rintro e w1 ⟨rfl, rfl⟩
  go_wp2
  go_ret
  exact ⟨ret_bool (by simp), rfl⟩

theorem eq_place (x y : Int × Int) (w : World) : (binOp .eql 85 (.agg #[.int .i64 x.1, .int .i64 x.2]) (.agg #[.int .i64 y.1, .int .i64 y.2])).run Try.prog w = .ok (.bool (x.1 == y.1 && x.2 == y.2)) w := by
  have hS : Try.prog.underlying 85 = some (.struct (Try.prog.fieldsOf 85)) := by kernel_rfl
  have hp : Try.prog.stoodInHeld 85 = false := by kernel_rfl
  rw [run_eql_struct, show (10000 : Nat) = 9999 + 1 from rfl, run_equalIn_agg w 9999 85 _ _ hS hp]
  simp only [Program.fieldsOf, Try.underlying85]
  go_simp
  by_cases h1 : x.fst = y.fst <;> by_cases h2 : x.snd = y.snd <;> simp [h1, h2]

set_option maxHeartbeats 2000000 in
theorem contradiction (am : Option Addr) (cm : Nat) (v u : Vt) (ms : List Int) (w : World) :
    Calls Try.prog 54 #[.agg #[.int .i64 v.r, .int .i64 v.a, .int .i64 v.d, .slice am ms.length cm], .agg #[.int .i64 u.r, .int .i64 u.a, .int .i64 u.d]] w fun e w' => ∃ B, e = .returned (.func (.func 74) #[] #[.pointer (some ⟨B, 0, none⟩), .pointer (some ⟨w.heap.size, 0, none⟩)]) ∧ w.heap.size ≤ B ∧ B < w'.heap.size ∧ w.heap.size < w'.heap.size ∧ w'.cell? ⟨B, 0, none⟩ = some (.bool (decide (v.r = u.r) && (decide (v.a = u.a) && decide (v.d ≠ u.d)))) ∧ w'.cell? ⟨w.heap.size, 3, none⟩ = some (.slice am ms.length cm) ∧ Below w.heap.size w w' := by
  have hb0 : Below w.heap.size w ((w.alloc (.cells #[.int .i64 v.r, .int .i64 v.a, .int .i64 v.d, .slice am ms.length cm] 27)).alloc (.cells #[.int .i64 u.r, .int .i64 u.a, .int .i64 u.d] 25)) := ((Below.refl _ w).alloc (Nat.le_refl _) _).alloc (by simp) _
  have s0 := (Str.new w 27 #[.int .i64 v.r, .int .i64 v.a, .int .i64 v.d, .slice am ms.length cm]).alloc (.cells #[.int .i64 u.r, .int .i64 u.a, .int .i64 u.d] 25)
  have s1 := Str.new (w.alloc (.cells #[.int .i64 v.r, .int .i64 v.a, .int .i64 v.d, .slice am ms.length cm] 27)) 25 #[.int .i64 u.r, .int .i64 u.a, .int .i64 u.d]
  simp only [World.size_alloc] at s1
  have hsz0 : ((w.alloc (.cells #[.int .i64 v.r, .int .i64 v.a, .int .i64 v.d, .slice am ms.length cm] 27)).alloc (.cells #[.int .i64 u.r, .int .i64 u.a, .int .i64 u.d] 25)).heap.size = w.heap.size + 2 := by simp
  have k0 := s0.cell 0 (v := .int .i64 v.r) rfl
  have k1 := s0.cell 1 (v := .int .i64 v.a) rfl
  have k2 := s0.cell 2 (v := .int .i64 v.d) rfl
  have k3 := s0.cell 3 (v := .slice am ms.length cm) rfl
  have j0 := s1.cell 0 (v := .int .i64 u.r) rfl
  have j1 := s1.cell 1 (v := .int .i64 u.a) rfl
  have j2 := s1.cell 2 (v := .int .i64 u.d) rfl
  have Hb0 := Lib.hid hb0; clear hb0 s0 s1
  have H1 := Lib.hid (fun W => vote_place v.r v.a v.d W)
  have H2 := Lib.hid (fun W => vote_place u.r u.a u.d W)
  have Hres := Lib.hid (show ((v.r == u.r && v.a == u.a) && (v.d != u.d)) = (decide (v.r = u.r) && (decide (v.a = u.a) && decide (v.d ≠ u.d))) by by_cases h1 : v.r = u.r <;> by_cases h2 : v.a = u.a <;> by_cases h3 : v.d = u.d <;> simp [h1, h2, h3])
  have hq := fun W => eq_place (v.r, v.a) (u.r, u.a) W
  go_enter Try.func54, Try.ntmps54
  go_wp2_with fail
  generalize (w.alloc (.cells #[.int .i64 v.r, .int .i64 v.a, .int .i64 v.d, .slice am ms.length cm] 27)).alloc (.cells #[.int .i64 u.r, .int .i64 u.a, .int .i64 u.d] 25) = W0 at *
  have hd : Below W0.heap.size W0 W0.drew := (Below.refl _ _).drew
  have hz : W0.heap.size = w.heap.size + 2 := hsz0
  refine wp_region_L 15 (fun w' => Below W0.heap.size W0 w' ∧ w'.cell? ⟨w.heap.size, 0, none⟩ = some (.int .i64 v.r) ∧ w'.cell? ⟨w.heap.size, 1, none⟩ = some (.int .i64 v.a) ∧ w'.cell? ⟨w.heap.size, 2, none⟩ = some (.int .i64 v.d) ∧ w'.cell? ⟨w.heap.size, 3, none⟩ = some (.slice am ms.length cm) ∧ w'.cell? ⟨w.heap.size + 1, 0, none⟩ = some (.int .i64 u.r) ∧ w'.cell? ⟨w.heap.size + 1, 1, none⟩ = some (.int .i64 u.a) ∧ w'.cell? ⟨w.heap.size + 1, 2, none⟩ = some (.int .i64 u.d)) (by kernel_rfl) ⟨hd, k0, k1, k2, k3, j0, j1, j2⟩ (fun hH => ?_)
  generalize W0.drew = wa at *
  clear hd k0 k1 k2 k3 j0 j1 j2
  refine takeL 0 (v := ?va1) rfl (by kernel_rfl) (by kernel_rfl) (by kernel_rfl) (by kernel_rfl) (by kernel_rfl) (fun _ _ _ h => h) hH rfl ?ya1 ?ra1
  case ya1 => intro W hSw; go_simp; try with_reducible rfl
  try simp only [Act.put, List.setIfInBounds_toArray, List.set_cons_zero, List.set_cons_succ]
  refine takeL 1 (v := ?va2) rfl (by kernel_rfl) (by kernel_rfl) (by kernel_rfl) (by kernel_rfl) (by kernel_rfl) (fun _ _ _ h => h) hH rfl ?ya2 ?ra2
  case ya2 => intro W hSw; go_simp; try with_reducible rfl
  try simp only [Act.put, List.setIfInBounds_toArray, List.set_cons_zero, List.set_cons_succ]
  refine takeL 3 (v := ?va3) rfl (by kernel_rfl) (by kernel_rfl) (by kernel_rfl) (by kernel_rfl) (by kernel_rfl) (fun _ _ _ h => h) hH rfl ?ya3 ?ra3
  case ya3 => intro W hSw; go_simp; try with_reducible rfl
  try simp only [Act.put, List.setIfInBounds_toArray, List.set_cons_zero, List.set_cons_succ]
  refine twoL 2 14 rfl rfl (by kernel_rfl) rfl rfl (fun K hK => ?_) (fun K hK => ?_)
  · skip
    go_simp
    go_at_call 73
    refine (H1.out _).mono ?_
    rintro e wx1 ⟨rfl, hbx⟩
    have hlx := hH.1.size
    have hsx := hbx.size
    refine hK.out _ _ ⟨hH.1.trans (hbx.mono hH.1.size), (hbx.cell (p := ⟨w.heap.size, 0, none⟩) (by simp only; omega)).trans hH.2.1, (hbx.cell (p := ⟨w.heap.size, 1, none⟩) (by simp only; omega)).trans hH.2.2.1, (hbx.cell (p := ⟨w.heap.size, 2, none⟩) (by simp only; omega)).trans hH.2.2.2.1, (hbx.cell (p := ⟨w.heap.size, 3, none⟩) (by simp only; omega)).trans hH.2.2.2.2.1, (hbx.cell (p := ⟨w.heap.size + 1, 0, none⟩) (by simp only; omega)).trans hH.2.2.2.2.2.1, (hbx.cell (p := ⟨w.heap.size + 1, 1, none⟩) (by simp only; omega)).trans hH.2.2.2.2.2.2.1, (hbx.cell (p := ⟨w.heap.size + 1, 2, none⟩) (by simp only; omega)).trans hH.2.2.2.2.2.2.2⟩ (fun hH => ?_)
    clear hK K hlx hsx hbx
    try simp only [Act.put, List.setIfInBounds_toArray, List.set_cons_zero, List.set_cons_succ]
    refine twoL 4 14 rfl rfl (by kernel_rfl) rfl rfl (fun K hK => ?_) (fun K hK => ?_)
    · skip
      go_simp
      go_at_call 73
      refine (H2.out _).mono ?_
      rintro e wx2 ⟨rfl, hbx⟩
      have hlx := hH.1.size
      have hsx := hbx.size
      refine hK.out _ _ ⟨hH.1.trans (hbx.mono hH.1.size), (hbx.cell (p := ⟨w.heap.size, 0, none⟩) (by simp only; omega)).trans hH.2.1, (hbx.cell (p := ⟨w.heap.size, 1, none⟩) (by simp only; omega)).trans hH.2.2.1, (hbx.cell (p := ⟨w.heap.size, 2, none⟩) (by simp only; omega)).trans hH.2.2.2.1, (hbx.cell (p := ⟨w.heap.size, 3, none⟩) (by simp only; omega)).trans hH.2.2.2.2.1, (hbx.cell (p := ⟨w.heap.size + 1, 0, none⟩) (by simp only; omega)).trans hH.2.2.2.2.2.1, (hbx.cell (p := ⟨w.heap.size + 1, 1, none⟩) (by simp only; omega)).trans hH.2.2.2.2.2.2.1, (hbx.cell (p := ⟨w.heap.size + 1, 2, none⟩) (by simp only; omega)).trans hH.2.2.2.2.2.2.2⟩ (fun hH => ?_)
      clear hK K hlx hsx hbx
      try simp only [Act.put, List.setIfInBounds_toArray, List.set_cons_zero, List.set_cons_succ]
      refine takeL 5 (v := ?va4) rfl (by kernel_rfl) (by kernel_rfl) (by kernel_rfl) (by kernel_rfl) (by kernel_rfl) (fun _ _ _ h => h) hH rfl ?ya4 ?ra4
      case ya4 => intro W hSw; go_simp; try with_reducible rfl
      try simp only [Act.put, List.setIfInBounds_toArray, List.set_cons_zero, List.set_cons_succ]
      refine takeL 6 (v := ?va5) rfl (by kernel_rfl) (by kernel_rfl) (by kernel_rfl) (by kernel_rfl) (by kernel_rfl) (fun _ _ _ h => h) hH rfl ?ya5 ?ra5
      case ya5 => intro W hSw; go_simp; try with_reducible rfl
      try simp only [Act.put, List.setIfInBounds_toArray, List.set_cons_zero, List.set_cons_succ]
      cases hqv : (v.r == u.r && v.a == u.a) with
      | false =>
        refine skipL 7 rfl (by kernel_rfl) (by kernel_rfl) (by kernel_rfl) (by kernel_rfl) (by kernel_rfl) (fun _ _ _ h => h) hH rfl ?_
        try simp only [Act.put, List.setIfInBounds_toArray, List.set_cons_zero, List.set_cons_succ]
        refine skipL 8 rfl (by kernel_rfl) (by kernel_rfl) (by kernel_rfl) (by kernel_rfl) (by kernel_rfl) (fun _ _ _ h => h) hH rfl ?_
        try simp only [Act.put, List.setIfInBounds_toArray, List.set_cons_zero, List.set_cons_succ]
        refine skipL 9 rfl (by kernel_rfl) (by kernel_rfl) (by kernel_rfl) (by kernel_rfl) (by kernel_rfl) (fun _ _ _ h => h) hH rfl ?_
        try simp only [Act.put, List.setIfInBounds_toArray, List.set_cons_zero, List.set_cons_succ]
        refine skipL 10 rfl (by kernel_rfl) (by kernel_rfl) (by kernel_rfl) (by kernel_rfl) (by kernel_rfl) (fun _ _ _ h => h) hH rfl ?_
        try simp only [Act.put, List.setIfInBounds_toArray, List.set_cons_zero, List.set_cons_succ]
        refine skipL 11 rfl (by kernel_rfl) (by kernel_rfl) (by kernel_rfl) (by kernel_rfl) (by kernel_rfl) (fun _ _ _ h => h) hH rfl ?_
        try simp only [Act.put, List.setIfInBounds_toArray, List.set_cons_zero, List.set_cons_succ]
        refine skipL 12 rfl (by kernel_rfl) (by kernel_rfl) (by kernel_rfl) (by kernel_rfl) (by kernel_rfl) (fun _ _ _ h => h) hH rfl ?_
        try simp only [Act.put, List.setIfInBounds_toArray, List.set_cons_zero, List.set_cons_succ]
        refine takeL 13 (v := ?va6) rfl (by kernel_rfl) (by kernel_rfl) (by kernel_rfl) (by kernel_rfl) (by kernel_rfl) (fun _ _ _ h => h) hH rfl ?ya6 ?ra6
        case ya6 => intro W hSw; go_simp; try with_reducible rfl
        try simp only [Act.put, List.setIfInBounds_toArray, List.set_cons_zero, List.set_cons_succ]
        refine callL 14 rfl (by kernel_rfl) rfl (fun K hK => ?_)
        go_simp
        have hlx := hH.1.size
        have sB := Str.new wx2 4 #[.bool false]
        have hBx : wx2.heap.size < (wx2.alloc (.cells #[.bool false] 4)).heap.size := by simp
        have hB0 : W0.heap.size ≤ wx2.heap.size := hlx
        have hal : Below wx2.heap.size wx2 (wx2.alloc (.cells #[.bool false] 4)) := (Below.refl _ _).alloc (Nat.le_refl _) _
        refine hK.out _ _ ⟨hH.1.trans (hal.mono hH.1.size), (hal.cell (p := ⟨w.heap.size, 0, none⟩) (by simp only; omega)).trans hH.2.1, (hal.cell (p := ⟨w.heap.size, 1, none⟩) (by simp only; omega)).trans hH.2.2.1, (hal.cell (p := ⟨w.heap.size, 2, none⟩) (by simp only; omega)).trans hH.2.2.2.1, (hal.cell (p := ⟨w.heap.size, 3, none⟩) (by simp only; omega)).trans hH.2.2.2.2.1, (hal.cell (p := ⟨w.heap.size + 1, 0, none⟩) (by simp only; omega)).trans hH.2.2.2.2.2.1, (hal.cell (p := ⟨w.heap.size + 1, 1, none⟩) (by simp only; omega)).trans hH.2.2.2.2.2.2.1, (hal.cell (p := ⟨w.heap.size + 1, 2, none⟩) (by simp only; omega)).trans hH.2.2.2.2.2.2.2⟩ (fun hH => ?_)
        clear hK K hlx hal
        try simp only [Act.put, List.setIfInBounds_toArray, List.set_cons_zero, List.set_cons_succ]
        generalize (wx2.alloc (.cells #[.bool false] 4)) = wy3 at *
        generalize wx2.heap.size = B at *
        refine lastL rfl (by kernel_rfl) (by kernel_rfl) (by kernel_rfl) rfl (fun K hK => ?_)
        have f0 := sB.frozen 0
        have c0 := sB.cell 0 (v := .bool false) rfl
        have sB2 := sB.set 0 (.bool false)
        go_simp
        refine hK.out _ _ ?_
        clear hK K
        try simp only [Act.put]
        have d0 := sB2.cell 0 (v := (.bool false)) rfl
        have Hd0 := Lib.hid d0
        have Hb := Lib.hid hH.1
        have Hz := Lib.hid ((wy3.cell?_setCell_other ⟨B, 0, none⟩ ⟨w.heap.size, 3, none⟩ (.bool false) (by simp)).trans hH.2.2.2.2.1)
        clear hH sB sB2 f0 c0 d0
        go_wp2
        go_ret
        refine ⟨B, rfl, by omega, by simp only [World.size_setCell]; omega, by have := Hb.out.size; simp only [World.size_setCell]; omega, ?_, Hz.out, (below_step Hb0.out Hb0.out.size Hb.out).setCell (p := ⟨B, 0, none⟩) (by simp only; omega) _⟩
        rw [Hd0.out, ← Hres.out, hqv]
        simp
      | true =>
        refine takeL 7 (v := ?va7) rfl (by kernel_rfl) (by kernel_rfl) (by kernel_rfl) (by kernel_rfl) (by kernel_rfl) (fun _ _ _ h => h) hH rfl ?ya7 ?ra7
        case ya7 => intro W hSw; go_simp; try with_reducible rfl
        try simp only [Act.put, List.setIfInBounds_toArray, List.set_cons_zero, List.set_cons_succ]
        refine takeL 8 (v := ?va8) rfl (by kernel_rfl) (by kernel_rfl) (by kernel_rfl) (by kernel_rfl) (by kernel_rfl) (fun _ _ _ h => h) hH rfl ?ya8 ?ra8
        case ya8 => intro W hSw; go_simp; try with_reducible rfl
        try simp only [Act.put, List.setIfInBounds_toArray, List.set_cons_zero, List.set_cons_succ]
        refine takeL 9 (v := ?va9) rfl (by kernel_rfl) (by kernel_rfl) (by kernel_rfl) (by kernel_rfl) (by kernel_rfl) (fun _ _ _ h => h) hH rfl ?ya9 ?ra9
        case ya9 => intro W hSw; go_simp; try with_reducible rfl
        try simp only [Act.put, List.setIfInBounds_toArray, List.set_cons_zero, List.set_cons_succ]
        refine takeL 10 (v := ?va10) rfl (by kernel_rfl) (by kernel_rfl) (by kernel_rfl) (by kernel_rfl) (by kernel_rfl) (fun _ _ _ h => h) hH rfl ?ya10 ?ra10
        case ya10 => intro W hSw; go_simp; try with_reducible rfl
        try simp only [Act.put, List.setIfInBounds_toArray, List.set_cons_zero, List.set_cons_succ]
        refine takeL 11 (v := ?va11) rfl (by kernel_rfl) (by kernel_rfl) (by kernel_rfl) (by kernel_rfl) (by kernel_rfl) (fun _ _ _ h => h) hH rfl ?ya11 ?ra11
        case ya11 => intro W hSw; go_simp; try with_reducible rfl
        try simp only [Act.put, List.setIfInBounds_toArray, List.set_cons_zero, List.set_cons_succ]
        refine takeL 12 (v := ?va12) rfl (by kernel_rfl) (by kernel_rfl) (by kernel_rfl) (by kernel_rfl) (by kernel_rfl) (fun _ _ _ h => h) hH rfl ?ya12 ?ra12
        case ya12 => intro W hSw; go_simp; try with_reducible rfl
        try simp only [Act.put, List.setIfInBounds_toArray, List.set_cons_zero, List.set_cons_succ]
        refine takeL 13 (v := ?va13) rfl (by kernel_rfl) (by kernel_rfl) (by kernel_rfl) (by kernel_rfl) (by kernel_rfl) (fun _ _ _ h => h) hH rfl ?ya13 ?ra13
        case ya13 => intro W hSw; go_simp; try with_reducible rfl
        try simp only [Act.put, List.setIfInBounds_toArray, List.set_cons_zero, List.set_cons_succ]
        refine callL 14 rfl (by kernel_rfl) rfl (fun K hK => ?_)
        go_simp
        have hlx := hH.1.size
        have sB := Str.new wx2 4 #[.bool false]
        have hBx : wx2.heap.size < (wx2.alloc (.cells #[.bool false] 4)).heap.size := by simp
        have hB0 : W0.heap.size ≤ wx2.heap.size := hlx
        have hal : Below wx2.heap.size wx2 (wx2.alloc (.cells #[.bool false] 4)) := (Below.refl _ _).alloc (Nat.le_refl _) _
        refine hK.out _ _ ⟨hH.1.trans (hal.mono hH.1.size), (hal.cell (p := ⟨w.heap.size, 0, none⟩) (by simp only; omega)).trans hH.2.1, (hal.cell (p := ⟨w.heap.size, 1, none⟩) (by simp only; omega)).trans hH.2.2.1, (hal.cell (p := ⟨w.heap.size, 2, none⟩) (by simp only; omega)).trans hH.2.2.2.1, (hal.cell (p := ⟨w.heap.size, 3, none⟩) (by simp only; omega)).trans hH.2.2.2.2.1, (hal.cell (p := ⟨w.heap.size + 1, 0, none⟩) (by simp only; omega)).trans hH.2.2.2.2.2.1, (hal.cell (p := ⟨w.heap.size + 1, 1, none⟩) (by simp only; omega)).trans hH.2.2.2.2.2.2.1, (hal.cell (p := ⟨w.heap.size + 1, 2, none⟩) (by simp only; omega)).trans hH.2.2.2.2.2.2.2⟩ (fun hH => ?_)
        clear hK K hlx hal
        try simp only [Act.put, List.setIfInBounds_toArray, List.set_cons_zero, List.set_cons_succ]
        generalize (wx2.alloc (.cells #[.bool false] 4)) = wy4 at *
        generalize wx2.heap.size = B at *
        refine lastL rfl (by kernel_rfl) (by kernel_rfl) (by kernel_rfl) rfl (fun K hK => ?_)
        have f0 := sB.frozen 0
        have c0 := sB.cell 0 (v := .bool false) rfl
        have sB2 := sB.set 0 (.bool (v.d != u.d))
        go_simp
        refine hK.out _ _ ?_
        clear hK K
        try simp only [Act.put]
        have d0 := sB2.cell 0 (v := (.bool (v.d != u.d))) rfl
        have Hd0 := Lib.hid d0
        have Hb := Lib.hid hH.1
        have Hz := Lib.hid ((wy4.cell?_setCell_other ⟨B, 0, none⟩ ⟨w.heap.size, 3, none⟩ (.bool (v.d != u.d)) (by simp)).trans hH.2.2.2.2.1)
        clear hH sB sB2 f0 c0 d0
        go_wp2
        go_ret
        refine ⟨B, rfl, by omega, by simp only [World.size_setCell]; omega, by have := Hb.out.size; simp only [World.size_setCell]; omega, ?_, Hz.out, (below_step Hb0.out Hb0.out.size Hb.out).setCell (p := ⟨B, 0, none⟩) (by simp only; omega) _⟩
        rw [Hd0.out, ← Hres.out, hqv]
        simp
    · skip
      go_simp
      have hlx := hH.1.size
      have sB := Str.new wx1 4 #[.bool false]
      have hBx : wx1.heap.size < (wx1.alloc (.cells #[.bool false] 4)).heap.size := by simp
      have hB0 : W0.heap.size ≤ wx1.heap.size := hlx
      have hal : Below wx1.heap.size wx1 (wx1.alloc (.cells #[.bool false] 4)) := (Below.refl _ _).alloc (Nat.le_refl _) _
      refine hK.out _ _ ⟨hH.1.trans (hal.mono hH.1.size), (hal.cell (p := ⟨w.heap.size, 0, none⟩) (by simp only; omega)).trans hH.2.1, (hal.cell (p := ⟨w.heap.size, 1, none⟩) (by simp only; omega)).trans hH.2.2.1, (hal.cell (p := ⟨w.heap.size, 2, none⟩) (by simp only; omega)).trans hH.2.2.2.1, (hal.cell (p := ⟨w.heap.size, 3, none⟩) (by simp only; omega)).trans hH.2.2.2.2.1, (hal.cell (p := ⟨w.heap.size + 1, 0, none⟩) (by simp only; omega)).trans hH.2.2.2.2.2.1, (hal.cell (p := ⟨w.heap.size + 1, 1, none⟩) (by simp only; omega)).trans hH.2.2.2.2.2.2.1, (hal.cell (p := ⟨w.heap.size + 1, 2, none⟩) (by simp only; omega)).trans hH.2.2.2.2.2.2.2⟩ (fun hH => ?_)
      clear hK K hlx hal
      try simp only [Act.put, List.setIfInBounds_toArray, List.set_cons_zero, List.set_cons_succ]
      generalize (wx1.alloc (.cells #[.bool false] 4)) = wy5 at *
      generalize wx1.heap.size = B at *
      refine callL 4 rfl (by kernel_rfl) rfl (fun K hK => ?_)
      go_simp
      go_at_call 73
      refine (H2.out _).mono ?_
      rintro e wx6 ⟨rfl, hbx⟩
      have hlx := hH.1.size
      have hsx := hbx.size
      have sB : Str wx6 B 4 #[.bool false] := (hbx.block _ sB.lt).trans sB
      have hBx := Nat.lt_of_lt_of_le hBx hsx
      refine hK.out _ _ ⟨hH.1.trans (hbx.mono hH.1.size), (hbx.cell (p := ⟨w.heap.size, 0, none⟩) (by simp only; omega)).trans hH.2.1, (hbx.cell (p := ⟨w.heap.size, 1, none⟩) (by simp only; omega)).trans hH.2.2.1, (hbx.cell (p := ⟨w.heap.size, 2, none⟩) (by simp only; omega)).trans hH.2.2.2.1, (hbx.cell (p := ⟨w.heap.size, 3, none⟩) (by simp only; omega)).trans hH.2.2.2.2.1, (hbx.cell (p := ⟨w.heap.size + 1, 0, none⟩) (by simp only; omega)).trans hH.2.2.2.2.2.1, (hbx.cell (p := ⟨w.heap.size + 1, 1, none⟩) (by simp only; omega)).trans hH.2.2.2.2.2.2.1, (hbx.cell (p := ⟨w.heap.size + 1, 2, none⟩) (by simp only; omega)).trans hH.2.2.2.2.2.2.2⟩ (fun hH => ?_)
      clear hK K hlx hsx hbx
      try simp only [Act.put, List.setIfInBounds_toArray, List.set_cons_zero, List.set_cons_succ]
      refine takeL 5 (v := ?va14) rfl (by kernel_rfl) (by kernel_rfl) (by kernel_rfl) (by kernel_rfl) (by kernel_rfl) (fun _ _ _ h => h) hH rfl ?ya14 ?ra14
      case ya14 => intro W hSw; go_simp; try with_reducible rfl
      try simp only [Act.put, List.setIfInBounds_toArray, List.set_cons_zero, List.set_cons_succ]
      refine takeL 6 (v := ?va15) rfl (by kernel_rfl) (by kernel_rfl) (by kernel_rfl) (by kernel_rfl) (by kernel_rfl) (fun _ _ _ h => h) hH rfl ?ya15 ?ra15
      case ya15 => intro W hSw; go_simp; try with_reducible rfl
      try simp only [Act.put, List.setIfInBounds_toArray, List.set_cons_zero, List.set_cons_succ]
      cases hqv : (v.r == u.r && v.a == u.a) with
      | false =>
        refine skipL 7 rfl (by kernel_rfl) (by kernel_rfl) (by kernel_rfl) (by kernel_rfl) (by kernel_rfl) (fun _ _ _ h => h) hH rfl ?_
        try simp only [Act.put, List.setIfInBounds_toArray, List.set_cons_zero, List.set_cons_succ]
        refine skipL 8 rfl (by kernel_rfl) (by kernel_rfl) (by kernel_rfl) (by kernel_rfl) (by kernel_rfl) (fun _ _ _ h => h) hH rfl ?_
        try simp only [Act.put, List.setIfInBounds_toArray, List.set_cons_zero, List.set_cons_succ]
        refine skipL 9 rfl (by kernel_rfl) (by kernel_rfl) (by kernel_rfl) (by kernel_rfl) (by kernel_rfl) (fun _ _ _ h => h) hH rfl ?_
        try simp only [Act.put, List.setIfInBounds_toArray, List.set_cons_zero, List.set_cons_succ]
        refine skipL 10 rfl (by kernel_rfl) (by kernel_rfl) (by kernel_rfl) (by kernel_rfl) (by kernel_rfl) (fun _ _ _ h => h) hH rfl ?_
        try simp only [Act.put, List.setIfInBounds_toArray, List.set_cons_zero, List.set_cons_succ]
        refine skipL 11 rfl (by kernel_rfl) (by kernel_rfl) (by kernel_rfl) (by kernel_rfl) (by kernel_rfl) (fun _ _ _ h => h) hH rfl ?_
        try simp only [Act.put, List.setIfInBounds_toArray, List.set_cons_zero, List.set_cons_succ]
        refine skipL 12 rfl (by kernel_rfl) (by kernel_rfl) (by kernel_rfl) (by kernel_rfl) (by kernel_rfl) (fun _ _ _ h => h) hH rfl ?_
        try simp only [Act.put, List.setIfInBounds_toArray, List.set_cons_zero, List.set_cons_succ]
        refine takeL 13 (v := ?va16) rfl (by kernel_rfl) (by kernel_rfl) (by kernel_rfl) (by kernel_rfl) (by kernel_rfl) (fun _ _ _ h => h) hH rfl ?ya16 ?ra16
        case ya16 => intro W hSw; go_simp; try with_reducible rfl
        try simp only [Act.put, List.setIfInBounds_toArray, List.set_cons_zero, List.set_cons_succ]
        refine lastL rfl (by kernel_rfl) (by kernel_rfl) (by kernel_rfl) rfl (fun K hK => ?_)
        have f0 := sB.frozen 0
        have c0 := sB.cell 0 (v := .bool false) rfl
        have sB2 := sB.set 0 (.bool false)
        go_simp
        refine hK.out _ _ ?_
        clear hK K
        try simp only [Act.put]
        have d0 := sB2.cell 0 (v := (.bool false)) rfl
        have Hd0 := Lib.hid d0
        have Hb := Lib.hid hH.1
        have Hz := Lib.hid ((wx6.cell?_setCell_other ⟨B, 0, none⟩ ⟨w.heap.size, 3, none⟩ (.bool false) (by simp)).trans hH.2.2.2.2.1)
        clear hH sB sB2 f0 c0 d0
        go_wp2
        go_ret
        refine ⟨B, rfl, by omega, by simp only [World.size_setCell]; omega, by have := Hb.out.size; simp only [World.size_setCell]; omega, ?_, Hz.out, (below_step Hb0.out Hb0.out.size Hb.out).setCell (p := ⟨B, 0, none⟩) (by simp only; omega) _⟩
        rw [Hd0.out, ← Hres.out, hqv]
        simp
      | true =>
        refine takeL 7 (v := ?va17) rfl (by kernel_rfl) (by kernel_rfl) (by kernel_rfl) (by kernel_rfl) (by kernel_rfl) (fun _ _ _ h => h) hH rfl ?ya17 ?ra17
        case ya17 => intro W hSw; go_simp; try with_reducible rfl
        try simp only [Act.put, List.setIfInBounds_toArray, List.set_cons_zero, List.set_cons_succ]
        refine takeL 8 (v := ?va18) rfl (by kernel_rfl) (by kernel_rfl) (by kernel_rfl) (by kernel_rfl) (by kernel_rfl) (fun _ _ _ h => h) hH rfl ?ya18 ?ra18
        case ya18 => intro W hSw; go_simp; try with_reducible rfl
        try simp only [Act.put, List.setIfInBounds_toArray, List.set_cons_zero, List.set_cons_succ]
        refine takeL 9 (v := ?va19) rfl (by kernel_rfl) (by kernel_rfl) (by kernel_rfl) (by kernel_rfl) (by kernel_rfl) (fun _ _ _ h => h) hH rfl ?ya19 ?ra19
        case ya19 => intro W hSw; go_simp; try with_reducible rfl
        try simp only [Act.put, List.setIfInBounds_toArray, List.set_cons_zero, List.set_cons_succ]
        refine takeL 10 (v := ?va20) rfl (by kernel_rfl) (by kernel_rfl) (by kernel_rfl) (by kernel_rfl) (by kernel_rfl) (fun _ _ _ h => h) hH rfl ?ya20 ?ra20
        case ya20 => intro W hSw; go_simp; try with_reducible rfl
        try simp only [Act.put, List.setIfInBounds_toArray, List.set_cons_zero, List.set_cons_succ]
        refine takeL 11 (v := ?va21) rfl (by kernel_rfl) (by kernel_rfl) (by kernel_rfl) (by kernel_rfl) (by kernel_rfl) (fun _ _ _ h => h) hH rfl ?ya21 ?ra21
        case ya21 => intro W hSw; go_simp; try with_reducible rfl
        try simp only [Act.put, List.setIfInBounds_toArray, List.set_cons_zero, List.set_cons_succ]
        refine takeL 12 (v := ?va22) rfl (by kernel_rfl) (by kernel_rfl) (by kernel_rfl) (by kernel_rfl) (by kernel_rfl) (fun _ _ _ h => h) hH rfl ?ya22 ?ra22
        case ya22 => intro W hSw; go_simp; try with_reducible rfl
        try simp only [Act.put, List.setIfInBounds_toArray, List.set_cons_zero, List.set_cons_succ]
        refine takeL 13 (v := ?va23) rfl (by kernel_rfl) (by kernel_rfl) (by kernel_rfl) (by kernel_rfl) (by kernel_rfl) (fun _ _ _ h => h) hH rfl ?ya23 ?ra23
        case ya23 => intro W hSw; go_simp; try with_reducible rfl
        try simp only [Act.put, List.setIfInBounds_toArray, List.set_cons_zero, List.set_cons_succ]
        refine lastL rfl (by kernel_rfl) (by kernel_rfl) (by kernel_rfl) rfl (fun K hK => ?_)
        have f0 := sB.frozen 0
        have c0 := sB.cell 0 (v := .bool false) rfl
        have sB2 := sB.set 0 (.bool (v.d != u.d))
        go_simp
        refine hK.out _ _ ?_
        clear hK K
        try simp only [Act.put]
        have d0 := sB2.cell 0 (v := (.bool (v.d != u.d))) rfl
        have Hd0 := Lib.hid d0
        have Hb := Lib.hid hH.1
        have Hz := Lib.hid ((wx6.cell?_setCell_other ⟨B, 0, none⟩ ⟨w.heap.size, 3, none⟩ (.bool (v.d != u.d)) (by simp)).trans hH.2.2.2.2.1)
        clear hH sB sB2 f0 c0 d0
        go_wp2
        go_ret
        refine ⟨B, rfl, by omega, by simp only [World.size_setCell]; omega, by have := Hb.out.size; simp only [World.size_setCell]; omega, ?_, Hz.out, (below_step Hb0.out Hb0.out.size Hb.out).setCell (p := ⟨B, 0, none⟩) (by simp only; omega) _⟩
        rw [Hd0.out, ← Hres.out, hqv]
        simp
  · skip
    go_simp
    have hlx := hH.1.size
    have sB := Str.new wa 4 #[.bool false]
    have hBx : wa.heap.size < (wa.alloc (.cells #[.bool false] 4)).heap.size := by simp
    have hB0 : W0.heap.size ≤ wa.heap.size := hlx
    have hal : Below wa.heap.size wa (wa.alloc (.cells #[.bool false] 4)) := (Below.refl _ _).alloc (Nat.le_refl _) _
    refine hK.out _ _ ⟨hH.1.trans (hal.mono hH.1.size), (hal.cell (p := ⟨w.heap.size, 0, none⟩) (by simp only; omega)).trans hH.2.1, (hal.cell (p := ⟨w.heap.size, 1, none⟩) (by simp only; omega)).trans hH.2.2.1, (hal.cell (p := ⟨w.heap.size, 2, none⟩) (by simp only; omega)).trans hH.2.2.2.1, (hal.cell (p := ⟨w.heap.size, 3, none⟩) (by simp only; omega)).trans hH.2.2.2.2.1, (hal.cell (p := ⟨w.heap.size + 1, 0, none⟩) (by simp only; omega)).trans hH.2.2.2.2.2.1, (hal.cell (p := ⟨w.heap.size + 1, 1, none⟩) (by simp only; omega)).trans hH.2.2.2.2.2.2.1, (hal.cell (p := ⟨w.heap.size + 1, 2, none⟩) (by simp only; omega)).trans hH.2.2.2.2.2.2.2⟩ (fun hH => ?_)
    clear hK K hlx hal
    try simp only [Act.put, List.setIfInBounds_toArray, List.set_cons_zero, List.set_cons_succ]
    generalize (wa.alloc (.cells #[.bool false] 4)) = wy7 at *
    generalize wa.heap.size = B at *
    refine callL 2 rfl (by kernel_rfl) rfl (fun K hK => ?_)
    go_simp
    go_at_call 73
    refine (H1.out _).mono ?_
    rintro e wx8 ⟨rfl, hbx⟩
    have hlx := hH.1.size
    have hsx := hbx.size
    have sB : Str wx8 B 4 #[.bool false] := (hbx.block _ sB.lt).trans sB
    have hBx := Nat.lt_of_lt_of_le hBx hsx
    refine hK.out _ _ ⟨hH.1.trans (hbx.mono hH.1.size), (hbx.cell (p := ⟨w.heap.size, 0, none⟩) (by simp only; omega)).trans hH.2.1, (hbx.cell (p := ⟨w.heap.size, 1, none⟩) (by simp only; omega)).trans hH.2.2.1, (hbx.cell (p := ⟨w.heap.size, 2, none⟩) (by simp only; omega)).trans hH.2.2.2.1, (hbx.cell (p := ⟨w.heap.size, 3, none⟩) (by simp only; omega)).trans hH.2.2.2.2.1, (hbx.cell (p := ⟨w.heap.size + 1, 0, none⟩) (by simp only; omega)).trans hH.2.2.2.2.2.1, (hbx.cell (p := ⟨w.heap.size + 1, 1, none⟩) (by simp only; omega)).trans hH.2.2.2.2.2.2.1, (hbx.cell (p := ⟨w.heap.size + 1, 2, none⟩) (by simp only; omega)).trans hH.2.2.2.2.2.2.2⟩ (fun hH => ?_)
    clear hK K hlx hsx hbx
    try simp only [Act.put, List.setIfInBounds_toArray, List.set_cons_zero, List.set_cons_succ]
    refine callL 4 rfl (by kernel_rfl) rfl (fun K hK => ?_)
    go_simp
    go_at_call 73
    refine (H2.out _).mono ?_
    rintro e wx9 ⟨rfl, hbx⟩
    have hlx := hH.1.size
    have hsx := hbx.size
    have sB : Str wx9 B 4 #[.bool false] := (hbx.block _ sB.lt).trans sB
    have hBx := Nat.lt_of_lt_of_le hBx hsx
    refine hK.out _ _ ⟨hH.1.trans (hbx.mono hH.1.size), (hbx.cell (p := ⟨w.heap.size, 0, none⟩) (by simp only; omega)).trans hH.2.1, (hbx.cell (p := ⟨w.heap.size, 1, none⟩) (by simp only; omega)).trans hH.2.2.1, (hbx.cell (p := ⟨w.heap.size, 2, none⟩) (by simp only; omega)).trans hH.2.2.2.1, (hbx.cell (p := ⟨w.heap.size, 3, none⟩) (by simp only; omega)).trans hH.2.2.2.2.1, (hbx.cell (p := ⟨w.heap.size + 1, 0, none⟩) (by simp only; omega)).trans hH.2.2.2.2.2.1, (hbx.cell (p := ⟨w.heap.size + 1, 1, none⟩) (by simp only; omega)).trans hH.2.2.2.2.2.2.1, (hbx.cell (p := ⟨w.heap.size + 1, 2, none⟩) (by simp only; omega)).trans hH.2.2.2.2.2.2.2⟩ (fun hH => ?_)
    clear hK K hlx hsx hbx
    try simp only [Act.put, List.setIfInBounds_toArray, List.set_cons_zero, List.set_cons_succ]
    refine takeL 5 (v := ?va24) rfl (by kernel_rfl) (by kernel_rfl) (by kernel_rfl) (by kernel_rfl) (by kernel_rfl) (fun _ _ _ h => h) hH rfl ?ya24 ?ra24
    case ya24 => intro W hSw; go_simp; try with_reducible rfl
    try simp only [Act.put, List.setIfInBounds_toArray, List.set_cons_zero, List.set_cons_succ]
    refine takeL 6 (v := ?va25) rfl (by kernel_rfl) (by kernel_rfl) (by kernel_rfl) (by kernel_rfl) (by kernel_rfl) (fun _ _ _ h => h) hH rfl ?ya25 ?ra25
    case ya25 => intro W hSw; go_simp; try with_reducible rfl
    try simp only [Act.put, List.setIfInBounds_toArray, List.set_cons_zero, List.set_cons_succ]
    cases hqv : (v.r == u.r && v.a == u.a) with
    | false =>
      refine skipL 7 rfl (by kernel_rfl) (by kernel_rfl) (by kernel_rfl) (by kernel_rfl) (by kernel_rfl) (fun _ _ _ h => h) hH rfl ?_
      try simp only [Act.put, List.setIfInBounds_toArray, List.set_cons_zero, List.set_cons_succ]
      refine skipL 8 rfl (by kernel_rfl) (by kernel_rfl) (by kernel_rfl) (by kernel_rfl) (by kernel_rfl) (fun _ _ _ h => h) hH rfl ?_
      try simp only [Act.put, List.setIfInBounds_toArray, List.set_cons_zero, List.set_cons_succ]
      refine skipL 9 rfl (by kernel_rfl) (by kernel_rfl) (by kernel_rfl) (by kernel_rfl) (by kernel_rfl) (fun _ _ _ h => h) hH rfl ?_
      try simp only [Act.put, List.setIfInBounds_toArray, List.set_cons_zero, List.set_cons_succ]
      refine skipL 10 rfl (by kernel_rfl) (by kernel_rfl) (by kernel_rfl) (by kernel_rfl) (by kernel_rfl) (fun _ _ _ h => h) hH rfl ?_
      try simp only [Act.put, List.setIfInBounds_toArray, List.set_cons_zero, List.set_cons_succ]
      refine skipL 11 rfl (by kernel_rfl) (by kernel_rfl) (by kernel_rfl) (by kernel_rfl) (by kernel_rfl) (fun _ _ _ h => h) hH rfl ?_
      try simp only [Act.put, List.setIfInBounds_toArray, List.set_cons_zero, List.set_cons_succ]
      refine skipL 12 rfl (by kernel_rfl) (by kernel_rfl) (by kernel_rfl) (by kernel_rfl) (by kernel_rfl) (fun _ _ _ h => h) hH rfl ?_
      try simp only [Act.put, List.setIfInBounds_toArray, List.set_cons_zero, List.set_cons_succ]
      refine takeL 13 (v := ?va26) rfl (by kernel_rfl) (by kernel_rfl) (by kernel_rfl) (by kernel_rfl) (by kernel_rfl) (fun _ _ _ h => h) hH rfl ?ya26 ?ra26
      case ya26 => intro W hSw; go_simp; try with_reducible rfl
      try simp only [Act.put, List.setIfInBounds_toArray, List.set_cons_zero, List.set_cons_succ]
      refine lastL rfl (by kernel_rfl) (by kernel_rfl) (by kernel_rfl) rfl (fun K hK => ?_)
      have f0 := sB.frozen 0
      have c0 := sB.cell 0 (v := .bool false) rfl
      have sB2 := sB.set 0 (.bool false)
      go_simp
      refine hK.out _ _ ?_
      clear hK K
      try simp only [Act.put]
      have d0 := sB2.cell 0 (v := (.bool false)) rfl
      have Hd0 := Lib.hid d0
      have Hb := Lib.hid hH.1
      have Hz := Lib.hid ((wx9.cell?_setCell_other ⟨B, 0, none⟩ ⟨w.heap.size, 3, none⟩ (.bool false) (by simp)).trans hH.2.2.2.2.1)
      clear hH sB sB2 f0 c0 d0
      go_wp2
      go_ret
      refine ⟨B, rfl, by omega, by simp only [World.size_setCell]; omega, by have := Hb.out.size; simp only [World.size_setCell]; omega, ?_, Hz.out, (below_step Hb0.out Hb0.out.size Hb.out).setCell (p := ⟨B, 0, none⟩) (by simp only; omega) _⟩
      rw [Hd0.out, ← Hres.out, hqv]
      simp
    | true =>
      refine takeL 7 (v := ?va27) rfl (by kernel_rfl) (by kernel_rfl) (by kernel_rfl) (by kernel_rfl) (by kernel_rfl) (fun _ _ _ h => h) hH rfl ?ya27 ?ra27
      case ya27 => intro W hSw; go_simp; try with_reducible rfl
      try simp only [Act.put, List.setIfInBounds_toArray, List.set_cons_zero, List.set_cons_succ]
      refine takeL 8 (v := ?va28) rfl (by kernel_rfl) (by kernel_rfl) (by kernel_rfl) (by kernel_rfl) (by kernel_rfl) (fun _ _ _ h => h) hH rfl ?ya28 ?ra28
      case ya28 => intro W hSw; go_simp; try with_reducible rfl
      try simp only [Act.put, List.setIfInBounds_toArray, List.set_cons_zero, List.set_cons_succ]
      refine takeL 9 (v := ?va29) rfl (by kernel_rfl) (by kernel_rfl) (by kernel_rfl) (by kernel_rfl) (by kernel_rfl) (fun _ _ _ h => h) hH rfl ?ya29 ?ra29
      case ya29 => intro W hSw; go_simp; try with_reducible rfl
      try simp only [Act.put, List.setIfInBounds_toArray, List.set_cons_zero, List.set_cons_succ]
      refine takeL 10 (v := ?va30) rfl (by kernel_rfl) (by kernel_rfl) (by kernel_rfl) (by kernel_rfl) (by kernel_rfl) (fun _ _ _ h => h) hH rfl ?ya30 ?ra30
      case ya30 => intro W hSw; go_simp; try with_reducible rfl
      try simp only [Act.put, List.setIfInBounds_toArray, List.set_cons_zero, List.set_cons_succ]
      refine takeL 11 (v := ?va31) rfl (by kernel_rfl) (by kernel_rfl) (by kernel_rfl) (by kernel_rfl) (by kernel_rfl) (fun _ _ _ h => h) hH rfl ?ya31 ?ra31
      case ya31 => intro W hSw; go_simp; try with_reducible rfl
      try simp only [Act.put, List.setIfInBounds_toArray, List.set_cons_zero, List.set_cons_succ]
      refine takeL 12 (v := ?va32) rfl (by kernel_rfl) (by kernel_rfl) (by kernel_rfl) (by kernel_rfl) (by kernel_rfl) (fun _ _ _ h => h) hH rfl ?ya32 ?ra32
      case ya32 => intro W hSw; go_simp; try with_reducible rfl
      try simp only [Act.put, List.setIfInBounds_toArray, List.set_cons_zero, List.set_cons_succ]
      refine takeL 13 (v := ?va33) rfl (by kernel_rfl) (by kernel_rfl) (by kernel_rfl) (by kernel_rfl) (by kernel_rfl) (fun _ _ _ h => h) hH rfl ?ya33 ?ra33
      case ya33 => intro W hSw; go_simp; try with_reducible rfl
      try simp only [Act.put, List.setIfInBounds_toArray, List.set_cons_zero, List.set_cons_succ]
      refine lastL rfl (by kernel_rfl) (by kernel_rfl) (by kernel_rfl) rfl (fun K hK => ?_)
      have f0 := sB.frozen 0
      have c0 := sB.cell 0 (v := .bool false) rfl
      have sB2 := sB.set 0 (.bool (v.d != u.d))
      go_simp
      refine hK.out _ _ ?_
      clear hK K
      try simp only [Act.put]
      have d0 := sB2.cell 0 (v := (.bool (v.d != u.d))) rfl
      have Hd0 := Lib.hid d0
      have Hb := Lib.hid hH.1
      have Hz := Lib.hid ((wx9.cell?_setCell_other ⟨B, 0, none⟩ ⟨w.heap.size, 3, none⟩ (.bool (v.d != u.d)) (by simp)).trans hH.2.2.2.2.1)
      clear hH sB sB2 f0 c0 d0
      go_wp2
      go_ret
      refine ⟨B, rfl, by omega, by simp only [World.size_setCell]; omega, by have := Hb.out.size; simp only [World.size_setCell]; omega, ?_, Hz.out, (below_step Hb0.out Hb0.out.size Hb.out).setCell (p := ⟨B, 0, none⟩) (by simp only; omega) _⟩
      rw [Hd0.out, ← Hres.out, hqv]
      simp

end Go.Proofs.Ytgpbogalknmcmab

/- The members that two tallies have in common, as the reference finds them, by a walk of its text; conditions: lists are shorter than 2^40. -/
namespace Go.Proofs.Ytgpbogalknmcmab
open Go.RowKit

theorem spec_l1Has (a : Option Addr) (cap : Nat) (l : List Int) (n : Int) (w : World) (hbig : l.length ≤ 1099511627776) (hc : IntsAt w a l) :
    Calls Try.prog 46 #[.slice a l.length cap, .int .i64 n] w fun e w' => e = .returned (.bool (hasB l n)) ∧ w = w' := by
  rcases hc.len with h0 | ⟨b, off, rfl, hb, hc⟩
  all_goals
    go_enter Try.func46, Try.ntmps46
    go_wp2
    go_loop [5] (fun i => ∃ k : Nat, k ≤ l.length ∧ i = .int .i64 k ∧ Pre (fun x => x != n) l k) (fun i => l.length - (intOf i).toNat)
    case atStart => exact ⟨0, by omega, rfl, pre_zero _ _⟩
    case round =>
      obtain ⟨k, hk, rfl, hg⟩ := hrel
      by_cases hlt : k < l.length
      · first
        | (exfalso; omega)
        | (have hcell := hc k hlt
           have Hc := Lib.hid hc; clear hc
           by_cases e : l[k] = n
           · have e1 : (l[k] == n) = true := by rw [beq_iff_eq]; exact e
             have hf := hasB_yes hlt
             rw [e] at hf
             have Hf := Lib.hid hf; clear hf e
             go_wp2
             go_ret
             exact ⟨ret_bool Hf.out.symm, rfl⟩
           · have e1 : (l[k] == n) = false := by rw [beq_eq_false_iff_ne]; exact e
             have Hs := Lib.hid (pre_step hg hlt (by simpa using e)); clear hg e
             go_wp2
             go_round
             case rel => exact ⟨k + 1, by omega, by go_num, Hs.out⟩
             case measure => simp [intOf]; omega)
      · have Hf := Lib.hid (hasB_no hg (by omega)); clear hg
        go_wp2
        go_ret
        exact ⟨ret_bool Hf.out.symm, rfl⟩

/-- Who is guilty: the members of both tallies, where these are valid, for one author and round and for two digests. -/
def twoB (c : List Int) (v u : Vt) (xs ys : List Int) : Bool := tallyB c v xs && (tallyB c u ys && (decide (v.r = u.r) && (decide (v.a = u.a) && decide (v.d ≠ u.d))))
def guiltyZ (c : List Int) (v u : Vt) (xs ys : List Int) : List Int := if twoB c v u xs ys then commonZ xs ys else []

set_option maxHeartbeats 2000000 in
theorem spec_TallyGuilty (ac : Option Addr) (capc : Nat) (c : List Int) (ra aa da rb ab db : Int) (pa pb : Option Addr) (ca cb : Nat) (xs ys : List Int) (w : World) (hn : c.length ≤ 1099511627776) (hbx : xs.length ≤ 1048576) (hby : ys.length ≤ 1099511627776) (hc : IntsAt w ac c) (hx : IntsAt w pa xs) (hy : IntsAt w pb ys) :
    Calls Try.prog 22 #[.slice ac c.length capc, .agg #[.int .i64 ra, .int .i64 aa, .int .i64 da, .slice pa xs.length ca], .agg #[.int .i64 rb, .int .i64 ab, .int .i64 db, .slice pb ys.length cb]] w fun e w' => ∃ v, e = .returned v ∧ Own 3 w' w.heap.size v (guiltyZ c ⟨ra, aa, da⟩ ⟨rb, ab, db⟩ xs ys) ∧ Below w.heap.size w w' := by
  have hb0 : Below w.heap.size w (((w.alloc (.cells #[.int .i64 ra, .int .i64 aa, .int .i64 da, .slice pa xs.length ca] 27)).alloc (.cells #[.int .i64 rb, .int .i64 ab, .int .i64 db, .slice pb ys.length cb] 27)).alloc (.cells #[] 3)) := (((Below.refl _ _).alloc (Nat.le_refl _) _).alloc (by simp) _).alloc (by simp; omega) _
  have s0 := ((Str.new w 27 #[.int .i64 ra, .int .i64 aa, .int .i64 da, .slice pa xs.length ca]).alloc (.cells #[.int .i64 rb, .int .i64 ab, .int .i64 db, .slice pb ys.length cb] 27)).alloc (.cells #[] 3)
  have s1 := (Str.new (w.alloc (.cells #[.int .i64 ra, .int .i64 aa, .int .i64 da, .slice pa xs.length ca] 27)) 27 #[.int .i64 rb, .int .i64 ab, .int .i64 db, .slice pb ys.length cb]).alloc (.cells #[] 3)
  have hsz0 : (((w.alloc (.cells #[.int .i64 ra, .int .i64 aa, .int .i64 da, .slice pa xs.length ca] 27)).alloc (.cells #[.int .i64 rb, .int .i64 ab, .int .i64 db, .slice pb ys.length cb] 27)).alloc (.cells #[] 3)).heap.size = w.heap.size + 3 := by simp
  have hemp : ∀ W, Below (((w.alloc (.cells #[.int .i64 ra, .int .i64 aa, .int .i64 da, .slice pa xs.length ca] 27)).alloc (.cells #[.int .i64 rb, .int .i64 ab, .int .i64 db, .slice pb ys.length cb] 27)).alloc (.cells #[] 3)).heap.size (((w.alloc (.cells #[.int .i64 ra, .int .i64 aa, .int .i64 da, .slice pa xs.length ca] 27)).alloc (.cells #[.int .i64 rb, .int .i64 ab, .int .i64 db, .slice pb ys.length cb] 27)).alloc (.cells #[] 3)) W → Own 3 W (w.heap.size + 2) (.slice (some ⟨w.heap.size + 2, 0, none⟩) 0 0) [] := fun W hW => by
    have h := own_empty 3 (B := w.heap.size + 2) ((w.alloc (.cells #[.int .i64 ra, .int .i64 aa, .int .i64 da, .slice pa xs.length ca] 27)).alloc (.cells #[.int .i64 rb, .int .i64 ab, .int .i64 db, .slice pb ys.length cb] 27)) (by simp)
    simp only [World.size_alloc] at h
    exact h.below hW
  simp only [World.size_alloc] at s1
  have k0 := s0.cell 0 (v := .int .i64 ra) rfl
  have k1 := s0.cell 1 (v := .int .i64 aa) rfl
  have k2 := s0.cell 2 (v := .int .i64 da) rfl
  have k3 := s0.cell 3 (v := .slice pa xs.length ca) rfl
  have j0 := s1.cell 0 (v := .int .i64 rb) rfl
  have j1 := s1.cell 1 (v := .int .i64 ab) rfl
  have j2 := s1.cell 2 (v := .int .i64 db) rfl
  have j3 := s1.cell 3 (v := .slice pb ys.length cb) rfl
  have HC := Lib.hid (hc.below hb0)
  have HX := Lib.hid (hx.below hb0)
  have HY := Lib.hid (hy.below hb0)
  have HX0 := Lib.hid hx
  have HY0 := Lib.hid hy
  have Hem := Lib.hid hemp
  have Hb0 := Lib.hid hb0; clear hb0 s0 s1 hc hx hy hemp
  have H1 := Lib.hid (fun W (h : IntsAt W ac c) (h' : IntsAt W pa xs) => spec_l12Tally ac capc c ra aa da pa ca xs W hn (by omega) h h')
  have H2 := Lib.hid (fun W (h : IntsAt W ac c) (h' : IntsAt W pb ys) => spec_l12Tally ac capc c rb ab db pb cb ys W hn hby h h')
  have HH := Lib.hid (fun x W (h : IntsAt W pb ys) => spec_l1Has pb cb ys x W hby h)
  have Hno := Lib.hid (fun (h : twoB c ⟨ra, aa, da⟩ ⟨rb, ab, db⟩ xs ys = false) => show guiltyZ c ⟨ra, aa, da⟩ ⟨rb, ab, db⟩ xs ys = [] by unfold guiltyZ; rw [h]; rfl)
  have Hyes := Lib.hid (fun (h : twoB c ⟨ra, aa, da⟩ ⟨rb, ab, db⟩ xs ys = true) => show guiltyZ c ⟨ra, aa, da⟩ ⟨rb, ab, db⟩ xs ys = commonZ xs ys by unfold guiltyZ; rw [h]; rfl)
  have Htwo := Lib.hid (show twoB c ⟨ra, aa, da⟩ ⟨rb, ab, db⟩ xs ys = (tallyB c ⟨ra, aa, da⟩ xs && (tallyB c ⟨rb, ab, db⟩ ys && (decide (ra = rb) && (decide (aa = ab) && decide (da ≠ db))))) from rfl)
  go_enter Try.func22, Try.ntmps22
  go_wp2_with fail
  generalize ((w.alloc (.cells #[.int .i64 ra, .int .i64 aa, .int .i64 da, .slice pa xs.length ca] 27)).alloc (.cells #[.int .i64 rb, .int .i64 ab, .int .i64 db, .slice pb ys.length cb] 27)).alloc (.cells #[] 3) = W0 at *
  have K3 := Lib.hid k3
  have J3 := Lib.hid j3
  refine (H1.out W0 HC.out HX.out).mono ?_
  rintro e w1 ⟨rfl, hb1⟩
  have hs1 := hb1.size
  have l0 : w.heap.size < W0.heap.size := by omega
  have l1 : w.heap.size + 1 < W0.heap.size := by omega
  have k0 := (hb1.cell (p := ⟨w.heap.size, 0, none⟩) l0).trans k0
  have k1 := (hb1.cell (p := ⟨w.heap.size, 1, none⟩) l0).trans k1
  have k2 := (hb1.cell (p := ⟨w.heap.size, 2, none⟩) l0).trans k2
  have k3 := (hb1.cell (p := ⟨w.heap.size, 3, none⟩) l0).trans k3
  have j0 := (hb1.cell (p := ⟨w.heap.size + 1, 0, none⟩) l1).trans j0
  have j1 := (hb1.cell (p := ⟨w.heap.size + 1, 1, none⟩) l1).trans j1
  have j2 := (hb1.cell (p := ⟨w.heap.size + 1, 2, none⟩) l1).trans j2
  have j3 := (hb1.cell (p := ⟨w.heap.size + 1, 3, none⟩) l1).trans j3
  have Hc1 := Lib.hid (HC.out.below hb1)
  have Hy1 := Lib.hid (HY.out.below hb1)
  have Hbw := Lib.hid hb1
  clear hb1
  cases h1 : tallyB c ⟨ra, aa, da⟩ xs with
  | false =>
    have hz := Hno.out (by rw [Htwo.out, h1]; rfl)
    go_wp2
    go_ret
    exact ⟨_, rfl, by rw [hz]; exact (Hem.out _ Hbw.out).mono (by omega), below_step Hb0.out Hb0.out.size Hbw.out⟩
  | true =>
  go_wp2_with fail
  refine (H2.out w1 Hc1.out Hy1.out).mono ?_
  rintro e w2 ⟨rfl, hb2⟩
  have l0 : w.heap.size < w1.heap.size := by omega
  have l1 : w.heap.size + 1 < w1.heap.size := by omega
  have k0 := (hb2.cell (p := ⟨w.heap.size, 0, none⟩) l0).trans k0
  have k1 := (hb2.cell (p := ⟨w.heap.size, 1, none⟩) l0).trans k1
  have k2 := (hb2.cell (p := ⟨w.heap.size, 2, none⟩) l0).trans k2
  have k3 := (hb2.cell (p := ⟨w.heap.size, 3, none⟩) l0).trans k3
  have j0 := (hb2.cell (p := ⟨w.heap.size + 1, 0, none⟩) l1).trans j0
  have j1 := (hb2.cell (p := ⟨w.heap.size + 1, 1, none⟩) l1).trans j1
  have j2 := (hb2.cell (p := ⟨w.heap.size + 1, 2, none⟩) l1).trans j2
  have j3 := (hb2.cell (p := ⟨w.heap.size + 1, 3, none⟩) l1).trans j3
  have Hbw := Lib.hid (below_step Hbw.out Hbw.out.size hb2)
  clear hb2 l0 l1 hs1
  cases h2 : tallyB c ⟨rb, ab, db⟩ ys with
  | false =>
    have hz := Hno.out (by rw [Htwo.out, h1, h2]; rfl)
    go_wp2
    go_ret
    exact ⟨_, rfl, by rw [hz]; exact (Hem.out _ Hbw.out).mono (by omega), below_step Hb0.out Hb0.out.size Hbw.out⟩
  | true =>
  by_cases hr : ra = rb
  case neg =>
    have hz := Hno.out (by rw [Htwo.out, h1, h2, decide_eq_false hr]; rfl)
    have hr' : (ra == rb) = false := by simpa using hr
    go_wp2
    go_ret
    exact ⟨_, rfl, by rw [hz]; exact (Hem.out _ Hbw.out).mono (by omega), below_step Hb0.out Hb0.out.size Hbw.out⟩
  have hr' : (ra == rb) = true := by simpa using hr
  by_cases ha : aa = ab
  case neg =>
    have hz := Hno.out (by rw [Htwo.out, h1, h2, decide_eq_true hr, decide_eq_false ha]; rfl)
    have ha' : (aa == ab) = false := by simpa using ha
    go_wp2
    go_ret
    exact ⟨_, rfl, by rw [hz]; exact (Hem.out _ Hbw.out).mono (by omega), below_step Hb0.out Hb0.out.size Hbw.out⟩
  have ha' : (aa == ab) = true := by simpa using ha
  by_cases hd : da = db
  case pos =>
    have hz := Hno.out (by rw [Htwo.out, h1, h2, decide_eq_true hr, decide_eq_true ha]; simp [hd])
    have hd' : (da == db) = true := by simpa using hd
    go_wp2
    go_ret
    exact ⟨_, rfl, by rw [hz]; exact (Hem.out _ Hbw.out).mono (by omega), below_step Hb0.out Hb0.out.size Hbw.out⟩
  have hz := Hyes.out (by rw [Htwo.out, h1, h2, decide_eq_true hr, decide_eq_true ha]; simp [hd])
  have hd' : (da == db) = false := by simpa using hd
  have Hz := Lib.hid hz
  have hx := HX.out.below Hbw.out
  have hem := Hem.out _ Hbw.out
  have hsz1 : w.heap.size + 3 ≤ w2.heap.size := by have := Hbw.out.size; omega
  clear hz h1 h2 Hno Hyes Htwo H1 H2 hx
  go_wp2
  go_loopw [7, 8] (fun v i wr => ∃ k : Nat, k ≤ xs.length ∧ i = .int .i64 k ∧ Own 3 wr (w.heap.size + 2) v (commonTo xs ys k) ∧ Below (w.heap.size + 2) W0 wr) (fun _ i _ => xs.length - (intOf i).toNat)
  case atStart => exact ⟨0, by omega, rfl, hem, Hbw.out.mono (by omega)⟩
  case round =>
    obtain ⟨k, hk, rfl, hown, hbel⟩ := hrel
    have hlen := commonTo_len xs ys k
    have hB := hbel.size
    have hp1 : w.heap.size < w.heap.size + 2 := by omega
    have hp2 : w.heap.size + 1 < w.heap.size + 2 := by omega
    have hbe0 := Hb0.out.trans (hbel.mono (Nat.le_add_right _ 2))
    have z0 := (hbel.cell (p := ⟨w.heap.size, 3, none⟩) hp1).trans K3.out
    have z1 := (hbel.cell (p := ⟨w.heap.size + 1, 3, none⟩) hp2).trans J3.out
    by_cases hlt : k < xs.length
    · obtain ⟨b, off, rfl, hb, hat⟩ := (HX0.out.below hbe0).cell (by omega)
      have e0 := hat k hlt
      have Hy1 := Lib.hid (HY0.out.below hbe0)
      have Hbel := Lib.hid hbel; clear hbel hat hbe0
      have hcy := fun (e : hasB ys xs[k] = true) => commonTo_yes hlt e
      have hcn := fun (e : hasB ys xs[k] = false) => commonTo_no hlt e
      generalize xs[k] = x at *
      have Hcy := Lib.hid hcy; have Hcn := Lib.hid hcn
      have Hown := Lib.hid hown
      have hb1 : Below wr.heap.size wr wr.drew := (Below.refl _ _).drew
      clear hcy hcn hown
      cases e : hasB ys x with
      | false =>
        have H3 := Lib.hid (fun W h => HH.out x W h)
        rw [e] at H3
        go_wp2_with fail
        refine wp_region_held_drew (S := fun w' => Below wr.heap.size wr w' ∧ w'.cell? ⟨w.heap.size, 3, none⟩ = some (.slice (some ⟨b, off, none⟩) xs.length ca) ∧ w'.cell? ⟨w.heap.size + 1, 3, none⟩ = some (.slice pb ys.length cb) ∧ w'.cell? ⟨b, off + k, none⟩ = some (.int .i64 x)) (by kernel_rfl) ⟨hb1, z0, z1, e0⟩ (fun hH => ?_)
        refine takeH 0 (v := ?vra0) rfl (by kernel_rfl) (by kernel_rfl) (by kernel_rfl) (fun _ _ _ h => h) hH rfl ?yra0 ?rra0
        case yra0 => intro W hSw; go_simp; try with_reducible rfl
        try simp only [Act.put, List.setIfInBounds_toArray, List.set_cons_zero, List.set_cons_succ]
        refine takeH 1 (v := ?vra1) rfl (by kernel_rfl) (by kernel_rfl) (by kernel_rfl) (fun _ _ _ h => h) hH rfl ?yra1 ?rra1
        case yra1 => intro W hSw; go_simp; try with_reducible rfl
        try simp only [Act.put, List.setIfInBounds_toArray, List.set_cons_zero, List.set_cons_succ]
        refine takeH 2 (v := ?vra2) rfl (by kernel_rfl) (by kernel_rfl) (by kernel_rfl) (fun _ _ _ h => h) hH rfl ?yra2 ?rra2
        case yra2 => intro W hSw; go_simp; try with_reducible rfl
        try simp only [Act.put, List.setIfInBounds_toArray, List.set_cons_zero, List.set_cons_succ]
        refine takeH 3 (v := ?vra3) rfl (by kernel_rfl) (by kernel_rfl) (by kernel_rfl) (fun _ _ _ h => h) hH rfl ?yra3 ?rra3
        case yra3 => intro W hSw; go_simp; try with_reducible rfl
        try simp only [Act.put, List.setIfInBounds_toArray, List.set_cons_zero, List.set_cons_succ]
        refine takeH 4 (v := ?vra4) rfl (by kernel_rfl) (by kernel_rfl) (by kernel_rfl) (fun _ _ _ h => h) hH rfl ?yra4 ?rra4
        case yra4 => intro W hSw; go_simp; try with_reducible rfl
        try simp only [Act.put, List.setIfInBounds_toArray, List.set_cons_zero, List.set_cons_succ]
        refine takeH 5 (v := ?vra5) rfl (by kernel_rfl) (by kernel_rfl) (by kernel_rfl) (fun _ _ _ h => h) hH rfl ?yra5 ?rra5
        case yra5 => intro W hSw; go_simp; try with_reducible rfl
        try simp only [Act.put, List.setIfInBounds_toArray, List.set_cons_zero, List.set_cons_succ]
        refine takeH 6 (v := ?vra6) rfl (by kernel_rfl) (by kernel_rfl) (by kernel_rfl) (fun _ _ _ h => h) hH rfl ?yra6 ?rra6
        case yra6 => intro W hSw; go_simp; try with_reducible rfl
        try simp only [Act.put, List.setIfInBounds_toArray, List.set_cons_zero, List.set_cons_succ]
        refine callH 7 rfl (by kernel_rfl) rfl (fun K hK => ?_)
        go_simp
        go_at_call 46
        refine (H3.out _ (Hy1.out.below hH.1)).mono ?_
        rintro e wx ⟨rfl, rfl⟩
        refine hK.out _ _ hH (fun hH => ?_)
        clear hK K
        try simp only [Act.put, List.setIfInBounds_toArray, List.set_cons_zero, List.set_cons_succ]
        refine wpAnyH_done (by kernel_rfl) ?_ _
        try simp only [Act.put]
        obtain ⟨hbw, _⟩ := hH
        go_wp2
        go_roundw
        case rel => exact ⟨k + 1, by omega, by go_num, by rw [Hcn.out e]; exact Hown.out.below hbw, below_step Hbel.out (by omega) hbw⟩
        case measure => simp [intOf]; omega
      | true =>
        have H3 := Lib.hid (fun W h => HH.out x W h)
        rw [e] at H3
        go_wp2_with fail
        refine wp_region_held_drew (S := fun w' => Below wr.heap.size wr w' ∧ w'.cell? ⟨w.heap.size, 3, none⟩ = some (.slice (some ⟨b, off, none⟩) xs.length ca) ∧ w'.cell? ⟨w.heap.size + 1, 3, none⟩ = some (.slice pb ys.length cb) ∧ w'.cell? ⟨b, off + k, none⟩ = some (.int .i64 x)) (by kernel_rfl) ⟨hb1, z0, z1, e0⟩ (fun hH => ?_)
        refine takeH 0 (v := ?vrb0) rfl (by kernel_rfl) (by kernel_rfl) (by kernel_rfl) (fun _ _ _ h => h) hH rfl ?yrb0 ?rrb0
        case yrb0 => intro W hSw; go_simp; try with_reducible rfl
        try simp only [Act.put, List.setIfInBounds_toArray, List.set_cons_zero, List.set_cons_succ]
        refine takeH 1 (v := ?vrb1) rfl (by kernel_rfl) (by kernel_rfl) (by kernel_rfl) (fun _ _ _ h => h) hH rfl ?yrb1 ?rrb1
        case yrb1 => intro W hSw; go_simp; try with_reducible rfl
        try simp only [Act.put, List.setIfInBounds_toArray, List.set_cons_zero, List.set_cons_succ]
        refine takeH 2 (v := ?vrb2) rfl (by kernel_rfl) (by kernel_rfl) (by kernel_rfl) (fun _ _ _ h => h) hH rfl ?yrb2 ?rrb2
        case yrb2 => intro W hSw; go_simp; try with_reducible rfl
        try simp only [Act.put, List.setIfInBounds_toArray, List.set_cons_zero, List.set_cons_succ]
        refine takeH 3 (v := ?vrb3) rfl (by kernel_rfl) (by kernel_rfl) (by kernel_rfl) (fun _ _ _ h => h) hH rfl ?yrb3 ?rrb3
        case yrb3 => intro W hSw; go_simp; try with_reducible rfl
        try simp only [Act.put, List.setIfInBounds_toArray, List.set_cons_zero, List.set_cons_succ]
        refine takeH 4 (v := ?vrb4) rfl (by kernel_rfl) (by kernel_rfl) (by kernel_rfl) (fun _ _ _ h => h) hH rfl ?yrb4 ?rrb4
        case yrb4 => intro W hSw; go_simp; try with_reducible rfl
        try simp only [Act.put, List.setIfInBounds_toArray, List.set_cons_zero, List.set_cons_succ]
        refine takeH 5 (v := ?vrb5) rfl (by kernel_rfl) (by kernel_rfl) (by kernel_rfl) (fun _ _ _ h => h) hH rfl ?yrb5 ?rrb5
        case yrb5 => intro W hSw; go_simp; try with_reducible rfl
        try simp only [Act.put, List.setIfInBounds_toArray, List.set_cons_zero, List.set_cons_succ]
        refine takeH 6 (v := ?vrb6) rfl (by kernel_rfl) (by kernel_rfl) (by kernel_rfl) (fun _ _ _ h => h) hH rfl ?yrb6 ?rrb6
        case yrb6 => intro W hSw; go_simp; try with_reducible rfl
        try simp only [Act.put, List.setIfInBounds_toArray, List.set_cons_zero, List.set_cons_succ]
        refine callH 7 rfl (by kernel_rfl) rfl (fun K hK => ?_)
        go_simp
        go_at_call 46
        refine (H3.out _ (Hy1.out.below hH.1)).mono ?_
        rintro e wx ⟨rfl, rfl⟩
        refine hK.out _ _ hH (fun hH => ?_)
        clear hK K
        try simp only [Act.put, List.setIfInBounds_toArray, List.set_cons_zero, List.set_cons_succ]
        refine wpAnyH_done (by kernel_rfl) ?_ _
        try simp only [Act.put]
        generalize wr.drew = wd at *
        obtain ⟨hbw, z0, z1, e0⟩ := hH
        have hsw := hbw.size
        have hown := Hown.out.below hbw
        have Hbw := Lib.hid (below_step Hbel.out (by omega) hbw)
        clear hbw hb1
        go_wp2_with (at_builtin; refine wpList_push TI2 rfl (.tmp 63) (.tmp 69) rfl (w.heap.size + 2) _ (commonTo xs ys k) _ rfl hown (by omega) rfl (by omega) ?_; intro v' w5 hown5 hg5)
        go_roundw
        case rel => exact ⟨k + 1, by omega, by go_num, by rw [Hcy.out e]; exact hown5, Hbw.out.grown hg5 (by omega) (fun g e => by have := (hown.lt g e).1; omega)⟩
        case measure => simp [intOf]; omega
    · have hkn : k = xs.length := by omega
      have Hk := Lib.hid hkn; clear hkn
      go_wp2
      go_ret
      exact ⟨_, rfl, by rw [Hz.out]; unfold commonZ; rw [← Hk.out]; exact hown.mono (by omega), Hb0.out.trans (hbel.mono (by omega))⟩

end Go.Proofs.Ytgpbogalknmcmab

/- The members that two tallies have in common, and a tally's quorum, as impl answers them, by walks of its text; conditions: lists are shorter than 2^40. -/
namespace Go.Proofs.Ytgpbogalknmcmab
open Go.RowKit

theorem asc_ext : ∀ (a b : List Int), a.Pairwise (· < ·) → b.Pairwise (· < ·) → (∀ x, x ∈ a ↔ x ∈ b) → a = b
  | [], [], _, _, _ => rfl
  | [], y :: ys, _, _, h => absurd ((h y).2 List.mem_cons_self) (by simp)
  | x :: xs, [], _, _, h => absurd ((h x).1 List.mem_cons_self) (by simp)
  | x :: xs, y :: ys, ha, hb, h => by
    obtain ⟨ha1, ha2⟩ := List.pairwise_cons.1 ha
    obtain ⟨hb1, hb2⟩ := List.pairwise_cons.1 hb
    have hxy : x = y := by
      rcases List.mem_cons.1 ((h x).1 List.mem_cons_self) with e | hx
      · exact e
      · rcases List.mem_cons.1 ((h y).2 List.mem_cons_self) with e | hy
        · exact e.symm
        · exact absurd (Int.lt_trans (ha1 y hy) (hb1 x hx)) (Int.lt_irrefl _)
    subst hxy
    have ht : xs = ys := asc_ext xs ys ha2 hb2 fun z => by
      refine ⟨fun hz => ?_, fun hz => ?_⟩
      · rcases List.mem_cons.1 ((h z).1 (List.mem_cons_of_mem _ hz)) with e | hz'
        · subst e; exact absurd (ha1 _ hz) (Int.lt_irrefl _)
        · exact hz'
      · rcases List.mem_cons.1 ((h z).2 (List.mem_cons_of_mem _ hz)) with e | hz'
        · subst e; exact absurd (hb1 _ hz) (Int.lt_irrefl _)
        · exact hz'
    rw [ht]
theorem common_comm {n : Nat} {a b : List Int} (ha : AscP n a) (hb : AscP n b) : commonZ a b = commonZ b a := by
  refine asc_ext _ _ (ascP_common ha).1 (ascP_common hb).1 fun x => ?_
  simp only [commonZ_eq, List.mem_filter, hasB, decide_eq_true_eq]
  exact and_comm
def filtTo (p : Int → Bool) (l : List Int) (k : Nat) : List Int := (l.take k).filter p
theorem filtTo_yes {p : Int → Bool} {a : List Int} {k : Nat} (hk : k < a.length) (h : p a[k] = true) : filtTo p a (k + 1) = filtTo p a k ++ [a[k]] := by
  unfold filtTo; rw [List.take_succ_eq_append_getElem hk, List.filter_append]; simp [h]
theorem filtTo_no {p : Int → Bool} {a : List Int} {k : Nat} (hk : k < a.length) (h : p a[k] = false) : filtTo p a (k + 1) = filtTo p a k := by
  unfold filtTo; rw [List.take_succ_eq_append_getElem hk, List.filter_append]; simp [h]
theorem filtTo_len (p : Int → Bool) (a : List Int) (k : Nat) : (filtTo p a k).length ≤ k := Nat.le_trans (List.length_filter_le _ _) (List.length_take_le _ _)
/-- The two votes contradict each other. -/
def confB (v u : Vt) : Bool := decide (v.r = u.r) && (decide (v.a = u.a) && decide (v.d ≠ u.d))
theorem guilty_no {c : List Int} {v u : Vt} {xs ys : List Int} (h : (tallyB c v xs && tallyB c u ys) = false) : guiltyZ c v u xs ys = [] := by
  unfold guiltyZ twoB
  rw [if_neg]
  intro h2
  simp only [Bool.and_eq_true] at h2
  rw [h2.1, h2.2.1] at h
  cases h
theorem guilty_yes {c : List Int} {v u : Vt} {xs ys : List Int} (h : tallyB c v xs = true) (h' : tallyB c u ys = true) : filtTo (fun m => confB v u && hasB xs m) ys ys.length = guiltyZ c v u xs ys := by
  have hx : AscP c.length xs := ascP_of (by unfold tallyB at h; simp only [Bool.and_eq_true] at h; exact h.2.2)
  have hy : AscP c.length ys := ascP_of (by unfold tallyB at h'; simp only [Bool.and_eq_true] at h'; exact h'.2.2)
  unfold guiltyZ twoB
  rw [h, h', Bool.true_and, Bool.true_and, show (decide (v.r = u.r) && (decide (v.a = u.a) && decide (v.d ≠ u.d))) = confB v u from rfl]
  cases hc : confB v u with
  | false => simp [filtTo]
  | true => simp only [Bool.true_and, if_true]; rw [common_comm hx hy, commonZ_eq]; unfold filtTo; rw [List.take_length]

set_option maxHeartbeats 2000000 in
theorem impl_TallyGuilty (ac : Option Addr) (capc : Nat) (c : List Int) (ra aa da rb ab db : Int) (pa pb : Option Addr) (ca cb : Nat) (xs ys : List Int) (w : World) (hn : c.length ≤ 1099511627776) (hbx : xs.length ≤ 1048576) (hby : ys.length ≤ 1099511627776) (hc : IntsAt w ac c) (hx : IntsAt w pa xs) (hy : IntsAt w pb ys) :
    Calls Try.prog 21 #[.slice ac c.length capc, .agg #[.int .i64 ra, .int .i64 aa, .int .i64 da, .slice pa xs.length ca], .agg #[.int .i64 rb, .int .i64 ab, .int .i64 db, .slice pb ys.length cb]] w fun e w' => ∃ v, e = .returned v ∧ Own 3 w' w.heap.size v (guiltyZ c ⟨ra, aa, da⟩ ⟨rb, ab, db⟩ xs ys) ∧ Below w.heap.size w w' := by
  have hb0 : Below w.heap.size w (((w.alloc (.cells #[.int .i64 ra, .int .i64 aa, .int .i64 da, .slice pa xs.length ca] 27)).alloc (.cells #[.int .i64 rb, .int .i64 ab, .int .i64 db, .slice pb ys.length cb] 27)).alloc (.cells #[] 3)) := (((Below.refl _ _).alloc (Nat.le_refl _) _).alloc (by simp) _).alloc (by simp; omega) _
  have s0 := ((Str.new w 27 #[.int .i64 ra, .int .i64 aa, .int .i64 da, .slice pa xs.length ca]).alloc (.cells #[.int .i64 rb, .int .i64 ab, .int .i64 db, .slice pb ys.length cb] 27)).alloc (.cells #[] 3)
  have s1 := (Str.new (w.alloc (.cells #[.int .i64 ra, .int .i64 aa, .int .i64 da, .slice pa xs.length ca] 27)) 27 #[.int .i64 rb, .int .i64 ab, .int .i64 db, .slice pb ys.length cb]).alloc (.cells #[] 3)
  have hsz0 : (((w.alloc (.cells #[.int .i64 ra, .int .i64 aa, .int .i64 da, .slice pa xs.length ca] 27)).alloc (.cells #[.int .i64 rb, .int .i64 ab, .int .i64 db, .slice pb ys.length cb] 27)).alloc (.cells #[] 3)).heap.size = w.heap.size + 3 := by simp
  have hemp : ∀ W, Below (((w.alloc (.cells #[.int .i64 ra, .int .i64 aa, .int .i64 da, .slice pa xs.length ca] 27)).alloc (.cells #[.int .i64 rb, .int .i64 ab, .int .i64 db, .slice pb ys.length cb] 27)).alloc (.cells #[] 3)).heap.size (((w.alloc (.cells #[.int .i64 ra, .int .i64 aa, .int .i64 da, .slice pa xs.length ca] 27)).alloc (.cells #[.int .i64 rb, .int .i64 ab, .int .i64 db, .slice pb ys.length cb] 27)).alloc (.cells #[] 3)) W → Own 3 W (w.heap.size + 2) (.slice (some ⟨w.heap.size + 2, 0, none⟩) 0 0) [] := fun W hW => by
    have h := own_empty 3 (B := w.heap.size + 2) ((w.alloc (.cells #[.int .i64 ra, .int .i64 aa, .int .i64 da, .slice pa xs.length ca] 27)).alloc (.cells #[.int .i64 rb, .int .i64 ab, .int .i64 db, .slice pb ys.length cb] 27)) (by simp)
    simp only [World.size_alloc] at h
    exact h.below hW
  simp only [World.size_alloc] at s1
  have k0 := s0.cell 0 (v := .int .i64 ra) rfl
  have k1 := s0.cell 1 (v := .int .i64 aa) rfl
  have k2 := s0.cell 2 (v := .int .i64 da) rfl
  have k3 := s0.cell 3 (v := .slice pa xs.length ca) rfl
  have Hs0 := Lib.hid s0
  have Hs1 := Lib.hid s1
  have HC := Lib.hid (hc.below hb0)
  have HX := Lib.hid (hx.below hb0)
  have HY := Lib.hid (hy.below hb0)
  have Hem := Lib.hid hemp
  have Hb0 := Lib.hid hb0; clear hb0 s0 s1 hemp
  have HX0 := Lib.hid hx
  have HY0 := Lib.hid hy; clear hc hx hy
  have H1 := Lib.hid (fun W (h : IntsAt W ac c) (h' : IntsAt W pa xs) => tally_fits ac capc c ra aa da pa ca xs W hn (by omega) h h')
  have H2 := Lib.hid (fun W (h : IntsAt W ac c) (h' : IntsAt W pb ys) => tally_fits ac capc c rb ab db pb cb ys W hn hby h h')
  have H3 := Lib.hid (fun W => contradiction pa ca ⟨ra, aa, da⟩ ⟨rb, ab, db⟩ xs W)
  have H4 := Lib.hid (fun B C x W (h : World.cell? W ⟨B, 0, none⟩ = _) (h' : World.cell? W ⟨C, 3, none⟩ = some (.slice pa xs.length ca)) (h'' : IntsAt W pa xs) => contradiction1 B C (confB ⟨ra, aa, da⟩ ⟨rb, ab, db⟩) pa ca xs x W (by omega) h h' h'')
  have Hno := Lib.hid (@guilty_no c ⟨ra, aa, da⟩ ⟨rb, ab, db⟩ xs ys)
  have Hyes := Lib.hid (@guilty_yes c ⟨ra, aa, da⟩ ⟨rb, ab, db⟩ xs ys)
  go_enter Try.func21, Try.ntmps21
  go_wp2_with fail
  generalize ((w.alloc (.cells #[.int .i64 ra, .int .i64 aa, .int .i64 da, .slice pa xs.length ca] 27)).alloc (.cells #[.int .i64 rb, .int .i64 ab, .int .i64 db, .slice pb ys.length cb] 27)).alloc (.cells #[] 3) = W0 at *
  refine (H1.out W0 HC.out HX.out).mono ?_
  rintro e w1 ⟨rfl, hb1⟩
  have Hbw := Lib.hid hb1
  have Hc1 := Lib.hid (HC.out.below hb1)
  have Hy1 := Lib.hid (HY.out.below hb1)
  have s1 : Str w1 (w.heap.size + 1) 27 #[.int .i64 rb, .int .i64 ab, .int .i64 db, .slice pb ys.length cb] := (hb1.block _ Hs1.out.lt).trans Hs1.out
  clear hb1 k0 k1 k2 k3
  cases h1 : tallyB c ⟨ra, aa, da⟩ xs with
  | false =>
    have hz := Hno.out (by rw [h1]; rfl)
    clear s1
    go_wp2
    go_ret
    exact ⟨_, rfl, by rw [hz]; exact (Hem.out _ Hbw.out).mono (by omega), below_step Hb0.out Hb0.out.size Hbw.out⟩
  | true =>
  have j0 := s1.cell 0 (v := .int .i64 rb) rfl
  have j1 := s1.cell 1 (v := .int .i64 ab) rfl
  have j2 := s1.cell 2 (v := .int .i64 db) rfl
  have j3 := s1.cell 3 (v := .slice pb ys.length cb) rfl
  go_wp2_with fail
  refine (H2.out w1 Hc1.out Hy1.out).mono ?_
  rintro e w2 ⟨rfl, hb2⟩
  have Hbw2 := Lib.hid (below_step Hbw.out Hbw.out.size hb2)
  clear s1 hb2 j0 j1 j2 j3 Hbw Hc1 Hy1
  have s0 : Str w2 w.heap.size 27 #[.int .i64 ra, .int .i64 aa, .int .i64 da, .slice pa xs.length ca] := (Hbw2.out.block _ Hs0.out.lt).trans Hs0.out
  have s1 : Str w2 (w.heap.size + 1) 27 #[.int .i64 rb, .int .i64 ab, .int .i64 db, .slice pb ys.length cb] := (Hbw2.out.block _ Hs1.out.lt).trans Hs1.out
  have k0 := s0.cell 0 (v := .int .i64 ra) rfl
  have k1 := s0.cell 1 (v := .int .i64 aa) rfl
  have k2 := s0.cell 2 (v := .int .i64 da) rfl
  have k3 := s0.cell 3 (v := .slice pa xs.length ca) rfl
  have j0 := s1.cell 0 (v := .int .i64 rb) rfl
  have j1 := s1.cell 1 (v := .int .i64 ab) rfl
  have j2 := s1.cell 2 (v := .int .i64 db) rfl
  clear s0 s1
  cases h2 : tallyB c ⟨rb, ab, db⟩ ys with
  | false =>
    have hz := Hno.out (by rw [h1, h2]; rfl)
    go_wp2
    go_ret
    exact ⟨_, rfl, by rw [hz]; exact (Hem.out _ Hbw2.out).mono (by omega), below_step Hb0.out Hb0.out.size Hbw2.out⟩
  | true =>
  have Hz := Lib.hid (Hyes.out h1 h2)
  go_wp2_with fail
  refine (H3.out w2).mono ?_
  rintro e w3 ⟨B, rfl, hB1, hB2, hC2, hB, hC, hb3⟩
  have Hbw3 := Lib.hid (below_step Hbw2.out Hbw2.out.size hb3)
  have Hb23 := Lib.hid hb3
  have s1 : Str w3 (w.heap.size + 1) 27 #[.int .i64 rb, .int .i64 ab, .int .i64 db, .slice pb ys.length cb] := (Hbw3.out.block _ Hs1.out.lt).trans Hs1.out
  have j3 := s1.cell 3 (v := .slice pb ys.length cb) rfl
  have Hem3 := Lib.hid (Hem.out _ Hbw3.out)
  have hs2 := Hbw2.out.size
  have hs3 := Hbw3.out.size
  clear s1 k0 k1 k2 k3 j0 j1 j2 hb3 Hno Hyes H1 H2 H3 Hs0 Hs1 h1 h2
  have HB := Lib.hid (show w3.cell? ⟨B, 0, none⟩ = some (.bool (confB ⟨ra, aa, da⟩ ⟨rb, ab, db⟩)) from hB)
  have HC' := Lib.hid hC
  have HX3 := Lib.hid (HX.out.below Hbw3.out)
  have HY3 := Lib.hid (HY.out.below Hbw3.out)
  have Hb3w := Lib.hid (below_step Hb0.out Hb0.out.size Hbw3.out)
  clear hB hC
  go_wp2
  generalize hcf : confB ⟨ra, aa, da⟩ ⟨rb, ab, db⟩ = cf at *
  clear hcf
  go_loopw [7, 30] (fun v i wr => ∃ k : Nat, k ≤ ys.length ∧ i = .int .i64 k ∧ Own 3 wr (w.heap.size + 2) v (filtTo (fun m => cf && hasB xs m) ys k) ∧ Below (w.heap.size + 2) w3 wr ∧ w3.heap.size ≤ wr.heap.size ∧ wr.cell? ⟨B, 0, none⟩ = some (.bool cf) ∧ wr.cell? ⟨w2.heap.size, 3, none⟩ = some (.slice pa xs.length ca) ∧ ∀ g, v.ownBlock = some g → g = w.heap.size + 2 ∨ w3.heap.size ≤ g) (fun _ i _ => ys.length - (intOf i).toNat)
  case atStart => exact ⟨0, by omega, rfl, Hem3.out, Below.refl _ _, Nat.le_refl _, HB.out, HC'.out, fun g e => by simp [Value.ownBlock] at e; omega⟩
  case round =>
    obtain ⟨k, hk, rfl, hown, hbel, hsz, hB, hC, hpl⟩ := hrel
    have hlen := filtTo_len (fun m => cf && hasB xs m) ys k
    have hbe0 := Hb3w.out.trans (hbel.mono (by omega))
    have Hbe0 := Lib.hid hbe0
    by_cases hlt : k < ys.length
    · obtain ⟨b, off, rfl, hb, hat⟩ := (HY0.out.below hbe0).cell (by omega)
      have e0 := hat k hlt
      have HX1 := Lib.hid (HX0.out.below hbe0)
      have hcy := fun (e : (cf && hasB xs ys[k]) = true) => filtTo_yes (p := fun m => cf && hasB xs m) hlt e
      have hcn := fun (e : (cf && hasB xs ys[k]) = false) => filtTo_no (p := fun m => cf && hasB xs m) hlt e
      generalize ys[k] = x at *
      have Hcy := Lib.hid hcy; have Hcn := Lib.hid hcn
      have Hown := Lib.hid hown
      have Hpl := Lib.hid hpl
      have Hbel := Lib.hid hbel
      have HB' := Lib.hid hB
      have HC'' := Lib.hid hC
      clear hcy hcn hown hpl hbel hbe0 hat hB hC
      go_wp2_with fail
      refine (H4.out B w2.heap.size x wr HB'.out HC''.out HX1.out).mono ?_
      rintro e w4 ⟨rfl, rfl⟩
      cases e : (cf && hasB xs x) with
      | false =>
        go_wp2
        go_roundw
        case rel => exact ⟨k + 1, by omega, by go_num, by rw [Hcn.out e]; exact Hown.out, Hbel.out, hsz, HB'.out, HC''.out, Hpl.out⟩
        case measure => simp [intOf]; omega
      | true =>
        go_wp2_with (at_builtin; refine wpList_push_at TI2 rfl (.tmp 37) (.tmp 39) rfl (w.heap.size + 2) _ (filtTo (fun m => cf && hasB xs m) ys k) _ rfl Hown.out (by omega) rfl (by omega) ?_; intro v' w5 hown5 hg5 hpl5)
        have hne : ∀ g, u7.ownBlock = some g → g ≠ B ∧ g ≠ w2.heap.size := fun g e => by have := Hpl.out g e; omega
        go_roundw
        case rel => exact ⟨k + 1, by omega, by go_num, by rw [Hcy.out e]; exact hown5, Hbel.out.grown hg5 (by omega) (fun g e => by have := (Hown.out.lt g e).1; omega), (Hbel.out.grown hg5 (by omega) (fun g e => by have := (Hown.out.lt g e).1; omega)).size, hg5.cell HB'.out (fun e => (hne _ e.symm).1 rfl), hg5.cell HC''.out (fun e => (hne _ e.symm).2 rfl), fun g e => by
            rcases hpl5 with h | ⟨g', h, hg'⟩
            · exact Hpl.out g (h ▸ e)
            · rw [h] at e; cases e; exact .inr (by omega)⟩
        case measure => simp [intOf]; omega
    · have hkn : k = ys.length := by omega
      have Hk := Lib.hid hkn; clear hkn
      go_wp2
      go_ret
      exact ⟨_, rfl, by rw [← Hz.out, ← Hk.out]; exact hown.mono (by omega), Hbe0.out⟩

end Go.Proofs.Ytgpbogalknmcmab

/- A tally's quorum as impl asks it, by a walk of its text; conditions: lists are shorter than 2^40. -/
namespace Go.Proofs.Ytgpbogalknmcmab
open Go.RowKit

def vqB (c ps : List Int) : Bool := membersB c.length ps && decide (2 * totalZ c / 3 + 1 ≤ weightZ c ps)
theorem vt_isQuorum (ac : Option Addr) (capc : Nat) (c : List Int) (pa : Option Addr) (pc : Nat) (ps : List Int) (w : World) (hv : validB c = true) (hbig : ps.length ≤ 1099511627776) (hc : IntsAt w ac c) (hp : IntsAt w pa ps) :
    Calls Try.prog 47 #[.slice ac c.length capc, .slice pa ps.length pc] w fun e w' => e = .returned (.bool (vqB c ps)) ∧ w = w' := by
  obtain ⟨hn1, hn7⟩ := validB_len hv
  have H1 := Lib.hid (committee_hasMembers ac capc c.length pa pc ps w (by omega) hbig hp)
  have H2 := Lib.hid (fun (hm : membersB c.length ps = true) => committee_weight ac capc c pa pc ps w hv hm hbig hc hp)
  have H3 := Lib.hid (committee_quorum ac capc c w hv hc)
  clear hc hp
  have Hq := Lib.hid (show vqB c ps = (membersB c.length ps && decide (2 * totalZ c / 3 + 1 ≤ weightZ c ps)) from rfl)
  go_enter Try.func47, Try.ntmps47
  go_wp2_with fail
  refine H1.out.mono ?_
  rintro e w1 ⟨rfl, rfl⟩
  cases hm : membersB c.length ps with
  | false =>
    go_wp2
    go_ret
    exact ⟨ret_bool (by rw [Hq.out, hm]; rfl), rfl⟩
  | true =>
    have H2 := Lib.hid (H2.out hm)
    go_wp2_with fail
    refine H2.out.mono ?_
    rintro e w1 ⟨rfl, rfl⟩
    go_wp2_with fail
    refine H3.out.mono ?_
    rintro e w1 ⟨rfl, rfl⟩
    go_wp2
    go_ret
    exact ⟨ret_bool (by rw [Hq.out, hm]; rfl), rfl⟩

set_option maxHeartbeats 1000000 in
theorem impl_TallyDone (ac : Option Addr) (capc : Nat) (c : List Int) (r a d : Int) (am : Option Addr) (cm : Nat) (ms : List Int) (w : World) (hn : c.length ≤ 1099511627776) (hbig : ms.length ≤ 1099511627776) (hc : IntsAt w ac c) (hm : IntsAt w am ms) :
    Calls Try.prog 16 #[.slice ac c.length capc, .agg #[.int .i64 r, .int .i64 a, .int .i64 d, .slice am ms.length cm]] w fun e w' => e = .returned (.bool (doneB c ⟨r, a, d⟩ ms)) ∧ Below w.heap.size w w' := by
  have hb0 : Below w.heap.size w (w.alloc (.cells #[.int .i64 r, .int .i64 a, .int .i64 d, .slice am ms.length cm] 27)) := (Below.refl _ _).alloc (Nat.le_refl _) _
  have s0 := Str.new w 27 #[.int .i64 r, .int .i64 a, .int .i64 d, .slice am ms.length cm]
  have hsz0 : (w.alloc (.cells #[.int .i64 r, .int .i64 a, .int .i64 d, .slice am ms.length cm] 27)).heap.size = w.heap.size + 1 := by simp
  have k0 := s0.cell 0 (v := .int .i64 r) rfl
  have k1 := s0.cell 1 (v := .int .i64 a) rfl
  have k2 := s0.cell 2 (v := .int .i64 d) rfl
  have k3 := s0.cell 3 (v := .slice am ms.length cm) rfl
  have HC := Lib.hid (hc.below hb0)
  have HM := Lib.hid (hm.below hb0)
  have Hb0 := Lib.hid hb0; clear hb0 s0 hc hm
  have H1 := Lib.hid (fun W (h : IntsAt W ac c) (h' : IntsAt W am ms) => tally_fits ac capc c r a d am cm ms W hn hbig h h')
  have Hres := Lib.hid (show doneB c ⟨r, a, d⟩ ms = (tallyB c ⟨r, a, d⟩ ms && decide (2 * totalZ c / 3 + 1 ≤ weightZ c ms)) from rfl)
  go_enter Try.func16, Try.ntmps16
  go_wp2_with fail
  generalize w.alloc (.cells #[.int .i64 r, .int .i64 a, .int .i64 d, .slice am ms.length cm] 27) = W0 at *
  refine (H1.out W0 HC.out HM.out).mono ?_
  rintro e w1 ⟨rfl, hb1⟩
  have k3 := (hb1.cell (p := ⟨w.heap.size, 3, none⟩) (by simp only; omega)).trans k3
  have HM1 := Lib.hid (HM.out.below hb1)
  have HC1 := Lib.hid (HC.out.below hb1)
  have Hb1 := Lib.hid (below_step Hb0.out Hb0.out.size hb1)
  clear hb1 k0 k1 k2
  cases h1 : tallyB c ⟨r, a, d⟩ ms with
  | false =>
    go_wp2
    go_ret
    exact ⟨ret_bool (by rw [Hres.out, h1]; rfl), Hb1.out⟩
  | true =>
  have hv : validB c = true := by
    have h := h1; unfold tallyB at h; simp only [Bool.and_eq_true] at h; exact h.1
  have hms : membersB c.length ms = true := by
    have h := h1; unfold tallyB at h; simp only [Bool.and_eq_true] at h; exact h.2.2
  have H2 := vt_isQuorum ac capc c am cm ms w1 hv hbig HC1.out HM1.out
  rw [show vqB c ms = decide (2 * totalZ c / 3 + 1 ≤ weightZ c ms) by unfold vqB; rw [hms]; rfl] at H2
  have H2 := Lib.hid H2
  clear hv hms
  go_wp2_with fail
  refine H2.out.mono ?_
  rintro e w2 ⟨rfl, rfl⟩
  go_wp2
  go_ret
  exact ⟨ret_bool (by rw [Hres.out, h1]; simp), Hb1.out⟩

end Go.Proofs.Ytgpbogalknmcmab

/- The draws of digests, leaves and texts: what is drawn is short and lies in new memory; each by a walk of its text; condition: at most 2^40 picks. -/
namespace Go.Proofs.Ytgpbogalknmcmab
open Go.RowKit

/-- Numbers between -1 and 991. -/
def Digs (xs : List Int) : Prop := ∀ x ∈ xs, -1 ≤ x ∧ x ≤ 991
theorem digs_app {xs zs : List Int} (h : Digs xs) (k : Digs zs) : Digs (xs ++ zs) := fun x hx => by
  rcases List.mem_append.1 hx with hx | hx
  · exact h x hx
  · exact k x hx
theorem digs_one {z : Int} (h1 : -1 ≤ z) (h2 : z ≤ 991) : Digs [z] := fun x hx => by simp at hx; subst hx; exact ⟨h1, h2⟩
theorem digs_set {xs : List Int} (h : Digs xs) (j : Nat) {z : Int} (h1 : -1 ≤ z) (h2 : z ≤ 991) : Digs (xs.set j z) := fun x hx => by
  rcases List.mem_or_eq_of_mem_set hx with hx | rfl
  · exact h x hx
  · exact ⟨h1, h2⟩
theorem grown_row' {w a b : World} {R : Nat} {row : Option Nat} (h : w.grownBy a (some R)) (k : a.grownBy b row) (hr : ∀ g, row = some g → w.heap.size ≤ g) : w.grownBy b (some R) :=
  ⟨k.os.trans h.os, k.tape.trans h.tape, k.output.trans h.output, Nat.le_trans h.size k.size, fun i hi hne => (k.block i (Nat.lt_of_lt_of_le hi h.size) (fun e => by have := hr i e.symm; omega)).trans (h.block i hi hne)⟩
theorem below_of_row' {w w' : World} {R B : Nat} (h : w.grownBy w' (some R)) (hR : B ≤ R) (hB : B ≤ w.heap.size) : Below B w w' :=
  ⟨h.os, h.tape, h.output, h.size, fun k hk => h.block k (by omega) (fun e => by injection e with e; omega)⟩
theorem dig4_at (k : Nat) (hk : k < 4) : ∃ z : Int, (#[Value.int .i64 (-1), .int .i64 0, .int .i64 990, .int .i64 991] : Array Value)[k]? = some (.int .i64 z) ∧ -1 ≤ z ∧ z ≤ 991 := by
  match k, hk with
  | 0, _ => exact ⟨-1, rfl, by omega, by omega⟩
  | 1, _ => exact ⟨0, rfl, by omega, by omega⟩
  | 2, _ => exact ⟨990, rfl, by omega, by omega⟩
  | 3, _ => exact ⟨991, rfl, by omega, by omega⟩

theorem drawDigest (R p : Nat) (w : World) (hp : p ≤ 1000000) (hr : Rdr w R p) :
    Calls Try.prog 76 #[.pointer (some ⟨R, 0, none⟩)] w fun e w' => ∃ (d : Int) (p' : Nat), e = .returned (.int .i64 d) ∧ -1 ≤ d ∧ d ≤ 991 ∧ Rdr w' R p' ∧ p' ≤ p + 3 ∧ w.grownBy w' (some R) := by
  have Hr := Lib.hid hr; clear hr
  go_enter Try.func76, Try.ntmps76
  go_wp2_with fail
  refine (pick_any R 16 p _ (by omega) Hr.out (by omega)).mono ?_
  rintro e w1 ⟨x, rfl, hx0, hx1, hr1, hg1⟩
  have Hr1 := Lib.hid (hr1.alloc (.cells #[.int .i64 (-1), .int .i64 0, .int .i64 990, .int .i64 991] 3))
  have Hr1' := Lib.hid hr1; clear hr1
  have Hg1 := Lib.hid hg1; clear hg1
  have hRs := Hr1'.out.lt
  by_cases h0 : x = 0
  · subst h0
    go_wp2_with fail
    refine (pick_any R 4 (p + 1) _ (by omega) Hr1.out (by omega)).mono ?_
    rintro e w2 ⟨u, rfl, hu0, hu1, hr2, hg2⟩
    obtain ⟨u, rfl⟩ := Int.eq_ofNat_of_zero_le hu0
    obtain ⟨z, hz, hz1, hz2⟩ := dig4_at u (by omega)
    have hcell := lit_cell hg2 (by simp; omega) hz
    have Hg2 := Lib.hid (grownBy_trans (grownBy_trans Hg1.out (World.grownBy_alloc _ _ _)) hg2)
    have hu4 : u < 4 := by omega
    have Hr2 := Lib.hid hr2
    clear hg2 hz hu0 hu1 hr2
    go_wp2
    go_ret
    exact ⟨z, _, rfl, hz1, hz2, Hr2.out, by omega, Hg2.out⟩
  · have h0' : (x == 0) = false := by rw [beq_eq_false_iff_ne]; exact h0
    go_wp2_with fail
    refine (pick_any R 99 (p + 1) _ (by omega) Hr1'.out (by omega)).mono ?_
    rintro e w2 ⟨u, rfl, hu0, hu1, hr2, hg2⟩
    have Hr2 := Lib.hid hr2
    have Hg2 := Lib.hid (grownBy_trans Hg1.out hg2)
    clear hr2 hg2
    go_wp2_with fail
    refine (pick_any R 10 (p + 2) _ (by omega) Hr2.out (by omega)).mono ?_
    rintro e w3 ⟨y, rfl, hy0, hy1, hr3, hg3⟩
    have Hr3 := Lib.hid hr3
    have Hg3 := Lib.hid (grownBy_trans Hg2.out hg3)
    clear hr3 hg3
    go_wp2
    go_ret
    exact ⟨_, _, rfl, by omega, by omega, Hr3.out, by omega, Hg3.out⟩

end Go.Proofs.Ytgpbogalknmcmab

/- The draws of votes and tallies: what is drawn is small and lies in new memory; each by a walk of its text; condition: at most 2^20 picks. -/
namespace Go.Proofs.Ytgpbogalknmcmab
open Go.RowKit

/-- A vote of small numbers. -/
def VtS (v : Vt) : Prop := (-1 ≤ v.r ∧ v.r ≤ 31) ∧ (-1 ≤ v.a ∧ v.a ≤ 7) ∧ (-1 ≤ v.d ∧ v.d ≤ 994)
theorem rnd3_at (k : Nat) (hk : k < 3) : ∃ z : Int, (#[Value.int .i64 (-1), .int .i64 30, .int .i64 31] : Array Value)[k]? = some (.int .i64 z) ∧ -1 ≤ z ∧ z ≤ 31 := by
  match k, hk with
  | 0, _ => exact ⟨-1, rfl, by omega, by omega⟩
  | 1, _ => exact ⟨30, rfl, by omega, by omega⟩
  | 2, _ => exact ⟨31, rfl, by omega, by omega⟩
theorem grown_set {w a : World} {R B : Nat} (h : w.grownBy a (some R)) (hB : w.heap.size ≤ B) (j : Nat) (v : Value) : w.grownBy (a.setCell ⟨B, j, none⟩ v) (some R) := grown_row h (grownBy_set a B j v) (fun g e => by cases e; exact hB)

set_option maxHeartbeats 2000000 in
theorem drawVote (R p : Nat) (w : World) (hp : p ≤ 900000) (hr : Rdr w R p) (hR : R < w.heap.size) :
    Calls Try.prog 59 #[.pointer (some ⟨R, 0, none⟩)] w fun e w' => ∃ (v : Vt) (p' : Nat), e = .returned (.agg #[.int .i64 v.r, .int .i64 v.a, .int .i64 v.d]) ∧ VtS v ∧ v.d ≤ 991 ∧ Rdr w' R p' ∧ p' ≤ p + 8 ∧ w.grownBy w' (some R) := by
  have Hr0 := Lib.hid (hr.alloc (.cells #[.int .i64 0, .int .i64 0, .int .i64 0] 25)); clear hr
  have SA := Lib.hid (Str.new w 25 #[.int .i64 0, .int .i64 0, .int .i64 0])
  have Hg0 := Lib.hid (World.grownBy_alloc w (.cells #[.int .i64 0, .int .i64 0, .int .i64 0] 25) (some R))
  have hz0 : (w.alloc (.cells #[.int .i64 0, .int .i64 0, .int .i64 0] 25)).heap.size = w.heap.size + 1 := by simp
  go_enter Try.func59, Try.ntmps59
  have Hr := Hr0; clear Hr0
  have Hg := Hg0; clear Hg0
  go_wp2_with fail
  generalize w.alloc (.cells #[.int .i64 0, .int .i64 0, .int .i64 0] 25) = W0 at *
  refine (pick_any R 6 (p) _ (by omega) Hr.out (by omega)).mono ?_
  rintro e w1 ⟨x, rfl, hx0, hx1, hr', hg'⟩
  have hsz' := hg'.size
  have Hr := Lib.hid hr'
  have Hg := Lib.hid (grownBy_trans Hg.out hg')
  have SA := Lib.hid (show Str w1 w.heap.size 25 #[.int .i64 0, .int .i64 0, .int .i64 0] from SA.out.kept hg' (by simp; omega))
  clear hr' hg'
  go_wp2_with fail
  refine (pick_any R 4 (p + 1) _ (by omega) Hr.out (by omega)).mono ?_
  rintro e w2 ⟨y, rfl, hy0, hy1, hr', hg'⟩
  have hsz' := hg'.size
  have Hr := Lib.hid hr'
  have Hg := Lib.hid (grownBy_trans Hg.out hg')
  have SA := Lib.hid (show Str w2 w.heap.size 25 #[.int .i64 0, .int .i64 0, .int .i64 0] from SA.out.kept hg' (by simp; omega))
  clear hr' hg'
  go_wp2_with fail
  refine (pick_any R 3 (p + 1 + 1) _ (by omega) Hr.out (by omega)).mono ?_
  rintro e w3 ⟨z, rfl, hz0, hz1, hr', hg'⟩
  have hsz' := hg'.size
  have Hr := Lib.hid hr'
  have Hg := Lib.hid (grownBy_trans Hg.out hg')
  have SA := Lib.hid (show Str w3 w.heap.size 25 #[.int .i64 0, .int .i64 0, .int .i64 0] from SA.out.kept hg' (by simp; omega))
  clear hr' hg'
  have hw3 : w.heap.size + 1 ≤ w3.heap.size := by omega
  have Hr := Lib.hid (Hr.out.alloc (.cells #[.int .i64 x, .int .i64 y, .int .i64 (1 + z)] 25))
  have SC := Lib.hid (Str.new w3 25 #[.int .i64 x, .int .i64 y, .int .i64 (1 + z)])
  have SA := Lib.hid (show Str (w3.alloc (.cells #[.int .i64 x, .int .i64 y, .int .i64 (1 + z)] 25)) w.heap.size 25 #[.int .i64 0, .int .i64 0, .int .i64 0] from SA.out.alloc _)
  have Hg := Lib.hid (grownBy_trans Hg.out (World.grownBy_alloc w3 (.cells #[.int .i64 x, .int .i64 y, .int .i64 (1 + z)] 25) (some R)))
  have hz3 : (w3.alloc (.cells #[.int .i64 x, .int .i64 y, .int .i64 (1 + z)] 25)).heap.size = w3.heap.size + 1 := by simp
  have hRC : R < w3.heap.size := by omega
  go_wp2_with fail
  generalize w3.alloc (.cells #[.int .i64 x, .int .i64 y, .int .i64 (1 + z)] 25) = W3 at *
  refine (pick_any R 24 (p + 1 + 1 + 1) _ (by omega) Hr.out (by omega)).mono ?_
  rintro e w4 ⟨q, rfl, hq0, hq1, hr', hg'⟩
  have hsz' := hg'.size
  have Hr := Lib.hid hr'
  have Hg := Lib.hid (grownBy_trans Hg.out hg')
  have SA := Lib.hid (show Str w4 w.heap.size 25 #[.int .i64 0, .int .i64 0, .int .i64 0] from SA.out.kept hg' (by simp; omega))
  have SC := Lib.hid (show Str w4 w3.heap.size 25 #[.int .i64 x, .int .i64 y, .int .i64 (1 + z)] from SC.out.kept hg' (by simp; omega))
  clear hr' hg'
  by_cases h0 : q = 0
  case pos =>
    subst h0
    have Hr := Lib.hid (Hr.out.alloc (.cells #[.int .i64 (-1), .int .i64 30, .int .i64 31] 3))
    have SA := Lib.hid (show Str (w4.alloc (.cells #[.int .i64 (-1), .int .i64 30, .int .i64 31] 3)) w.heap.size 25 #[.int .i64 0, .int .i64 0, .int .i64 0] from SA.out.alloc _)
    have SC := Lib.hid (show Str (w4.alloc (.cells #[.int .i64 (-1), .int .i64 30, .int .i64 31] 3)) w3.heap.size 25 #[.int .i64 x, .int .i64 y, .int .i64 (1 + z)] from SC.out.alloc _)
    have Hg := Lib.hid (grownBy_trans Hg.out (World.grownBy_alloc w4 (.cells #[.int .i64 (-1), .int .i64 30, .int .i64 31] 3) (some R)))
    go_wp2_with fail
    refine (pick_any R 3 (p + 1 + 1 + 1 + 1) _ (by omega) Hr.out (by omega)).mono ?_
    rintro e w5 ⟨u, rfl, hu0, hu1, hr', hg'⟩
    have hsz5 := hg'.size
    simp only [World.size_alloc] at hsz5
    obtain ⟨u, rfl⟩ := Int.eq_ofNat_of_zero_le hu0
    obtain ⟨t, ht, ht1, ht2⟩ := rnd3_at u (by omega)
    have hcell := lit_cell hg' (by simp; omega) ht
    have hu4 : u < 3 := by omega
    have Hr := Lib.hid hr'
    have Hg := Lib.hid (grownBy_trans Hg.out hg')
    have SA := Lib.hid (show Str w5 w.heap.size 25 #[.int .i64 0, .int .i64 0, .int .i64 0] from SA.out.kept hg' (by simp; omega))
    have SC := Lib.hid (show Str w5 w3.heap.size 25 #[.int .i64 x, .int .i64 y, .int .i64 (1 + z)] from SC.out.kept hg' (by simp; omega))
    clear hr' hg' ht hu0 hu1
    have fc := SC.out.frozen 0
    have cc := SC.out.cell 0 (v := .int .i64 (x)) rfl
    have SC := Lib.hid (show Str (w5.setCell ⟨w3.heap.size, 0, none⟩ (.int .i64 (t))) w3.heap.size 25 #[.int .i64 (t), .int .i64 (y), .int .i64 (1 + z)] from SC.out.set 0 _)
    have SA := Lib.hid (show Str (w5.setCell ⟨w3.heap.size, 0, none⟩ (.int .i64 (t))) w.heap.size 25 #[.int .i64 0, .int .i64 0, .int .i64 0] from SA.out.other (by omega) _ _)
    have Hr := Lib.hid (Hr.out.kept (grownBy_set w5 w3.heap.size 0 (.int .i64 (t))) (fun g e => by cases e; omega))
    have Hg := Lib.hid (grown_set Hg.out (B := w3.heap.size) (by omega) 0 (.int .i64 (t)))
    skip
    have a0 := SA.out.cell 0 (v := .int .i64 0) rfl
    have a1 := SA.out.cell 1 (v := .int .i64 0) rfl
    have a2 := SA.out.cell 2 (v := .int .i64 0) rfl
    have f0 := SA.out.frozen 0
    have f1 := SA.out.frozen 1
    have f2 := SA.out.frozen 2
    have c0 := SC.out.cell 0 (v := .int .i64 (t)) rfl
    have c1 := SC.out.cell 1 (v := .int .i64 (y)) rfl
    have c2 := SC.out.cell 2 (v := .int .i64 (1 + z)) rfl
    have sF := ((SA.out.set 0 (.int .i64 (t))).set 1 (.int .i64 (y))).set 2 (.int .i64 (1 + z))
    have e0 := sF.cell 0 (v := .int .i64 (t)) rfl
    have e1 := sF.cell 1 (v := .int .i64 (y)) rfl
    have e2 := sF.cell 2 (v := .int .i64 (1 + z)) rfl
    clear sF
    go_wp2
    refine bodyPost_ret (v := .agg #[.int .i64 (t), .int .i64 (y), .int .i64 (1 + z)]) (by simp [results, Try.f59, go_sem, e0, e1, e2]) rfl ?_
    exact ⟨⟨t, y, 1 + z⟩, _, rfl, ⟨by simp only; omega, by simp only; omega, by simp only; omega⟩, by simp only; omega, ((Hr.out.kept (grownBy_set _ w.heap.size 0 _) (fun g e => by cases e; omega)).kept (grownBy_set _ w.heap.size 1 _) (fun g e => by cases e; omega)).kept (grownBy_set _ w.heap.size 2 _) (fun g e => by cases e; omega), by omega, grown_set (grown_set (grown_set Hg.out (Nat.le_refl _) _ _) (Nat.le_refl _) _ _) (Nat.le_refl _) _ _⟩
  have h0' : (q == 0) = false := by rw [beq_eq_false_iff_ne]; exact h0
  by_cases h1 : q = 1
  case pos =>
    subst h1
    go_wp2_with fail
    refine (pick_any R 9 (p + 1 + 1 + 1 + 1) _ (by omega) Hr.out (by omega)).mono ?_
    rintro e w5 ⟨u, rfl, hu0, hu1, hr', hg'⟩
    have hsz' := hg'.size
    have Hr := Lib.hid hr'
    have Hg := Lib.hid (grownBy_trans Hg.out hg')
    have SA := Lib.hid (show Str w5 w.heap.size 25 #[.int .i64 0, .int .i64 0, .int .i64 0] from SA.out.kept hg' (by simp; omega))
    have SC := Lib.hid (show Str w5 w3.heap.size 25 #[.int .i64 x, .int .i64 y, .int .i64 (1 + z)] from SC.out.kept hg' (by simp; omega))
    clear hr' hg'
    have fc := SC.out.frozen 1
    have cc := SC.out.cell 1 (v := .int .i64 (y)) rfl
    have SC := Lib.hid (show Str (w5.setCell ⟨w3.heap.size, 1, none⟩ (.int .i64 (u - 1))) w3.heap.size 25 #[.int .i64 (x), .int .i64 (u - 1), .int .i64 (1 + z)] from SC.out.set 1 _)
    have SA := Lib.hid (show Str (w5.setCell ⟨w3.heap.size, 1, none⟩ (.int .i64 (u - 1))) w.heap.size 25 #[.int .i64 0, .int .i64 0, .int .i64 0] from SA.out.other (by omega) _ _)
    have Hr := Lib.hid (Hr.out.kept (grownBy_set w5 w3.heap.size 1 (.int .i64 (u - 1))) (fun g e => by cases e; omega))
    have Hg := Lib.hid (grown_set Hg.out (B := w3.heap.size) (by omega) 1 (.int .i64 (u - 1)))
    have a0 := SA.out.cell 0 (v := .int .i64 0) rfl
    have a1 := SA.out.cell 1 (v := .int .i64 0) rfl
    have a2 := SA.out.cell 2 (v := .int .i64 0) rfl
    have f0 := SA.out.frozen 0
    have f1 := SA.out.frozen 1
    have f2 := SA.out.frozen 2
    have c0 := SC.out.cell 0 (v := .int .i64 (x)) rfl
    have c1 := SC.out.cell 1 (v := .int .i64 (u - 1)) rfl
    have c2 := SC.out.cell 2 (v := .int .i64 (1 + z)) rfl
    have sF := ((SA.out.set 0 (.int .i64 (x))).set 1 (.int .i64 (u - 1))).set 2 (.int .i64 (1 + z))
    have e0 := sF.cell 0 (v := .int .i64 (x)) rfl
    have e1 := sF.cell 1 (v := .int .i64 (u - 1)) rfl
    have e2 := sF.cell 2 (v := .int .i64 (1 + z)) rfl
    clear sF
    go_wp2
    refine bodyPost_ret (v := .agg #[.int .i64 (x), .int .i64 (u - 1), .int .i64 (1 + z)]) (by simp [results, Try.f59, go_sem, e0, e1, e2]) rfl ?_
    exact ⟨⟨x, u - 1, 1 + z⟩, _, rfl, ⟨by simp only; omega, by simp only; omega, by simp only; omega⟩, by simp only; omega, ((Hr.out.kept (grownBy_set _ w.heap.size 0 _) (fun g e => by cases e; omega)).kept (grownBy_set _ w.heap.size 1 _) (fun g e => by cases e; omega)).kept (grownBy_set _ w.heap.size 2 _) (fun g e => by cases e; omega), by omega, grown_set (grown_set (grown_set Hg.out (Nat.le_refl _) _ _) (Nat.le_refl _) _ _) (Nat.le_refl _) _ _⟩
  have h1' : (q == 1) = false := by rw [beq_eq_false_iff_ne]; exact h1
  by_cases h2 : q = 2
  case pos =>
    subst h2
    go_wp2_with fail
    refine (drawDigest R (p + 1 + 1 + 1 + 1) _ (by omega) Hr.out).mono ?_
    rintro e w5 ⟨d, p', rfl, hd0, hd1, hr', hp', hg'⟩
    have hsz5 := hg'.size
    have Hr := Lib.hid hr'
    have Hg := Lib.hid (grownBy_trans Hg.out hg')
    have SA := Lib.hid (show Str w5 w.heap.size 25 #[.int .i64 0, .int .i64 0, .int .i64 0] from SA.out.kept hg' (by simp; omega))
    have SC := Lib.hid (show Str w5 w3.heap.size 25 #[.int .i64 x, .int .i64 y, .int .i64 (1 + z)] from SC.out.kept hg' (by simp; omega))
    clear hr' hg'
    have fc := SC.out.frozen 2
    have cc := SC.out.cell 2 (v := .int .i64 (1 + z)) rfl
    have SC := Lib.hid (show Str (w5.setCell ⟨w3.heap.size, 2, none⟩ (.int .i64 (d))) w3.heap.size 25 #[.int .i64 (x), .int .i64 (y), .int .i64 (d)] from SC.out.set 2 _)
    have SA := Lib.hid (show Str (w5.setCell ⟨w3.heap.size, 2, none⟩ (.int .i64 (d))) w.heap.size 25 #[.int .i64 0, .int .i64 0, .int .i64 0] from SA.out.other (by omega) _ _)
    have Hr := Lib.hid (Hr.out.kept (grownBy_set w5 w3.heap.size 2 (.int .i64 (d))) (fun g e => by cases e; omega))
    have Hg := Lib.hid (grown_set Hg.out (B := w3.heap.size) (by omega) 2 (.int .i64 (d)))
    have a0 := SA.out.cell 0 (v := .int .i64 0) rfl
    have a1 := SA.out.cell 1 (v := .int .i64 0) rfl
    have a2 := SA.out.cell 2 (v := .int .i64 0) rfl
    have f0 := SA.out.frozen 0
    have f1 := SA.out.frozen 1
    have f2 := SA.out.frozen 2
    have c0 := SC.out.cell 0 (v := .int .i64 (x)) rfl
    have c1 := SC.out.cell 1 (v := .int .i64 (y)) rfl
    have c2 := SC.out.cell 2 (v := .int .i64 (d)) rfl
    have sF := ((SA.out.set 0 (.int .i64 (x))).set 1 (.int .i64 (y))).set 2 (.int .i64 (d))
    have e0 := sF.cell 0 (v := .int .i64 (x)) rfl
    have e1 := sF.cell 1 (v := .int .i64 (y)) rfl
    have e2 := sF.cell 2 (v := .int .i64 (d)) rfl
    clear sF
    go_wp2
    refine bodyPost_ret (v := .agg #[.int .i64 (x), .int .i64 (y), .int .i64 (d)]) (by simp [results, Try.f59, go_sem, e0, e1, e2]) rfl ?_
    exact ⟨⟨x, y, d⟩, _, rfl, ⟨by simp only; omega, by simp only; omega, by simp only; omega⟩, by simp only; omega, ((Hr.out.kept (grownBy_set _ w.heap.size 0 _) (fun g e => by cases e; omega)).kept (grownBy_set _ w.heap.size 1 _) (fun g e => by cases e; omega)).kept (grownBy_set _ w.heap.size 2 _) (fun g e => by cases e; omega), by omega, grown_set (grown_set (grown_set Hg.out (Nat.le_refl _) _ _) (Nat.le_refl _) _ _) (Nat.le_refl _) _ _⟩
  have h2' : (q == 2) = false := by rw [beq_eq_false_iff_ne]; exact h2
  have a0 := SA.out.cell 0 (v := .int .i64 0) rfl
  have a1 := SA.out.cell 1 (v := .int .i64 0) rfl
  have a2 := SA.out.cell 2 (v := .int .i64 0) rfl
  have f0 := SA.out.frozen 0
  have f1 := SA.out.frozen 1
  have f2 := SA.out.frozen 2
  have c0 := SC.out.cell 0 (v := .int .i64 (x)) rfl
  have c1 := SC.out.cell 1 (v := .int .i64 (y)) rfl
  have c2 := SC.out.cell 2 (v := .int .i64 (1 + z)) rfl
  have sF := ((SA.out.set 0 (.int .i64 (x))).set 1 (.int .i64 (y))).set 2 (.int .i64 (1 + z))
  have e0 := sF.cell 0 (v := .int .i64 (x)) rfl
  have e1 := sF.cell 1 (v := .int .i64 (y)) rfl
  have e2 := sF.cell 2 (v := .int .i64 (1 + z)) rfl
  clear sF
  go_wp2
  refine bodyPost_ret (v := .agg #[.int .i64 (x), .int .i64 (y), .int .i64 (1 + z)]) (by simp [results, Try.f59, go_sem, e0, e1, e2]) rfl ?_
  exact ⟨⟨x, y, 1 + z⟩, _, rfl, ⟨by simp only; omega, by simp only; omega, by simp only; omega⟩, by simp only; omega, ((Hr.out.kept (grownBy_set _ w.heap.size 0 _) (fun g e => by cases e; omega)).kept (grownBy_set _ w.heap.size 1 _) (fun g e => by cases e; omega)).kept (grownBy_set _ w.heap.size 2 _) (fun g e => by cases e; omega), by omega, grown_set (grown_set (grown_set Hg.out (Nat.le_refl _) _ _) (Nat.le_refl _) _ _) (Nat.le_refl _) _ _⟩

end Go.Proofs.Ytgpbogalknmcmab
