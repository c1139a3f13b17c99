/- Arguments that came in, read as data: numbers, truth values, texts, slices of these and of structs of these; general steps, nothing here speaks of the program. -/
import Derived.Test.YtkndndcjchlpdaaLift
import Derived.Test.YtkndndcjchlpdaaDt
import Derived.Deep.Slices
import Derived.ChangeArms
import Derived.ChangeSame
namespace Go.Proofs.Ytkndndcjchlpdaa
open Go.ChangeShapes Go.WideShapes Go.ChangeAt Go.RowKit

section
variable {H : Type} {enc : TypeId × Value → H} {P : Program} {W : World}

/-- A one-cell value of type t that came in reads as a datum with G. -/
def Opens (H : Type) (enc : TypeId × Value → H) (P : Program) (W : World) (t : TypeId) (G : Dt → Prop) : Prop :=
  P.cellsOf t = 1 ∧ ∀ fuel c x, DataW.trod enc P W 0 (fun _ => true) true fuel t [c] = some x → ∃ d fp, Rd W d c fp ∧ G d
def IntG (d : Dt) : Prop := ∃ n, d = .i n ∧ (-9223372036854775808 ≤ n ∧ n ≤ 9223372036854775807)
def BoolG (d : Dt) : Prop := ∃ x, d = .b x
def StrG (d : Dt) : Prop := ∃ s : ByteArray, d = .s s ∧ s.size ≤ maxLen
/-- A list whose elements are rows of these. -/
def RowsG (Gs : List (Dt → Prop)) (d : Dt) : Prop := ∃ es : List (List Dt), d = .l es ∧ es.length ≤ maxLen ∧ ∀ e ∈ es, e.length = Gs.length ∧ ∀ j (h : j < e.length) (h' : j < Gs.length), Gs[j] e[j]
theorem opens_int {t : TypeId} (ht : P.underlying t = some (.int .i64)) (hc : P.cellsOf t = 1) : Opens H enc P W t IntG := ⟨hc, fun fuel c x h => by
  obtain ⟨n, e, _, hw⟩ := DataW.trod_int ht h
  obtain rfl : c = .int .i64 n := by simpa using e
  exact ⟨.i n, [], .i n, n, rfl, wf_i64 hw⟩⟩
theorem opens_bool {t : TypeId} (ht : P.underlying t = some .bool) (hc : P.cellsOf t = 1) : Opens H enc P W t BoolG := ⟨hc, fun fuel c x h => by
  obtain ⟨n, e, _⟩ := DataW.trod_bool ht h
  obtain rfl : c = .bool n := by simpa using e
  exact ⟨.b n, [], .b n, n, rfl⟩⟩
theorem opens_str {t : TypeId} (ht : P.underlying t = some .string) (hc : P.cellsOf t = 1) : Opens H enc P W t StrG := ⟨hc, fun fuel c x h => by
  obtain ⟨n, e, _, hs⟩ := DataW.trod_string ht h
  obtain rfl : c = .string n := by simpa using e
  exact ⟨.s n, [], .s n, n, rfl, hs⟩⟩
theorem mapM_some {α β : Type} {f : α → Option β} : ∀ {l : List α} {r : List β}, l.mapM f = some r → r.length = l.length ∧ ∀ i (h : i < l.length) (h' : i < r.length), f l[i] = some r[i]
  | [], r, h => by
    have : r = [] := by simpa using h.symm
    subst this
    exact ⟨rfl, fun i h => by simp at h⟩
  | x :: l, r, h => by
    rw [List.mapM_cons] at h
    simp only [Option.bind_eq_bind, Option.bind_eq_some_iff, Option.pure_def, Option.some.injEq] at h
    obtain ⟨y, hy, ys, hys, rfl⟩ := h
    obtain ⟨h1, h2⟩ := mapM_some hys
    refine ⟨by simp [h1], fun i hi hi' => ?_⟩
    cases i with
    | zero => simpa using hy
    | succ i => simpa using h2 i (by simpa using hi) (by simpa using hi')
/-- A slice's elements, whatever reads each of them. -/
theorem opens_slice_by {T e : TypeId} {sz : Nat} {Gs : List (Dt → Prop)} (hT : P.underlying T = some (.slice e)) (hc : P.cellsOf T = 1) (hsz : P.cellsOf e = sz) (hpos : 0 < sz) (hg : Gs.length = sz)
    (hE : ∀ fuel cs x, cs.length = sz → DataW.trod enc P W 0 (fun _ => true) true fuel e cs = some x → ∀ j (h : j < cs.length) (h' : j < Gs.length), ∃ d fp, Rd W d cs[j] fp ∧ Gs[j] d) : Opens H enc P W T (RowsG Gs) := by
  refine ⟨hc, fun fuel c x h => ?_⟩
  rcases Go.Deep.open_slice hT h with ⟨e1, _⟩ | ⟨a, len, cap, m, n, D, Pl, e1, _, hlc, hcm, hm, _, hel⟩
  · obtain rfl : c = .slice none 0 0 := by simpa using e1
    exact ⟨.l [], [], .nil _ _ (fun _ => rfl), [], rfl, by simp, by simp⟩
  · obtain rfl : c = .slice (some a) len cap := by simpa using e1
    rw [if_pos rfl] at hm
    have hm' := hm.symm
    subst hm'
    rcases Nat.eq_zero_or_pos len with h0 | h0
    · subst h0; exact ⟨.l [], [], .nil _ _ (fun e => by cases e), [], rfl, by simp, by simp⟩
    · have hrow : ∀ i, i < len → ∃ cs : List Value, cs.length = sz ∧ (∀ j (h : j < cs.length), W.cell? ((a.add (i * sz)).add j) = some cs[j]) ∧ ∀ j (h : j < cs.length) (h' : j < Gs.length), ∃ d fp, Rd W d cs[j] fp ∧ Gs[j] d := by
        intro i hi
        obtain ⟨cs, h1, h2⟩ := hel i (by omega)
        rw [hsz] at h1
        unfold World.cells? at h1
        rw [if_pos (Nat.zero_le _)] at h1
        obtain ⟨hl, hcell⟩ := mapM_some h1
        rw [List.length_range] at hl
        exact ⟨cs, hl, fun j hj => by have := hcell j (by rw [List.length_range]; omega) hj; rwa [List.getElem_range] at this, hE n cs _ hl h2⟩
      obtain ⟨cs0, hl0, hc0, _⟩ := hrow 0 h0
      obtain ⟨b, off, spot⟩ := a
      have hspot : spot = none := by
        have := hc0 0 (by omega)
        simpa [Addr.add] using World.cell?_spot this
      subst hspot
      have hblt : b < W.heap.size := by
        have := hc0 0 (by omega)
        rw [show ((⟨b, off, none⟩ : Addr).add (0 * sz)).add 0 = ⟨b, off, none⟩ by simp [Addr.add]] at this
        exact World.block_lt_of_cell? W _ this
      have hex : ∀ k j, ∃ p : Value × Dt × List Nat, ∀ (_ : k < len) (_ : j < sz), W.cell? ⟨b, off + (k * sz + j), none⟩ = some p.1 ∧ Rd W p.2.1 p.1 p.2.2 ∧ ∀ (h' : j < Gs.length), Gs[j] p.2.1 := by
        intro k j
        by_cases hk : k < len
        · by_cases hj : j < sz
          · obtain ⟨cs, hl, hcc, hr⟩ := hrow k hk
            obtain ⟨d, fp, h1, h2⟩ := hr j (by omega) (by omega)
            refine ⟨(cs[j]'(by omega), d, fp), fun _ _ => ⟨?_, h1, fun _ => h2⟩⟩
            have := hcc j (by omega)
            rwa [addr_add', addr_add', Nat.add_assoc] at this
          · exact ⟨(undef, .i 0, []), fun _ h => absurd h hj⟩
        · exact ⟨(undef, .i 0, []), fun h => absurd h hk⟩
      obtain ⟨F, hF⟩ : ∃ F : Nat → Nat → Value × Dt × List Nat, ∀ k j (_ : k < len) (_ : j < sz), W.cell? ⟨b, off + (k * sz + j), none⟩ = some (F k j).1 ∧ Rd W (F k j).2.1 (F k j).1 (F k j).2.2 ∧ ∀ (h' : j < Gs.length), Gs[j] (F k j).2.1 :=
        ⟨fun k j => Classical.choose (hex k j), fun k j => Classical.choose_spec (hex k j)⟩
      obtain ⟨es, hes⟩ : ∃ es : List (List Dt), es = (List.range len).map fun k => (List.range sz).map fun j => (F k j).2.1 := ⟨_, rfl⟩
      have hel' : es.length = len := by rw [hes]; simp
      have hget : ∀ k j (hk : k < es.length) (hj : j < (es[k]).length), (es[k])[j] = (F k j).2.1 := fun k j hk hj => by subst hes; simp
      have hrl : ∀ e ∈ es, e.length = sz := by intro e he; rw [hes] at he; obtain ⟨k, _, rfl⟩ := List.mem_map.1 he; simp
      have hrd := Rd.l (w := W) sz es b off cap (fun k j => (F k j).1) (fun k j => (F k j).2.2) (by omega) hrl (by omega) hblt (fun k j hk hj => (hF k j (by omega) hj).1)
        (fun k j hk hj => by rw [hget k j hk hj]; exact (hF k j (by omega) (by rw [← hrl _ (List.getElem_mem hk)]; exact hj)).2.1)
      rw [hel'] at hrd
      refine ⟨.l es, _, hrd, es, rfl, by omega, fun e he => ⟨by rw [hrl e he, hg], fun j hj hj' => ?_⟩⟩
      obtain ⟨k, hk, rfl⟩ := List.mem_iff_getElem.1 he
      rw [hget k j hk hj]
      exact (hF k j (by omega) (by omega)).2.2 hj'
/-- A slice of one-cell elements. -/
theorem opens_slice {T e : TypeId} {G : Dt → Prop} (hT : P.underlying T = some (.slice e)) (hc : P.cellsOf T = 1) (hE : Opens H enc P W e G) : Opens H enc P W T (RowsG [G]) :=
  opens_slice_by (sz := 1) hT hc hE.1 (by omega) rfl fun fuel cs x hl h j hj hj' => by
    have : j = 0 := by omega
    subst this
    match cs, hl with
    | [c], _ => exact hE.2 fuel c x h
/-- The fields of a struct, each in one cell. -/
theorem fields_open {t : TypeId} {fs : Array Field} {Gs : List (Dt → Prop)} (ht : P.underlying t = some (.struct fs)) (_hg : Gs.length = fs.size) (hf : ∀ j (h : j < fs.size) (h' : j < Gs.length), (fs[j]).offset = j ∧ Opens H enc P W (fs[j]).type Gs[j])
    (fuel : Nat) (cs : List Value) (x : DataW H × List MemPlace) (hl : cs.length = fs.size) (h : DataW.trod enc P W 0 (fun _ => true) true fuel t cs = some x) : ∀ j (h : j < cs.length) (h' : j < Gs.length), ∃ d fp, Rd W d cs[j] fp ∧ Gs[j] d := by
  obtain ⟨xs, n, _, rfl, hl', hlen, hff⟩ := DataW.trod_struct ht h
  intro j hj hj'
  have hjf : j < fs.size := by omega
  obtain ⟨ho, hO⟩ := hf j hjf hj'
  have := hff j (fs[j]) (by simp [hjf])
  rw [ho, hO.1] at this
  have hd : (cs.drop j).take 1 = [cs[j]] := by
    rw [List.drop_eq_getElem_cons hj]; rfl
  rw [hd, List.getElem?_eq_getElem (show j < xs.length by omega)] at this
  exact hO.2 n _ _ this
/-- A slice of structs. -/
theorem opens_slice_struct {T e : TypeId} {fs : Array Field} {Gs : List (Dt → Prop)} (hT : P.underlying T = some (.slice e)) (hc : P.cellsOf T = 1) (he : P.underlying e = some (.struct fs)) (hsz : P.cellsOf e = fs.size) (hpos : 0 < fs.size) (hg : Gs.length = fs.size)
    (hf : ∀ j (h : j < fs.size) (h' : j < Gs.length), (fs[j]).offset = j ∧ Opens H enc P W (fs[j]).type Gs[j]) : Opens H enc P W T (RowsG Gs) :=
  opens_slice_by hT hc hsz hpos hg fun fuel cs x hl h => fields_open he hg hf fuel cs x hl h
/-- A struct by value. -/
theorem open_struct {t : TypeId} {fs : Array Field} {Gs : List (Dt → Prop)} {base : Nat} {v : Value} {d : DataW H} {p : List MemPlace} (ht : P.underlying t = some (.struct fs)) (hsz : P.cellsOf t = fs.size) (hg : Gs.length = fs.size) (hf : ∀ j (h : j < fs.size) (h' : j < Gs.length), (fs[j]).offset = j ∧ Opens H enc P W (fs[j]).type Gs[j])
    (hv : Value.okWide P W .any base t v) (h : DataW.Trod enc P W 0 (fun _ => true) true t v d p) : ∃ cs : List Value, v = .agg cs.toArray ∧ cs.length = fs.size ∧ ∀ j (h : j < cs.length) (h' : j < Gs.length), ∃ d fp, Rd W d cs[j] fp ∧ Gs[j] d := by
  unfold Value.okWide at hv
  rw [ht] at hv
  obtain ⟨cs, rfl, hs, _⟩ := hv
  obtain ⟨fuel, hf'⟩ := h
  refine ⟨cs.toList, by simp, by rw [Array.length_toList, hs, hsz], ?_⟩
  exact fields_open ht hg hf fuel cs.toList _ (by rw [Array.length_toList, hs, hsz]) hf'
/-- A one-cell value. -/
theorem open_cell {t : TypeId} {G : Dt → Prop} {v : Value} {d : DataW H} {p : List MemPlace} (hO : Opens H enc P W t G) (hna : v.cells = #[v]) (h : DataW.Trod enc P W 0 (fun _ => true) true t v d p) : ∃ d fp, Rd W d v fp ∧ G d := by
  obtain ⟨fuel, hf⟩ := h
  rw [hna] at hf
  exact hO.2 fuel v _ hf
end
/-- A list of numbers. -/
theorem ints_of {d : Dt} (h : RowsG [IntG] d) : ∃ xs, d = intsD xs ∧ xs.length ≤ maxLen ∧ ∀ x ∈ xs, -9223372036854775808 ≤ x ∧ x ≤ 9223372036854775807 := by
  obtain ⟨es, rfl, hl, he⟩ := h
  refine ⟨es.map fun e => match e with | [.i n] => n | _ => 0, ?_, by simpa using hl, ?_⟩
  · unfold intsD
    congr 1
    rw [List.map_map]
    conv => lhs; rw [← List.map_id es]
    refine List.map_congr_left fun e hm => ?_
    obtain ⟨h1, h2⟩ := he e hm
    match e, h1, h2 with
    | [d], _, h2 =>
      obtain ⟨n, hn, _⟩ := h2 0 (by simp) (by simp)
      simp only [List.getElem_cons_zero] at hn
      subst hn; rfl
  · intro x hx
    obtain ⟨e, hm, rfl⟩ := List.mem_map.1 hx
    obtain ⟨h1, h2⟩ := he e hm
    match e, h1, h2 with
    | [d], _, h2 =>
      obtain ⟨n, hn, hr⟩ := h2 0 (by simp) (by simp)
      simp only [List.getElem_cons_zero] at hn
      subst hn; exact hr

end Go.Proofs.Ytkndndcjchlpdaa
