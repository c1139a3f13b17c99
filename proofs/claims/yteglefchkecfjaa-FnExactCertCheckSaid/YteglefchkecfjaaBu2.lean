/- Texts that the laws of this folder share, one behind another; no conditions. -/
import Derived.Test.YteglefchkecfjaaBu0
import Derived.Deep.Slices
import Derived.ChangeArms
import Derived.ChangeSame
import Derived.Test.YteglefchkecfjaaBu1

/- Arguments that came in, read as data: numbers, truth values, texts, slices of these and of structs of these; general steps, nothing here speaks of the program. -/
namespace Go.Proofs.Yteglefchkecfjaa
open Go.ChangeShapes Go.WideShapes Go.ChangeAt Go.RowKit

section
variable {H : Type} {enc : TypeId × Value → H} {P : Program} {W : World}

/-- A one-cell value of type t that came in reads as a datum with G. -/
def Opens (H : Type) (enc : TypeId × Value → H) (P : Program) (W : World) (t : TypeId) (G : Dt → Prop) : Prop :=
  P.cellsOf t = 1 ∧ ∀ fuel c x, DataW.trod enc P W 0 (fun _ => true) true fuel t [c] = some x → ∃ d fp, Rd W d c fp ∧ G d
def IntG (d : Dt) : Prop := ∃ n, d = .i n ∧ (-9223372036854775808 ≤ n ∧ n ≤ 9223372036854775807)
def BoolG (d : Dt) : Prop := ∃ x, d = .b x
def StrG (d : Dt) : Prop := ∃ s : ByteArray, d = .s s ∧ s.size ≤ maxLen
/-- A list whose elements are rows of these. -/
def RowsG (Gs : List (Dt → Prop)) (d : Dt) : Prop := ∃ es : List (List Dt), d = .l es ∧ es.length ≤ maxLen ∧ ∀ e ∈ es, e.length = Gs.length ∧ ∀ j (h : j < e.length) (h' : j < Gs.length), Gs[j] e[j]
theorem opens_int {t : TypeId} (ht : P.underlying t = some (.int .i64)) (hc : P.cellsOf t = 1) : Opens H enc P W t IntG := ⟨hc, fun fuel c x h => by
  obtain ⟨n, e, _, hw⟩ := DataW.trod_int ht h
  obtain rfl : c = .int .i64 n := by simpa using e
  exact ⟨.i n, [], .i n, n, rfl, wf_i64 hw⟩⟩
theorem opens_bool {t : TypeId} (ht : P.underlying t = some .bool) (hc : P.cellsOf t = 1) : Opens H enc P W t BoolG := ⟨hc, fun fuel c x h => by
  obtain ⟨n, e, _⟩ := DataW.trod_bool ht h
  obtain rfl : c = .bool n := by simpa using e
  exact ⟨.b n, [], .b n, n, rfl⟩⟩
theorem opens_str {t : TypeId} (ht : P.underlying t = some .string) (hc : P.cellsOf t = 1) : Opens H enc P W t StrG := ⟨hc, fun fuel c x h => by
  obtain ⟨n, e, _, hs⟩ := DataW.trod_string ht h
  obtain rfl : c = .string n := by simpa using e
  exact ⟨.s n, [], .s n, n, rfl, hs⟩⟩
theorem mapM_some {α β : Type} {f : α → Option β} : ∀ {l : List α} {r : List β}, l.mapM f = some r → r.length = l.length ∧ ∀ i (h : i < l.length) (h' : i < r.length), f l[i] = some r[i]
  | [], r, h => by
    have : r = [] := by simpa using h.symm
    subst this
    exact ⟨rfl, fun i h => by simp at h⟩
  | x :: l, r, h => by
    rw [List.mapM_cons] at h
    simp only [Option.bind_eq_bind, Option.bind_eq_some_iff, Option.pure_def, Option.some.injEq] at h
    obtain ⟨y, hy, ys, hys, rfl⟩ := h
    obtain ⟨h1, h2⟩ := mapM_some hys
    refine ⟨by simp [h1], fun i hi hi' => ?_⟩
    cases i with
    | zero => simpa using hy
    | succ i => simpa using h2 i (by simpa using hi) (by simpa using hi')
/-- A slice's elements, whatever reads each of them. -/
theorem opens_slice_by {T e : TypeId} {sz : Nat} {Gs : List (Dt → Prop)} (hT : P.underlying T = some (.slice e)) (hc : P.cellsOf T = 1) (hsz : P.cellsOf e = sz) (hpos : 0 < sz) (hg : Gs.length = sz)
    (hE : ∀ fuel cs x, cs.length = sz → DataW.trod enc P W 0 (fun _ => true) true fuel e cs = some x → ∀ j (h : j < cs.length) (h' : j < Gs.length), ∃ d fp, Rd W d cs[j] fp ∧ Gs[j] d) : Opens H enc P W T (RowsG Gs) := by
  refine ⟨hc, fun fuel c x h => ?_⟩
  rcases Go.Deep.open_slice hT h with ⟨e1, _⟩ | ⟨a, len, cap, m, n, D, Pl, e1, _, hlc, hcm, hm, _, hel⟩
  · obtain rfl : c = .slice none 0 0 := by simpa using e1
    exact ⟨.l [], [], .nil _ _ (fun _ => rfl), [], rfl, by simp, by simp⟩
  · obtain rfl : c = .slice (some a) len cap := by simpa using e1
    rw [if_pos rfl] at hm
    have hm' := hm.symm
    subst hm'
    rcases Nat.eq_zero_or_pos len with h0 | h0
    · subst h0; exact ⟨.l [], [], .nil _ _ (fun e => by cases e), [], rfl, by simp, by simp⟩
    · have hrow : ∀ i, i < len → ∃ cs : List Value, cs.length = sz ∧ (∀ j (h : j < cs.length), W.cell? ((a.add (i * sz)).add j) = some cs[j]) ∧ ∀ j (h : j < cs.length) (h' : j < Gs.length), ∃ d fp, Rd W d cs[j] fp ∧ Gs[j] d := by
        intro i hi
        obtain ⟨cs, h1, h2⟩ := hel i (by omega)
        rw [hsz] at h1
        unfold World.cells? at h1
        rw [if_pos (Nat.zero_le _)] at h1
        obtain ⟨hl, hcell⟩ := mapM_some h1
        rw [List.length_range] at hl
        exact ⟨cs, hl, fun j hj => by have := hcell j (by rw [List.length_range]; omega) hj; rwa [List.getElem_range] at this, hE n cs _ hl h2⟩
      obtain ⟨cs0, hl0, hc0, _⟩ := hrow 0 h0
      obtain ⟨b, off, spot⟩ := a
      have hspot : spot = none := by
        have := hc0 0 (by omega)
        simpa [Addr.add] using World.cell?_spot this
      subst hspot
      have hblt : b < W.heap.size := by
        have := hc0 0 (by omega)
        rw [show ((⟨b, off, none⟩ : Addr).add (0 * sz)).add 0 = ⟨b, off, none⟩ by simp [Addr.add]] at this
        exact World.block_lt_of_cell? W _ this
      have hex : ∀ k j, ∃ p : Value × Dt × List Nat, ∀ (_ : k < len) (_ : j < sz), W.cell? ⟨b, off + (k * sz + j), none⟩ = some p.1 ∧ Rd W p.2.1 p.1 p.2.2 ∧ ∀ (h' : j < Gs.length), Gs[j] p.2.1 := by
        intro k j
        by_cases hk : k < len
        · by_cases hj : j < sz
          · obtain ⟨cs, hl, hcc, hr⟩ := hrow k hk
            obtain ⟨d, fp, h1, h2⟩ := hr j (by omega) (by omega)
            refine ⟨(cs[j]'(by omega), d, fp), fun _ _ => ⟨?_, h1, fun _ => h2⟩⟩
            have := hcc j (by omega)
            rwa [addr_add', addr_add', Nat.add_assoc] at this
          · exact ⟨(undef, .i 0, []), fun _ h => absurd h hj⟩
        · exact ⟨(undef, .i 0, []), fun h => absurd h hk⟩
      obtain ⟨F, hF⟩ : ∃ F : Nat → Nat → Value × Dt × List Nat, ∀ k j (_ : k < len) (_ : j < sz), W.cell? ⟨b, off + (k * sz + j), none⟩ = some (F k j).1 ∧ Rd W (F k j).2.1 (F k j).1 (F k j).2.2 ∧ ∀ (h' : j < Gs.length), Gs[j] (F k j).2.1 :=
        ⟨fun k j => Classical.choose (hex k j), fun k j => Classical.choose_spec (hex k j)⟩
      obtain ⟨es, hes⟩ : ∃ es : List (List Dt), es = (List.range len).map fun k => (List.range sz).map fun j => (F k j).2.1 := ⟨_, rfl⟩
      have hel' : es.length = len := by rw [hes]; simp
      have hget : ∀ k j (hk : k < es.length) (hj : j < (es[k]).length), (es[k])[j] = (F k j).2.1 := fun k j hk hj => by subst hes; simp
      have hrl : ∀ e ∈ es, e.length = sz := by intro e he; rw [hes] at he; obtain ⟨k, _, rfl⟩ := List.mem_map.1 he; simp
      have hrd := Rd.l (w := W) sz es b off cap (fun k j => (F k j).1) (fun k j => (F k j).2.2) (by omega) hrl (by omega) hblt (fun k j hk hj => (hF k j (by omega) hj).1)
        (fun k j hk hj => by rw [hget k j hk hj]; exact (hF k j (by omega) (by rw [← hrl _ (List.getElem_mem hk)]; exact hj)).2.1)
      rw [hel'] at hrd
      refine ⟨.l es, _, hrd, es, rfl, by omega, fun e he => ⟨by rw [hrl e he, hg], fun j hj hj' => ?_⟩⟩
      obtain ⟨k, hk, rfl⟩ := List.mem_iff_getElem.1 he
      rw [hget k j hk hj]
      exact (hF k j (by omega) (by omega)).2.2 hj'
/-- A slice of one-cell elements. -/
theorem opens_slice {T e : TypeId} {G : Dt → Prop} (hT : P.underlying T = some (.slice e)) (hc : P.cellsOf T = 1) (hE : Opens H enc P W e G) : Opens H enc P W T (RowsG [G]) :=
  opens_slice_by (sz := 1) hT hc hE.1 (by omega) rfl fun fuel cs x hl h j hj hj' => by
    have : j = 0 := by omega
    subst this
    match cs, hl with
    | [c], _ => exact hE.2 fuel c x h
/-- The fields of a struct, each in one cell. -/
theorem fields_open {t : TypeId} {fs : Array Field} {Gs : List (Dt → Prop)} (ht : P.underlying t = some (.struct fs)) (_hg : Gs.length = fs.size) (hf : ∀ j (h : j < fs.size) (h' : j < Gs.length), (fs[j]).offset = j ∧ Opens H enc P W (fs[j]).type Gs[j])
    (fuel : Nat) (cs : List Value) (x : DataW H × List MemPlace) (hl : cs.length = fs.size) (h : DataW.trod enc P W 0 (fun _ => true) true fuel t cs = some x) : ∀ j (h : j < cs.length) (h' : j < Gs.length), ∃ d fp, Rd W d cs[j] fp ∧ Gs[j] d := by
  obtain ⟨xs, n, _, rfl, hl', hlen, hff⟩ := DataW.trod_struct ht h
  intro j hj hj'
  have hjf : j < fs.size := by omega
  obtain ⟨ho, hO⟩ := hf j hjf hj'
  have := hff j (fs[j]) (by simp [hjf])
  rw [ho, hO.1] at this
  have hd : (cs.drop j).take 1 = [cs[j]] := by
    rw [List.drop_eq_getElem_cons hj]; rfl
  rw [hd, List.getElem?_eq_getElem (show j < xs.length by omega)] at this
  exact hO.2 n _ _ this
/-- A slice of structs. -/
theorem opens_slice_struct {T e : TypeId} {fs : Array Field} {Gs : List (Dt → Prop)} (hT : P.underlying T = some (.slice e)) (hc : P.cellsOf T = 1) (he : P.underlying e = some (.struct fs)) (hsz : P.cellsOf e = fs.size) (hpos : 0 < fs.size) (hg : Gs.length = fs.size)
    (hf : ∀ j (h : j < fs.size) (h' : j < Gs.length), (fs[j]).offset = j ∧ Opens H enc P W (fs[j]).type Gs[j]) : Opens H enc P W T (RowsG Gs) :=
  opens_slice_by hT hc hsz hpos hg fun fuel cs x hl h => fields_open he hg hf fuel cs x hl h
/-- A struct by value. -/
theorem open_struct {t : TypeId} {fs : Array Field} {Gs : List (Dt → Prop)} {base : Nat} {v : Value} {d : DataW H} {p : List MemPlace} (ht : P.underlying t = some (.struct fs)) (hsz : P.cellsOf t = fs.size) (hg : Gs.length = fs.size) (hf : ∀ j (h : j < fs.size) (h' : j < Gs.length), (fs[j]).offset = j ∧ Opens H enc P W (fs[j]).type Gs[j])
    (hv : Value.okWide P W .any base t v) (h : DataW.Trod enc P W 0 (fun _ => true) true t v d p) : ∃ cs : List Value, v = .agg cs.toArray ∧ cs.length = fs.size ∧ ∀ j (h : j < cs.length) (h' : j < Gs.length), ∃ d fp, Rd W d cs[j] fp ∧ Gs[j] d := by
  unfold Value.okWide at hv
  rw [ht] at hv
  obtain ⟨cs, rfl, hs, _⟩ := hv
  obtain ⟨fuel, hf'⟩ := h
  refine ⟨cs.toList, by simp, by rw [Array.length_toList, hs, hsz], ?_⟩
  exact fields_open ht hg hf fuel cs.toList _ (by rw [Array.length_toList, hs, hsz]) hf'
/-- A one-cell value. -/
theorem open_cell {t : TypeId} {G : Dt → Prop} {v : Value} {d : DataW H} {p : List MemPlace} (hO : Opens H enc P W t G) (hna : v.cells = #[v]) (h : DataW.Trod enc P W 0 (fun _ => true) true t v d p) : ∃ d fp, Rd W d v fp ∧ G d := by
  obtain ⟨fuel, hf⟩ := h
  rw [hna] at hf
  exact hO.2 fuel v _ hf
end
/-- A list of numbers. -/
theorem ints_of {d : Dt} (h : RowsG [IntG] d) : ∃ xs, d = intsD xs ∧ xs.length ≤ maxLen ∧ ∀ x ∈ xs, -9223372036854775808 ≤ x ∧ x ≤ 9223372036854775807 := by
  obtain ⟨es, rfl, hl, he⟩ := h
  refine ⟨es.map fun e => match e with | [.i n] => n | _ => 0, ?_, by simpa using hl, ?_⟩
  · unfold intsD
    congr 1
    rw [List.map_map]
    conv => lhs; rw [← List.map_id es]
    refine List.map_congr_left fun e hm => ?_
    obtain ⟨h1, h2⟩ := he e hm
    match e, h1, h2 with
    | [d], _, h2 =>
      obtain ⟨n, hn, _⟩ := h2 0 (by simp) (by simp)
      simp only [List.getElem_cons_zero] at hn
      subst hn; rfl
  · intro x hx
    obtain ⟨e, hm, rfl⟩ := List.mem_map.1 hx
    obtain ⟨h1, h2⟩ := he e hm
    match e, h1, h2 with
    | [d], _, h2 =>
      obtain ⟨n, hn, hr⟩ := h2 0 (by simp) (by simp)
      simp only [List.getElem_cons_zero] at hn
      subst hn; exact hr

end Go.Proofs.Yteglefchkecfjaa

/- A certificate that came in by value, and the exact laws' copies and sizes of it, each by a walk of its text; conditions: a list that is read has fewer than 2^40 elements, the numbers are ints. -/
namespace Go.Proofs.Yteglefchkecfjaa
open Go.RowKit

set_option maxRecDepth 8000 in
/-- A certificate that came in by value. -/
theorem open_cert {H : Type} {enc : TypeId × Value → H} {W : World} {base : Nat} {v : Value} {d : DataW H} {p : List MemPlace} (hv : Value.okWide Try.prog W .any base 52 v) (h : DataW.Trod enc Try.prog W 0 (fun _ => true) true 52 v d p) :
    ∃ n a cap xs s, v = .agg #[.int .i64 n, .slice a xs.length cap, .int .i64 s] ∧ (-9223372036854775808 ≤ n ∧ n ≤ 9223372036854775807) ∧ (-9223372036854775808 ≤ s ∧ s ≤ 9223372036854775807) ∧ xs.length ≤ maxLen ∧ IntsAt W a xs := by
  obtain ⟨cs, rfl, hl, hf⟩ := open_struct (Gs := [IntG, RowsG [IntG], IntG]) Try.underlying52 (by kernel_rfl) rfl (fun j h h' => by
    match j, h, h' with
    | 0, _, _ => exact ⟨rfl, opens_int Try.underlying3 (by kernel_rfl)⟩
    | 1, _, _ => exact ⟨rfl, opens_slice Try.underlying26 (by kernel_rfl) (opens_int Try.underlying3 (by kernel_rfl))⟩
    | 2, _, _ => exact ⟨rfl, opens_int Try.underlying3 (by kernel_rfl)⟩) hv h
  match cs, hl with
  | [c0, c1, c2], _ =>
    obtain ⟨d0, f0, r0, n, rfl, hn⟩ := hf 0 (by simp) (by simp)
    obtain ⟨d1, f1, r1, g1⟩ := hf 1 (by simp) (by simp)
    obtain ⟨d2, f2, r2, s, rfl, hs⟩ := hf 2 (by simp) (by simp)
    obtain ⟨xs, rfl, hx, _⟩ := ints_of g1
    obtain ⟨rfl, _⟩ := Rd.int (show Rd W (.i n) c0 f0 from r0)
    obtain ⟨rfl, _⟩ := Rd.int (show Rd W (.i s) c2 f2 from r2)
    obtain ⟨a, cap, rfl, _, hi⟩ := Rd.ints (show Rd W (intsD xs) c1 f1 from r1)
    exact ⟨n, a, cap, xs, s, rfl, hn, hs, hx, hi⟩

theorem laws_szIntSc (a : Option Addr) (cap : Nat) (xs : List Int) (left : Nat) (w : World) (hl : left ≤ 1048576) (hbig : xs.length ≤ 9223372036854775807) :
    Calls Try.prog 75 #[.slice a xs.length cap, .int .i64 (left : Int)] w fun e w' => e = .returned (.int .i64 (if xs.length ≤ left then (left : Int) - (xs.length : Int) else -1)) ∧ w = w' := by
  by_cases h : xs.length ≤ left
  · have h' : ¬ ((left : Int) - (xs.length : Int) < 0) := by omega
    rw [if_pos h]
    go_enter Try.func75, Try.ntmps75
    go_wp2
    go_ret
    exact ⟨rfl, rfl⟩
  · have h' : (left : Int) - (xs.length : Int) < 0 := by omega
    rw [if_neg h]
    go_enter Try.func75, Try.ntmps75
    go_wp2
    go_ret
    exact ⟨rfl, rfl⟩

theorem laws_szCert (n s : Int) (a : Option Addr) (cap : Nat) (xs : List Int) (left : Nat) (w : World) (hl : left ≤ 1048576) (hbig : xs.length ≤ 9223372036854775807) :
    Calls Try.prog 34 #[.agg #[.int .i64 n, .slice a xs.length cap, .int .i64 s], .int .i64 (left : Int)] w fun e w' => e = .returned (.int .i64 (if xs.length ≤ left then (left : Int) - (xs.length : Int) else -1)) ∧ Below w.heap.size w w' := by
  have hs := fun w => laws_szIntSc a cap xs left w hl hbig
  have hb : Below w.heap.size w (w.alloc (.cells #[.int .i64 n, .slice a xs.length cap, .int .i64 s] 52)) := (Below.refl _ w).alloc (Nat.le_refl _) _
  by_cases h : xs.length ≤ left
  · rw [if_pos h] at hs ⊢
    have Hs := Lib.hid hs; clear hs
    have h' : ¬ ((left : Int) - (xs.length : Int) < 0) := by omega
    go_enter Try.func34, Try.ntmps34
    go_wp2_with fail
    refine (Hs.out _).mono ?_
    rintro e w' ⟨rfl, rfl⟩
    go_wp2
    go_ret
    exact ⟨rfl, hb⟩
  · rw [if_neg h] at hs ⊢
    have Hs := Lib.hid hs; clear hs
    go_enter Try.func34, Try.ntmps34
    go_wp2_with fail
    refine (Hs.out _).mono ?_
    rintro e w' ⟨rfl, rfl⟩
    go_wp2
    go_ret
    exact ⟨rfl, hb⟩

theorem laws_toCert (n s : Int) (a : Option Addr) (cap : Nat) (xs : List Int) (w : World) (hbig : xs.length ≤ 1099511627776) (hc : IntsAt w a xs) :
    Calls Try.prog 35 #[.agg #[.int .i64 n, .slice a xs.length cap, .int .i64 s]] w fun e w' => ∃ v, e = .returned (.agg #[.int .i64 n, v, .int .i64 s]) ∧ Own 3 w' w.heap.size v xs ∧ Below w.heap.size w w' := by
  have hbW : Below w.heap.size w (((w.alloc (.cells #[.int .i64 n, .slice a xs.length cap, .int .i64 s] 52)).alloc (.cells #[.int .i64 0, .slice none 0 0, .int .i64 0] 37)).alloc (.cells #[.int .i64 n, .slice none 0 0, .int .i64 0] 37)) := (((Below.refl _ w).alloc (Nat.le_refl _) _).alloc (by simp) _).alloc (by simp; omega) _
  have s0 := ((Str.new w 52 #[.int .i64 n, .slice a xs.length cap, .int .i64 s]).alloc (.cells #[.int .i64 0, .slice none 0 0, .int .i64 0] 37)).alloc (.cells #[.int .i64 n, .slice none 0 0, .int .i64 0] 37)
  have s1 := (Str.new (w.alloc (.cells #[.int .i64 n, .slice a xs.length cap, .int .i64 s] 52)) 37 #[.int .i64 0, .slice none 0 0, .int .i64 0]).alloc (.cells #[.int .i64 n, .slice none 0 0, .int .i64 0] 37)
  have s2 := Str.new ((w.alloc (.cells #[.int .i64 n, .slice a xs.length cap, .int .i64 s] 52)).alloc (.cells #[.int .i64 0, .slice none 0 0, .int .i64 0] 37)) 37 #[.int .i64 n, .slice none 0 0, .int .i64 0]
  have hzW : (((w.alloc (.cells #[.int .i64 n, .slice a xs.length cap, .int .i64 s] 52)).alloc (.cells #[.int .i64 0, .slice none 0 0, .int .i64 0] 37)).alloc (.cells #[.int .i64 n, .slice none 0 0, .int .i64 0] 37)).heap.size = w.heap.size + 3 := by simp
  simp only [World.size_alloc] at s1 s2
  have Hc := Lib.hid (hc.below hbW)
  have Hb := Lib.hid hbW
  have Hs0 := Lib.hid s0
  have Hs1 := Lib.hid s1
  have Hs2 := Lib.hid s2
  have Hz := Lib.hid hzW
  clear hc hbW s0 s1 s2 hzW
  go_enter Try.func35, Try.ntmps35
  go_wp2_with fail
  generalize ((w.alloc (.cells #[.int .i64 n, .slice a xs.length cap, .int .i64 s] 52)).alloc (.cells #[.int .i64 0, .slice none 0 0, .int .i64 0] 37)).alloc (.cells #[.int .i64 n, .slice none 0 0, .int .i64 0] 37) = W1 at *
  refine (laws_toIntS a cap xs W1 hbig Hc.out).mono ?_
  rintro e w6 ⟨v, rfl, hown, hb6⟩
  have hz := Hz.out
  have t0 : Str w6 w.heap.size 52 #[.int .i64 n, .slice a xs.length cap, .int .i64 s] := (hb6.block _ (by omega)).trans Hs0.out
  have t1 : Str w6 (w.heap.size + 1) 37 #[.int .i64 0, .slice none 0 0, .int .i64 0] := (hb6.block _ (by omega)).trans Hs1.out
  have t2 : Str w6 (w.heap.size + 1 + 1) 37 #[.int .i64 n, .slice none 0 0, .int .i64 0] := (hb6.block _ (by omega)).trans Hs2.out
  have Hlt := Lib.hid (show ∀ g, v.ownBlock = some g → w.heap.size + 3 ≤ g from fun g e => by have := (hown.lt g e).1; omega)
  have HbF := Lib.hid (below_step Hb.out (by omega) hb6)
  obtain ⟨a6, c6, rfl, _, _⟩ := hown.ints
  have HwW := Lib.hid (show w.heap.size ≤ W1.heap.size by omega)
  have Hown := Lib.hid hown
  clear hown hb6 hz Hz Hs0 Hs1 Hs2 Hc Hb
  have l2 := t0.cell 2 (v := .int .i64 s) rfl
  have k0 := t1.cell 0 (v := .int .i64 0) rfl
  have k1 := t1.cell 1 (v := .slice none 0 0) rfl
  have k2 := t1.cell 2 (v := .int .i64 0) rfl
  have j0 := t2.cell 0 (v := .int .i64 n) rfl
  have j1 := t2.cell 1 (v := .slice none 0 0) rfl
  have j2 := t2.cell 2 (v := .int .i64 0) rfl
  have f0 := t1.frozen 0
  have f1 := t1.frozen 1
  have f2 := t1.frozen 2
  have g1 := t2.frozen 1
  have g2 := t2.frozen 2
  have hne : w.heap.size + 1 ≠ w.heap.size + 1 + 1 := by omega
  have u := (((t1.other hne 1 (.slice a6 xs.length c6)).other hne 2 (.int .i64 s)).set 0 (.int .i64 n)).set 1 (.slice a6 xs.length c6)
  have u := u.set 2 (.int .i64 s)
  have e0 := u.cell 0 (v := .int .i64 n) rfl
  have e1 := u.cell 1 (v := .slice a6 xs.length c6) rfl
  have e2 := u.cell 2 (v := .int .i64 s) rfl
  clear u t0 t1 t2
  go_wp2
  refine bodyPost_ret (v := .agg #[.int .i64 n, .slice a6 xs.length c6, .int .i64 s]) (by simp [results, Try.f35, go_sem, e0, e1, e2]) rfl ?_
  have n1 : (Value.slice a6 xs.length c6).ownBlock ≠ some (w.heap.size + 1) := fun e => by have := Hlt.out _ e; omega
  have n2 : (Value.slice a6 xs.length c6).ownBlock ≠ some (w.heap.size + 1 + 1) := fun e => by have := Hlt.out _ e; omega
  exact ⟨_, rfl, (((((Hown.out.mono HwW.out).set_other n2 1 _).set_other n2 2 _).set_other n1 0 _).set_other n1 1 _).set_other n1 2 _, ((((HbF.out.setCell (p := ⟨w.heap.size + 1 + 1, 1, none⟩) (by simp only; omega) _).setCell (p := ⟨w.heap.size + 1 + 1, 2, none⟩) (by simp only; omega) _).setCell (p := ⟨w.heap.size + 1, 0, none⟩) (by simp only; omega) _).setCell (p := ⟨w.heap.size + 1, 1, none⟩) (by simp only; omega) _).setCell (p := ⟨w.heap.size + 1, 2, none⟩) (by simp only; omega) _⟩

end Go.Proofs.Yteglefchkecfjaa
