/- slices.Insert of one number into a list of its own, and slices.BinarySearch in an ascending list, over the kit's shelf; condition: the list is shorter than 2^20. -/
import Derived.Test.YtkndndcjchlpdaaRows
import Derived.Test.YtkndndcjchlpdaaTa0
import Derived.Test.YtkndndcjchlpdaaTa1
import Derived.Lib.LazyBuf
import Derived.Maps.Range
namespace Go.Proofs.Ytkndndcjchlpdaa
open Go.RowKit Go.Shelf

def insL (ms : List Int) (k : Nat) (x : Int) : List Int := ms.take k ++ x :: ms.drop k
theorem gt_of_lacks {ms : List Int} {x : Int} {k : Nat} (hh : hasB ms x = false) (hup : ∀ h : k < ms.length, x ≤ ms[k]) : ∀ h : k < ms.length, x < ms[k] := by
  intro h
  have h0 := hup h
  have h1 : ms[k] ≠ x := by
    intro e
    have h9 := hasB_yes h
    rw [e, hh] at h9
    cases h9
  omega
theorem insL_len {ms : List Int} {k : Nat} (hk : k ≤ ms.length) (x : Int) : (insL ms k x).length = ms.length + 1 := by
  unfold insL; rw [List.length_append, List.length_cons, List.length_take, List.length_drop]; omega
theorem insL_lo {ms : List Int} {k : Nat} (hk : k ≤ ms.length) (x : Int) {j : Nat} (h : j < k) : (insL ms k x)[j]? = ms[j]? := by
  unfold insL
  rw [List.getElem?_append_left (by rw [List.length_take]; omega), List.getElem?_take_of_lt h]
theorem insL_at {ms : List Int} {k : Nat} (hk : k ≤ ms.length) (x : Int) : (insL ms k x)[k]? = some x := by
  unfold insL
  rw [List.getElem?_append_right (by rw [List.length_take]; omega)]
  have : k - (ms.take k).length = 0 := by rw [List.length_take]; omega
  rw [this, List.getElem?_cons_zero]
theorem insL_hi {ms : List Int} {k : Nat} (hk : k ≤ ms.length) (x : Int) {j : Nat} (h : k < j) : (insL ms k x)[j]? = ms[j - 1]? := by
  unfold insL
  rw [List.getElem?_append_right (by rw [List.length_take]; omega)]
  have : j - (ms.take k).length = (j - 1 - k) + 1 := by rw [List.length_take]; omega
  rw [this, List.getElem?_cons_succ, List.getElem?_drop]
  congr 1
  omega
theorem row_of_ownI {E : TypeId} {w : World} {B : Nat} {v : Value} {ms : List Int} (h : Own E w B v ms) :
    (v = .slice none 0 0 ∧ ms = []) ∨ ∃ g cap f, v = .slice (some ⟨g, 0, none⟩) ms.length cap ∧ B ≤ g ∧ w.rowIs g E cap f ∧ ms.length ≤ cap ∧ cap ≤ maxLen ∧ ∀ j (hj : j < ms.length), f j = .int .i64 ms[j] := by
  rcases h.2 with ⟨rfl, h0⟩ | ⟨g, cap, cur, rfl, hb, hg, hn, hm, hs, ht⟩
  · exact .inl ⟨rfl, List.eq_nil_of_length_eq_zero h0⟩
  · refine .inr ⟨g, cap, fun j => cur[j]?.getD default, rfl, hb, ⟨cur, hg, by omega, fun i hi => ?_⟩, hn, hm, fun j hj => ?_⟩
    · have : i < cur.size := by omega
      simp [Array.getElem?_eq_getElem this]
    · have h1 : (cur.toList.take (ms.length * 1))[j]? = some (.int .i64 ms[j]) := by rw [ht]; simp [hj]
      rw [List.getElem?_take_of_lt (by omega), Array.getElem?_toList] at h1
      show cur[j]?.getD default = _
      rw [h1]; rfl
theorem own_of_rowI {E : TypeId} {w : World} {B g cap : Nat} {f : Nat → Value} {xs : List Int} (hr : w.rowIs g E cap f) (hB : B ≤ g) (hn : xs.length ≤ cap) (hm : cap ≤ maxLen) (hf : ∀ j y, xs[j]? = some y → f j = .int .i64 y) : Own E w B (.slice (some ⟨g, 0, none⟩) xs.length cap) xs := by
  obtain ⟨c, hb, hs, hc⟩ := hr
  refine ⟨by simp, .inr ⟨g, cap, c, rfl, hB, hb, hn, hm, by omega, ?_⟩⟩
  apply List.ext_getElem?
  intro j
  by_cases hj : j < xs.length
  · rw [List.getElem?_take_of_lt (by omega), Array.getElem?_toList, hc j (by omega), hf j xs[j] (List.getElem?_eq_getElem hj)]
    simp [hj]
  · rw [List.getElem?_eq_none (by simp; omega), List.getElem?_eq_none (by simp; omega)]
theorem grown_drew {w w' : World} {row : Option Nat} (h : w.grownBy w' row) : w.grownBy w'.drew row := ⟨h.os, h.tape, h.output, h.size, h.block⟩
theorem grown_pre {w w' : World} {row : Option Nat} (h : w.drew.grownBy w' row) : w.grownBy w' row := ⟨h.os, h.tape, h.output, h.size, h.block⟩
theorem grown_setCells (g : Nat) : ∀ (vs : List Value) (o : Nat) (w : World), w.grownBy (w.setCells g o vs) (some g)
  | [], _, _ => World.grownBy.refl _ _
  | v :: r, o, w => (grownBy_set w g o v).andThen (grown_setCells g r (o + 1) _) (fun _ hj => .inr hj)

/-- What an insertion leaves in a row, by where each cell's value comes from. -/
theorem own_ins {E : TypeId} {w : World} {B g cap : Nat} {f : Nat → Value} {ms : List Int} {k : Nat} {x : Int} (hk : k ≤ ms.length) (hr : w.rowIs g E cap f) (hB : B ≤ g) (hn : ms.length + 1 ≤ cap) (hm : cap ≤ maxLen)
    (h1 : ∀ j (hj : j < ms.length), j < k → f j = .int .i64 ms[j]) (h2 : f k = .int .i64 x) (h3 : ∀ j (hj : j < ms.length), k ≤ j → f (j + 1) = .int .i64 ms[j]) : Own E w B (.slice (some ⟨g, 0, none⟩) (ms.length + 1) cap) (insL ms k x) := by
  rw [← insL_len hk x]
  refine own_of_rowI hr hB (by rw [insL_len hk]; exact hn) hm fun j y hy => ?_
  rcases Nat.lt_trichotomy j k with h | h | h
  · rw [insL_lo hk x h, List.getElem?_eq_getElem (by omega)] at hy
    rw [h1 j (by omega) h]
    cases hy
    rfl
  · subst h
    rw [insL_at hk x] at hy
    rw [h2]
    cases hy
    rfl
  · rw [insL_hi hk x h] at hy
    obtain ⟨hl, e⟩ := List.getElem?_eq_some_iff.1 hy
    obtain ⟨i, rfl⟩ : ∃ i, j = i + 1 := ⟨j - 1, by omega⟩
    rw [h3 i (by simpa using hl) (by omega), ← e]
    rfl
theorem vs_one {w : World} {E : TypeId} {PB : Nat} {x : Int} (hp : Str w PB E #[.int .i64 x]) : ∀ j v, [Value.int .i64 x][j]? = some v → w.cell? ⟨PB, 0 + j, none⟩ = some v := by
  intro j v hv
  match j, hv with
  | 0, hv => cases hv; exact hp.cell 0 rfl
  | j + 1, hv => simp at hv

theorem row_new (w : World) (c : Array Value) (t : TypeId) {n : Nat} (hn : c.size = n) : (w.alloc (.cells c t)).rowIs w.heap.size t n (fun j => c[j]?.getD default) := by
  subst hn
  exact World.rowIs_alloc w c t _ (fun i hi => by simp [Array.getElem?_eq_getElem hi])
theorem cellL {l : List Value} {Z : Array Value} {j : Nat} {u : Value} (h : l[j]? = some u) : ((l.toArray ++ Z)[j]?.getD default) = u := by
  have hl := (List.getElem?_eq_some_iff.1 h).1
  rw [Array.getElem?_append_left (by simpa using hl), List.getElem?_toArray, h]
  rfl
theorem dropv {ms : List Int} {k j : Nat} (hj : j < ms.length) (hk : k ≤ j) : ((ms.map (Value.int .i64)).drop k)[j + 1 - (k + 1)]?.getD default = .int .i64 ms[j] := by
  rw [List.getElem?_drop, show k + (j + 1 - (k + 1)) = j by omega, List.getElem?_map, List.getElem?_eq_getElem hj]
  rfl

theorem own_end {w : World} {B cap : Nat} {ms : List Int} {x : Int} (hB : B ≤ w.heap.size) (hn : ms.length + 1 ≤ cap) (hm : cap ≤ maxLen) :
    Own 3 (w.alloc (.cells ((ms.map (Value.int .i64) ++ [Value.int .i64 x]).toArray ++ Builtin.zeroCells (Value.int .i64 0).cells (cap - (ms.length + 1))) 3)) B (.slice (some ⟨w.heap.size, 0, none⟩) (ms.length + 1) cap) (insL ms ms.length x) := by
  refine own_ins (Nat.le_refl _) (row_new w _ _ (n := cap) (by simp [size_zeroCells, Value.cells]; omega)) hB hn hm (fun j hj _ => cellL ?_) (cellL ?_) (fun j hj h => by omega)
  · rw [List.getElem?_append_left (by simpa using hj), List.getElem?_map, List.getElem?_eq_getElem hj]; rfl
  · rw [List.getElem?_append_right (by simp)]; simp
set_option maxHeartbeats 1000000 in
theorem ins_own (B PB k : Nat) (v : Value) (ms : List Int) (x : Int) (w : World) (hown : Own 3 w B v ms) (hp : Str w PB 3 #[.int .i64 x]) (hk : k ≤ ms.length) (hne : v.ownBlock ≠ some PB) (hB : B ≤ w.heap.size) (hbig : ms.length ≤ 1048576) :
    Calls Try.prog 63 #[v, .int .i64 k, .slice (some ⟨PB, 0, none⟩) 1 1] w fun e w' => ∃ v', e = .returned v' ∧ Own 3 w' B v' (insL ms k x) ∧ w.grownBy w' v.ownBlock := by
  have hvs := vs_one hp
  have h1v : ∀ u ∈ [Value.int .i64 x], u.oneCell' = true := by intro u hu; simp at hu; subst hu; rfl
  have h1c : ∀ u ∈ ms.map (Value.int .i64), u.oneCell' = true := by intro u hu; obtain ⟨z, _, rfl⟩ := List.mem_map.1 hu; rfl
  have hml : (1048577 : Nat) ≤ maxLen := by unfold maxLen; omega
  have hm63 : maxLen ≤ 9223372036854775807 := by unfold maxLen; omega
  rcases row_of_ownI hown with ⟨rfl, rfl⟩ | ⟨g, cap, f, rfl, hBg, hr, hn, hm, hf⟩
  · obtain rfl : k = 0 := by simpa using hk
    refine (Any2.slices_Insert_int_end_grow insI none 0 0 PB 0 1 1 [] [.int .i64 x] w (by omega) (by omega) (by omega) (by omega) rfl rfl (fun _ => rfl) (fun a e => by cases e) hvs h1v).mono ?_
    rintro e w' ⟨rfl, rfl⟩
    exact ⟨_, rfl, own_end (w := w.drew) (ms := []) hB (grownCap_ge w (0 + 1) 0 3) (grownCap_le_maxLen w (0 + 1) 0 3 (by omega)), grown_pre (World.grownBy_alloc w.drew _ _)⟩
  · have hcs : ∀ j v, (ms.map (Value.int .i64))[j]? = some v → w.cell? ⟨g, 0 + j, none⟩ = some v := by
      intro j v hv
      rw [List.getElem?_map] at hv
      obtain ⟨z, hz, rfl⟩ := Option.map_eq_some_iff.1 hv
      obtain ⟨hj, rfl⟩ := List.getElem?_eq_some_iff.1 hz
      rw [Nat.zero_add, hr.cell (by omega), hf j hj]
    have hgP : PB ≠ g := fun e => hne (by rw [e]; rfl)
    by_cases hroom : ms.length + 1 ≤ cap
    · by_cases hkn : k < ms.length
      · refine (Any2.slices_Insert_int_shift insI g 0 ms.length cap k PB 0 1 1 (ms.map (Value.int .i64)) [.int .i64 x] w hkn (by omega) hroom (by omega) hgP (by simp) rfl hcs (fun j hj => by rw [Nat.zero_add, hr.cell (by omega)]; rfl) (fun j hj => hr.frozen _) hvs h1c h1v 3 3 1 cap ?_ ?_ (by omega) ?_ ?_).mono ?_
        · unfold World.shape?; rw [show w.heap[PB]? = _ from hp]; rfl
        · obtain ⟨c, hc, hs, _⟩ := hr
          unfold World.shape?; rw [hc]; show some (_, c.size) = _; rw [hs]
        · exact hp.frozen 0
        · exact hp.frozen 1
        rintro e w' ⟨rfl, rfl⟩
        refine ⟨_, rfl, own_ins hk (rowIs_setCells [.int .i64 x] (0 + k) _ _ (rowIs_setCells ((ms.map (Value.int .i64)).drop k) (0 + (k + 1)) _ _ hr.drew)) hBg hroom hm ?_ ?_ ?_, ?_⟩
        · intro j hj h
          rw [if_neg (by simp; omega), if_neg (by simp; omega)]
          exact hf j hj
        · rw [if_pos (by simp)]; simp
        · intro j hj h
          rw [if_neg (by simp; omega), if_pos (by simp; omega), Nat.zero_add]
          exact dropv hj h
        · exact ((grown_drew (World.grownBy.refl w (some g))).andThen (grown_setCells g _ _ _) (fun j hj => .inr hj)).andThen (grown_setCells g _ _ _) (fun j hj => .inr hj)
      · obtain rfl : k = ms.length := by omega
        refine (Any2.slices_Insert_int_end_room insI g 0 ms.length cap PB 0 1 1 [.int .i64 x] w (by omega) hroom (by omega) rfl (fun j hj => by rw [hr.cell (by omega)]; rfl) (fun j hj => hr.frozen _) hvs h1v).mono ?_
        rintro e w' ⟨rfl, rfl⟩
        refine ⟨_, rfl, own_ins hk (rowIs_setCells [.int .i64 x] (0 + ms.length) _ _ hr) hBg hroom hm ?_ ?_ ?_, grown_setCells g _ _ _⟩
        · intro j hj h
          rw [if_neg (by simp; omega)]
          exact hf j hj
        · rw [if_pos (by simp)]; simp
        · intro j hj h; omega
    · by_cases hkn : k < ms.length
      · have hge := grownCap_ge w (ms.length + 1) cap 3
        have hle := grownCap_le_maxLen w (ms.length + 1) cap 3 (by omega)
        refine (Any2.slices_Insert_int_grow insI g 0 ms.length cap k PB 0 1 1 (ms.map (Value.int .i64)) [.int .i64 x] w hkn (by omega) hn (by omega) (by omega) (by simp) rfl hcs hvs h1c h1v).mono ?_
        rintro e w' ⟨rfl, hw⟩
        rw [show insI_ren.t 3 = 3 from rfl] at hw ⊢
        subst hw
        refine ⟨_, rfl, own_ins hk (rowIs_setCells ((ms.map (Value.int .i64)).drop k) (k + 1) _ _ (rowIs_setCells [.int .i64 x] k _ _ (row_new w _ _ (n := grownCap w (ms.length + 1) cap 3) ?_).drew).drew) (by omega) hge hle ?_ ?_ ?_, ?_⟩
        · simp only [Array.size_append, List.size_toArray, size_zeroCells, List.length_take, List.length_map, Value.cells, List.size_toArray, List.length_singleton]; omega
        · intro j hj h
          rw [if_neg (by omega), if_neg (by simp; omega), Array.append_assoc]
          refine cellL ?_
          rw [List.getElem?_take_of_lt h, List.getElem?_map, List.getElem?_eq_getElem hj]; rfl
        · rw [if_neg (by omega), if_pos (by simp)]; simp
        · intro j hj h
          rw [if_pos (by simp; omega)]
          exact dropv hj h
        · exact ((grown_drew ((grown_drew (World.grownBy_alloc w _ (some g))).andThen (grown_setCells w.heap.size _ _ _) (fun j hj => by cases hj; exact .inl (Nat.le_refl _)))).andThen (grown_setCells w.heap.size _ _ _) (fun j hj => by cases hj; exact .inl (Nat.le_refl _)))
      · obtain rfl : k = ms.length := by omega
        refine (Any2.slices_Insert_int_end_grow insI (some ⟨g, 0, none⟩) ms.length cap PB 0 1 1 (ms.map (Value.int .i64)) [.int .i64 x] w (by omega) hn (by omega) (by omega) (by simp) rfl (fun e => by cases e) (fun a e j v hv => by cases e; rw [addr_add]; have := hcs j v hv; rwa [Nat.zero_add] at this) hvs h1v).mono ?_
        rintro e w' ⟨rfl, rfl⟩
        exact ⟨_, rfl, own_end (w := w.drew) hB (grownCap_ge w (ms.length + 1) cap 3) (grownCap_le_maxLen w (ms.length + 1) cap 3 (by omega)), grown_pre (World.grownBy_alloc w.drew _ _)⟩

/-- Where x stands, and whether, in a list of one's own. -/
theorem search_own (B k : Nat) (v : Value) (ms : List Int) (x : Int) (w : World) (hown : Own 3 w B v ms) (hs : ms.Pairwise (· < ·)) (hk : k ≤ ms.length) (h : ∀ m ∈ ms.take k, m < x) (h' : ∀ hk : k < ms.length, x ≤ ms[k]) (hbig : ms.length ≤ 1048576) :
    Calls Try.prog 62 #[v, .int .i64 x] w fun e w' => e = .returned (.tuple #[.int .i64 k, .bool (hasB ms x)]) ∧ Below w.heap.size w w' := by
  rcases row_of_ownI hown with ⟨rfl, rfl⟩ | ⟨g, cap, f, rfl, hBg, hr, hn, hm, hf⟩
  · obtain rfl : k = 0 := by simpa using hk
    refine (Any.slices_BinarySearch_int_empty bsI none 0 x w).mono ?_
    rintro e w' ⟨rfl, rfl⟩
    exact ⟨rfl, Below.refl _ _⟩
  · refine (Any.slices_BinarySearch_int bsI g 0 ms.length cap ms x w (Nat.le_refl _) (by omega) (fun j hj => by rw [Nat.zero_add, hr.cell (by omega), hf j hj]; simp [List.getD, List.getElem?_eq_getElem hj]) (by rw [List.take_length]; exact hs.imp (fun h => Int.le_of_lt h))).mono ?_
    rintro e w' ⟨rfl, q, rfl⟩
    refine ⟨?_, below_drewN (Below.refl _ _) q⟩
    rw [List.take_length, count_at hs hk h h']
    congr 5
    unfold hasB
    rw [List.contains_eq_mem]

end Go.Proofs.Ytkndndcjchlpdaa
