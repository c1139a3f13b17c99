/- Arrays of numbers as values and in memory; general steps, and what impl's inverse and its equations' two operations answer, each by a walk of its text; the numbers are symbols. -/
import Derived.Test.YtkndndcjchlpdabN3
import Derived.Laws.Rows
import Derived.Laws.CopyRow
namespace Go.Proofs.Ytkndndcjchlpdab
open Go.RowKit

def arrC (n : Nat) (f : Nat → Value) : Array Value := ((List.range n).map f).toArray
theorem arrC_size (n : Nat) (f : Nat → Value) : (arrC n f).size = n := by simp [arrC]
theorem arrC_get {n : Nat} {f : Nat → Value} {j : Nat} (h : j < n) : (arrC n f)[j]? = some (f j) := by simp [arrC, h]
theorem arrC_set {n : Nat} {f : Nat → Value} {k : Nat} {v : Value} : (arrC n f).setIfInBounds k v = arrC n fun i => if i = k then v else f i := by
  apply Array.ext
  · simp [arrC]
  · intro j h1 h2
    have hj : j < n := by simpa [arrC] using h2
    rw [Array.getElem_setIfInBounds (by simpa [arrC] using hj)]
    by_cases e : k = j
    · subst e; simp [arrC]
    · have e' : ¬ j = k := fun h => e h.symm
      simp [arrC, e, e']
def eqC (e : Nat → Int) : Array Value := arrC 20 fun i => .int .i64 (e i)
theorem eqC_size (e : Nat → Int) : (eqC e).size = 20 := arrC_size _ _
theorem eqC_get {e : Nat → Int} {j : Nat} (h : j < 20) : (eqC e)[j]? = some (.int .i64 (e j)) := arrC_get h
theorem eqC_set {e : Nat → Int} {k : Nat} {z : Int} : (eqC e).setIfInBounds k (.int .i64 z) = eqC fun i => if i = k then z else e i := by
  unfold eqC; rw [arrC_set]; congr 1; funext i
  by_cases h : i = k <;> simp [h]
theorem eqC_congr {e f : Nat → Int} (h : ∀ i, i < 20 → e i = f i) : eqC e = eqC f := by
  unfold eqC arrC
  congr 1
  exact List.map_congr_left fun i hi => by rw [h i (List.mem_range.1 hi)]
theorem eqC_one (e : Nat → Int) : (eqC e).all (·.oneCell') = true := by
  rw [Array.all_eq_true_iff_forall_mem]
  intro v hv
  simp only [eqC, arrC, List.mem_toArray, List.mem_map] at hv
  obtain ⟨i, _, rfl⟩ := hv
  rfl

/-! reading an array -/
theorem run_index_arr {P : Program} {T E : TypeId} {n k : Nat} {d : TypeDesc} {cs : Array Value} {v : Value} (hu : P.underlying T = some (.array n E)) (hE : P.underlying E = some d) (hd : (match d with | .struct _ | .array _ _ => true | _ => false) = false)
    (hs : (P.info? E).map (·.size) = some 1) (hk : k < n) (hc : cs[k]? = some v) (w : World) : (Instr.index T (.agg cs) (.int .i64 k)).run P w = .ok v w := by
  have h1 := run_underlying hu w
  have h2 : (isAgg E).run P w = .ok false w := by
    unfold isAgg; rw [Sem.run_bind, run_underlying hE w]; cases d <;> simp_all
  cases hq : P.info? E with
  | none => simp [hq] at hs
  | some i =>
    have hz : i.size = 1 := by simpa [hq] using hs
    simp [Instr.index, asIntOf, Sem.run_bind, h1, part, h2, sizeOf, typeInfo, hq, hz, hk, hc]
theorem run_indexAt_arr {P : Program} {T E : TypeId} {n s k B o : Nat} (hu : P.underlying T = some (.array n E)) (hs : (P.info? E).map (·.size) = some s) (hk : k < n) (w : World) :
    (Instr.indexAt T (.pointer (some ⟨B, o, none⟩)) (.int .i64 k)).run P w = .ok (.pointer (some ⟨B, o + k * s, none⟩)) w := by
  have h1 := run_underlying hu w
  cases hq : P.info? E with
  | none => simp [hq] at hs
  | some i =>
    have hz : i.size = s := by simpa [hq] using hs
    simp [Instr.indexAt, asIntOf, Instr.sureAddr, Sem.run_bind, h1, sizeOf, typeInfo, hq, hz, hk, addr_add']
theorem zero20 : eqC (fun _ => 0) = #[.int .i64 0, .int .i64 0, .int .i64 0, .int .i64 0, .int .i64 0, .int .i64 0, .int .i64 0, .int .i64 0, .int .i64 0, .int .i64 0, .int .i64 0, .int .i64 0, .int .i64 0, .int .i64 0, .int .i64 0, .int .i64 0, .int .i64 0, .int .i64 0, .int .i64 0, .int .i64 0] := rfl
theorem setRow_str {W : World} {B : Nat} {t : TypeId} {vs : Array Value} (h : Str W B t vs) (cs : Array Value) : Str (W.setRow B cs) B t cs := setRow_heap W B vs cs t (0, 0) h
theorem grownBy_setRow (W : World) (B : Nat) (cs : Array Value) : W.grownBy (W.setRow B cs) (some B) := ⟨rfl, rfl, rfl, by simp [World.setRow], fun k _ hk => setRow_other W B k cs (fun e => hk (by rw [e]))⟩

theorem impl_inverse (n : Int) (w : World) (h0 : 0 ≤ n) (h1 : n ≤ 250) : Calls Try.prog 71 #[.int .i64 n] w fun e w' => e = .returned (.int .i64 (invZ n)) ∧ w = w' := by
  obtain ⟨m, hm⟩ : ∃ m : Nat, m = 249 := ⟨_, rfl⟩
  have Hm := Lib.hid hm; clear hm
  go_enter Try.func71, Try.ntmps71
  go_wp2
  go_loop [3, 4] (fun p i => ∃ k : Nat, k ≤ m ∧ i = .int .i64 k ∧ p = .int .i64 (powF n k)) (fun _ i => m - (intOf i).toNat)
  case atStart => exact ⟨0, Nat.zero_le _, rfl, rfl⟩
  case round =>
    obtain ⟨k, hk, rfl, rfl⟩ := hrel
    have hbd := powF_bd n k
    have hm := mul_bd hbd.1 hbd.2 h0 h1
    have hs := Lib.hid (show powF n (k + 1) = powF n k * n % 251 from rfl)
    by_cases hlt : k < m
    · have hlt' : (k : Int) < 249 := by have := Hm.out; omega
      generalize powF n k = p at *
      obtain ⟨q, hq⟩ : ∃ q, p * n = q := ⟨_, rfl⟩
      rw [hq] at hm
      have hs' := Lib.hid (hs.out.trans (by rw [hq]))
      clear hs
      go_wp2
      go_round
      case rel => exact ⟨k + 1, by omega, by go_num, int_eq (by rw [hs'.out])⟩
      case measure => simp [intOf]; omega
    · have hk2 : ¬ (k : Int) < 249 := by have := Hm.out; omega
      have hf := Lib.hid (show powF n k = invZ n by unfold invZ; congr 1; have := Hm.out; omega)
      go_wp2
      go_ret
      exact ⟨ret_int hf.out, rfl⟩

theorem impl_times (e : Nat → Int) (c : Int) (w : World) (he : ∀ i, 0 ≤ e i ∧ e i ≤ 250) (h0 : 0 ≤ c) (h1 : c ≤ 250) :
    Calls Try.prog 70 #[.agg (eqC e), .int .i64 c] w fun r w' => r = .returned (.agg (eqC (tmsE e c))) ∧ Below w.heap.size w w' := by
  have He := Lib.hid he; clear he
  go_enter Try.func70, Try.ntmps70
  go_wp2_with (refine wpList_load_row rfl 76 _ rfl w.heap.size rfl 76 (eqC e) (0, 0) _ ((Str.new w 76 (eqC e)).alloc _) Try.underlying76 rfl (by rw [eqC_size]; kernel_rfl) ?_)
  rw [← zero20]
  go_loopw [8] (fun i wr => ∃ k : Nat, k ≤ 20 ∧ i = .int .i64 k ∧ Str wr w.heap.size 76 (eqC fun j => if j < k then tmsE e c j else e j) ∧ Str wr (w.heap.size + 1) 76 (eqC fun _ => 0) ∧ Below w.heap.size w wr) (fun i _ => 20 - (intOf i).toNat)
  case atStart =>
    have h2 := Str.new (w.alloc (.cells (eqC e) 76)) 76 (eqC fun _ => 0)
    simp only [World.size_alloc] at h2
    exact ⟨0, by omega, rfl, by simpa using (Str.new w 76 (eqC e)).alloc _, h2, ((Below.refl _ w).alloc (Nat.le_refl _) _).alloc (by simp) _⟩
  case round =>
    obtain ⟨k, hk, rfl, s0, s1, hbel⟩ := hrel
    by_cases hlt : k < 20
    · have hlt' : (k : Int) < 20 := by omega
      have hx := fun w => run_index_arr (P := Try.prog) (cs := eqC e) Try.underlying76 Try.underlying3 rfl (by kernel_rfl) hlt (eqC_get hlt) w
      have hxa := fun w => run_indexAt_arr (P := Try.prog) (B := w.heap.size) (o := 0) Try.underlying76 (s := 1) (by kernel_rfl) hlt w
      simp only [Nat.zero_add, Nat.mul_one] at hxa
      have hcell := s0.cell k (v := .int .i64 (e k)) (by rw [eqC_get hlt]; simp)
      have hfr := s0.frozen k
      have hy := He.out k
      have ht := Lib.hid (show e k * c % 251 = tmsE e c k from rfl)
      generalize e k = y at *
      have hm := mul_bd hy.1 hy.2 h0 h1
      obtain ⟨q, hq⟩ : ∃ q, y * c = q := ⟨_, rfl⟩
      rw [hq] at hm
      have ht' := Lib.hid (show q % 251 = tmsE e c k by rw [← ht.out, hq])
      clear ht
      have Hs0 := Lib.hid s0; clear s0
      have Hs1 := Lib.hid s1; clear s1
      go_wp2
      go_roundw
      case rel =>
        refine ⟨k + 1, by omega, by go_num, ?_, Hs1.out.other (by omega) k _, hbel.setCell (p := ⟨w.heap.size, k, none⟩) (Nat.le_refl _) _⟩
        have := Hs0.out.set k (.int .i64 (q % 251))
        rw [eqC_set] at this
        rw [ht'.out] at this
        rw [show (eqC fun j => if j < k + 1 then tmsE e c j else e j) = eqC fun i => if i = k then tmsE e c k else if i < k then tmsE e c i else e i from eqC_congr fun i _ => by
          by_cases h1 : i = k
          · subst h1; simp
          · by_cases h2 : i < k
            · simp [h1, h2, show i < k + 1 by omega]
            · simp [h1, h2, show ¬ i < k + 1 by omega]]
        rw [ht'.out]
        exact this
      case measure => simp [intOf]; omega
    · have hk20 : k = 20 := by omega
      subst hk20
      rw [show (eqC fun j => if j < 20 then tmsE e c j else e j) = eqC (tmsE e c) from eqC_congr fun i hi => by simp [hi]] at s0
      go_wp2_with (first
        | refine wpList_load_row rfl 76 _ rfl w.heap.size rfl 76 (eqC (tmsE e c)) (0, 0) _ s0 Try.underlying76 rfl (by rw [eqC_size]; kernel_rfl) ?_
        | refine wpList_store_row rfl 76 _ _ rfl (w.heap.size + 1) (eqC (tmsE e c)) rfl rfl 76 (eqC fun _ => 0) s1 (by rw [eqC_size]; kernel_rfl) (by rw [eqC_size, eqC_size]) (eqC_one _) ?_)
      have sF := setRow_str s1 (eqC (tmsE e c))
      refine bodyPost_ret (results_cell_row rfl _ _ (w.heap.size + 1) 76 (eqC (tmsE e c)) (0, 0) _ rfl sF Try.underlying76 rfl (by rw [eqC_size]; kernel_rfl)) rfl ⟨rfl, ?_⟩
      exact hbel.grown (grownBy_setRow wr _ _) hbel.size (fun g e => by cases e; omega)

theorem impl_without (e f : Nat → Int) (w : World) (he : ∀ i, 0 ≤ e i ∧ e i ≤ 250) (hf : ∀ i, 0 ≤ f i ∧ f i ≤ 250) :
    Calls Try.prog 72 #[.agg (eqC e), .agg (eqC f)] w fun r w' => r = .returned (.agg (eqC (wthE e f))) ∧ Below w.heap.size w w' := by
  have He := Lib.hid he; clear he
  have Hf := Lib.hid hf; clear hf
  have hs1 := Str.new (w.alloc (.cells (eqC e) 76)) 76 (eqC f)
  simp only [World.size_alloc] at hs1
  have Hs1 := Lib.hid hs1; clear hs1
  go_enter Try.func72, Try.ntmps72
  go_wp2_with (refine wpList_load_row rfl 76 _ rfl (w.heap.size + 1) rfl 76 (eqC f) (0, 0) _ (Hs1.out.alloc _) Try.underlying76 rfl (by rw [eqC_size]; kernel_rfl) ?_)
  rw [← zero20]
  go_loopw [8] (fun i wr => ∃ k : Nat, k ≤ 20 ∧ i = .int .i64 k ∧ Str wr w.heap.size 76 (eqC fun j => if j < k then wthE e f j else e j) ∧ Str wr (w.heap.size + 1 + 1) 76 (eqC fun _ => 0) ∧ Below w.heap.size w wr) (fun i _ => 20 - (intOf i).toNat)
  case atStart =>
    have h2 := Str.new ((w.alloc (.cells (eqC e) 76)).alloc (.cells (eqC f) 76)) 76 (eqC fun _ => 0)
    simp only [World.size_alloc] at h2
    exact ⟨0, by omega, rfl, by simpa using ((Str.new w 76 (eqC e)).alloc _).alloc _, h2, (((Below.refl _ w).alloc (Nat.le_refl _) _).alloc (by simp) _).alloc (by simp; omega) _⟩
  case round =>
    obtain ⟨k, hk, rfl, s0, s1, hbel⟩ := hrel
    by_cases hlt : k < 20
    · have hlt' : (k : Int) < 20 := by omega
      have hx := fun w => run_index_arr (P := Try.prog) (cs := eqC f) Try.underlying76 Try.underlying3 rfl (by kernel_rfl) hlt (eqC_get hlt) w
      have hxa := fun w' => run_indexAt_arr (P := Try.prog) (B := w.heap.size) (o := 0) Try.underlying76 (s := 1) (by kernel_rfl) hlt w'
      simp only [Nat.zero_add, Nat.mul_one] at hxa
      have hcell := s0.cell k (v := .int .i64 (e k)) (by rw [eqC_get hlt]; simp)
      have hfr := s0.frozen k
      have hy := He.out k
      have hz := Hf.out k
      have ht := Lib.hid (show (e k + 251 - f k) % 251 = wthE e f k from rfl)
      generalize e k = y at *
      generalize f k = z at *
      have Hs0 := Lib.hid s0; clear s0
      have Hs1 := Lib.hid s1; clear s1
      go_wp2
      go_roundw
      case rel =>
        refine ⟨k + 1, by omega, by go_num, ?_, Hs1.out.other (by omega) k _, hbel.setCell (p := ⟨w.heap.size, k, none⟩) (Nat.le_refl _) _⟩
        have := Hs0.out.set k (.int .i64 ((y + 251 - z) % 251))
        rw [eqC_set] at this
        rw [ht.out] at this
        rw [show (eqC fun j => if j < k + 1 then wthE e f j else e j) = eqC fun i => if i = k then wthE e f k else if i < k then wthE e f i else e i from eqC_congr fun i _ => by
          by_cases h1 : i = k
          · subst h1; simp
          · by_cases h2 : i < k
            · simp [h1, h2, show i < k + 1 by omega]
            · simp [h1, h2, show ¬ i < k + 1 by omega]]
        rw [ht.out]
        exact this
      case measure => simp [intOf]; omega
    · have hk20 : k = 20 := by omega
      subst hk20
      rw [show (eqC fun j => if j < 20 then wthE e f j else e j) = eqC (wthE e f) from eqC_congr fun i hi => by simp [hi]] at s0
      go_wp2_with (first
        | refine wpList_load_row rfl 76 _ rfl w.heap.size rfl 76 (eqC (wthE e f)) (0, 0) _ s0 Try.underlying76 rfl (by rw [eqC_size]; kernel_rfl) ?_
        | refine wpList_store_row rfl 76 _ _ rfl (w.heap.size + 1 + 1) (eqC (wthE e f)) rfl rfl 76 (eqC fun _ => 0) s1 (by rw [eqC_size]; kernel_rfl) (by rw [eqC_size, eqC_size]) (eqC_one _) ?_)
      have sF := setRow_str s1 (eqC (wthE e f))
      refine bodyPost_ret (results_cell_row rfl _ _ (w.heap.size + 1 + 1) 76 (eqC (wthE e f)) (0, 0) _ rfl sF Try.underlying76 rfl (by rw [eqC_size]; kernel_rfl)) rfl ⟨rfl, ?_⟩
      exact hbel.grown (grownBy_setRow wr _ _) hbel.size (fun g e => by cases e; omega)

end Go.Proofs.Ytkndndcjchlpdab
