/- The reference's signing of a vote, by walks of its text; condition: the voter and the vote are valid where the text asks it. -/
import Derived.Test.YtkndndcjchlpdaaRows
import Derived.Test.YtkndndcjchlpdaaVa1
import Derived.Test.YtkndndcjchlpdaaVq1
import Derived.Test.YtkndndcjchlpdaaVt2
import Derived.Test.YtkndndcjchlpdaaTwo
import Derived.Deep.QuietTactic
import Derived.BigQuiet
namespace Go.Proofs.Ytkndndcjchlpdaa
open Go.RowKit

theorem upto_take {g : List Vt} {k : Nat} {p : Vt → Prop} (hk : k < g.length) (h : ∀ x ∈ g.take k, p x) (h' : p g[k]) : ∀ x ∈ g.take (k + 1), p x := by
  intro x hx
  rw [List.take_succ_eq_append_getElem hk, List.mem_append] at hx
  rcases hx with hx | hx
  · exact h x hx
  · rw [List.mem_singleton] at hx; rw [hx]; exact h'
theorem low_at {g : List Vt} {v : Vt} {k : Nat} (h : ∀ x ∈ g.take k, vbefB x v = true) (h' : ∀ hk : k < g.length, vbefB g[k] v = false) : lowV g v = g.take k ∧ upV g v = g.drop k := by
  have h2 : (g.drop k).takeWhile (fun u => vbefB u v) = [] ∧ (g.drop k).dropWhile (fun u => vbefB u v) = g.drop k := by
    by_cases hk : k < g.length
    · rw [List.drop_eq_getElem_cons hk]
      exact ⟨List.takeWhile_cons_of_neg (by rw [h' hk]; simp), List.dropWhile_cons_of_neg (by rw [h' hk]; simp)⟩
    · rw [List.drop_of_length_le (by omega)]; exact ⟨rfl, rfl⟩
  have e := List.take_append_drop k g
  unfold lowV upV
  constructor
  · rw [show g.takeWhile (fun u => vbefB u v) = (g.take k ++ g.drop k).takeWhile (fun u => vbefB u v) by rw [e], List.takeWhile_append_of_pos h, h2.1, List.append_nil]
  · rw [show g.dropWhile (fun u => vbefB u v) = (g.take k ++ g.drop k).dropWhile (fun u => vbefB u v) by rw [e], List.dropWhile_append_of_pos h, h2.2]
theorem sign_at_hit (f : Int) {g : List Vt} {v : Vt} {k : Nat} (hk : k < g.length) (h : ∀ x ∈ g.take k, vbefB x v = true) (h1 : vbefB g[k] v = false) (h2 : vbefB v g[k] = false) : signG f g v = g ∧ signB f g v = decide (g[k].d = v.d) := by
  have hu := (low_at h fun _ => h1).2
  have hh : hitV g v = some g[k] := by unfold hitV; rw [hu, List.drop_eq_getElem_cons hk]; simp [h2]
  exact ⟨by unfold signG; rw [hh], by unfold signB; rw [hh]⟩
theorem sign_at_no (f : Int) {g : List Vt} {v : Vt} {k : Nat} (_ : k ≤ g.length) (h : ∀ x ∈ g.take k, vbefB x v = true) (h' : ∀ hk : k < g.length, vbefB g[k] v = false ∧ vbefB v g[k] = true) :
    signG f g v = (if v.r < f ∨ 40 ≤ g.length then g else g.take k ++ v :: g.drop k) ∧ signB f g v = !(decide (v.r < f) || decide (40 ≤ g.length)) := by
  obtain ⟨hl, hu⟩ := low_at h fun hk => (h' hk).1
  have hh : hitV g v = none := by
    unfold hitV
    by_cases hk : k < g.length
    · rw [hu, List.drop_eq_getElem_cons hk]; simp [(h' hk).2]
    · rw [hu, List.drop_of_length_le (by omega)]
  exact ⟨by unfold signG; rw [hh, hl, hu], by unfold signB; rw [hh]⟩
theorem set1 {w : World} {B j : Nat} {v : Value} {q : Nat} (hq : q < w.heap.size) (hne : q ≠ B) : (w.setCell ⟨B, j, none⟩ v).heap[q]? = w.heap[q]? := (grownBy_set _ B j v).block q hq (by simpa using hne)
theorem set2 {w : World} {B j j' : Nat} {v v' : Value} {q : Nat} (hq : q < w.heap.size) (hne : q ≠ B) : ((w.setCell ⟨B, j, none⟩ v).setCell ⟨B, j', none⟩ v').heap[q]? = w.heap[q]? :=
  ((grownBy_set _ B j' v').block q (by simpa using hq) (by simpa using hne)).trans ((grownBy_set _ B j v).block q hq (by simpa using hne))
theorem vts_cap {w : World} {g : List Vt} {va : Option Addr} {vc : Nat} {fp : List Nat} (h : Vts w g (.slice va g.length vc) fp) : g.length ≤ vc := by
  have h' : Rd w (rowsD (g.map Vt.fd)) (.slice va g.length vc) fp := h
  rcases Rd.list h' with ⟨a, cap, ⟨e, hc⟩ | ⟨e, _⟩⟩
  · injection e with _ _ e3; rw [e3]; simpa using hc
  · have : g = [] := by simpa using e
    subst this; exact Nat.zero_le _
/-- A list of votes as the source of an append. -/
def VSrc (w : World) (va : Option Addr) (vc : Nat) (g : List Vt) : Prop := (va = none ∧ g = [] ∧ vc = 0) ∨ ∃ q, va = some q ∧ SrcV w q g
theorem VSrc.below {w w' : World} {va : Option Addr} {vc : Nat} {g : List Vt} (h : VSrc w va vc g) (hb : Below w.heap.size w w') : VSrc w' va vc g := h.imp id fun ⟨q, e, hq⟩ => ⟨q, e, hq.below hb⟩
theorem vsrc_of {w : World} {va : Option Addr} {vc : Nat} {g : List Vt} {fp : List Nat} (h : Vts w g (.slice va g.length vc) fp) : VSrc w va vc g := by
  by_cases h0 : g = []
  · subst h0
    cases va with
    | some q => exact .inr ⟨q, rfl, fun j u hj => by simp [flV] at hj⟩
    | none =>
      refine .inl ⟨rfl, rfl, ?_⟩
      have h' : Rd w (rowsD []) (.slice none 0 vc) fp := h
      cases h' with
      | nil a cap hn => exact hn rfl
  · obtain ⟨b, off, rfl, _, hat⟩ := h.at (List.length_pos_iff.2 h0)
    exact .inr ⟨_, rfl, SrcV.of hat⟩
theorem SrcV.dropA {w : World} {q : Addr} {es : List Vt} (h : SrcV w q es) (k : Nat) : SrcV w (q.add (k * 3)) (es.drop k) := by
  intro p u hp
  by_cases hk : k ≤ es.length
  · have h1 := flV_app (es.take k) (es.drop k)
    rw [List.take_append_drop] at h1
    have hd : flV (es.drop k) = (flV es).drop (k * 3) := by
      rw [h1, List.drop_append_of_le_length (by rw [flV_len, List.length_take]; omega), show (flV (es.take k)).drop (k * 3) = [] from List.drop_of_length_le (by rw [flV_len, List.length_take]; omega)]
      rfl
    rw [hd, List.getElem?_drop] at hp
    have := h _ _ hp
    rw [← this]
    simp only [Addr.add]
    by_cases e1 : k * 3 = 0 <;> by_cases e2 : p = 0 <;> simp [e1, e2, Nat.add_assoc]
  · rw [List.drop_of_length_le (by omega)] at hp; simp [flV] at hp
theorem SrcV.nil {w : World} {q : Addr} : SrcV w q [] := fun j u hj => by simp [flV] at hj
theorem vsrc_parts {w : World} {va : Option Addr} {vc : Nat} {g : List Vt} (h : VSrc w va vc g) (hc : g.length ≤ vc) {k : Nat} (hk : k ≤ g.length) :
    VSrc w va vc (g.take k) ∧ VSrc w (if vc = k then va else va.map (·.add (k * 3))) (vc - k) (g.drop k) := by
  rcases h with ⟨rfl, rfl, rfl⟩ | ⟨q, rfl, hq⟩
  · exact ⟨.inl ⟨rfl, by simp, rfl⟩, .inl ⟨by split <;> rfl, by simp, by simp⟩⟩
  · refine ⟨.inr ⟨q, rfl, hq.take k⟩, ?_⟩
    by_cases e : vc = k
    · rw [if_pos e, List.drop_of_length_le (by omega)]; exact .inr ⟨q, rfl, SrcV.nil⟩
    · rw [if_neg e]; exact .inr ⟨_, rfl, hq.dropA k⟩
theorem srcV_one {w : World} {B : Nat} {E : TypeId} {r a d : Int} (h : Str w B E #[.int .i64 r, .int .i64 a, .int .i64 d]) : SrcV w ⟨B, 0, none⟩ [(⟨r, a, d⟩ : Vt)] := by
  intro p u hp
  rw [addr_add']
  simp only [Nat.zero_add]
  match p with
  | 0 | 1 | 2 => exact h.cell _ (by simpa [flV, encV] using hp)
  | n + 3 => simp [flV, encV] at hp
theorem VSrc.parts {w : World} {va : Option Addr} {vc : Nat} {g : List Vt} (h : VSrc w va vc g) (hc : g.length ≤ vc) {k : Nat} (hk : k ≤ g.length) :
    (∀ W, (Instr.slice 23 (.slice va g.length vc) none (some (.int .i64 k)) none).run Try.prog W = .ok (.slice va (g.take k).length vc) W) ∧ VSrc w va vc (g.take k) ∧
    ∃ ad ac, (∀ W, (Instr.slice 23 (.slice va g.length vc) (some (.int .i64 k)) none none).run Try.prog W = .ok (.slice ad (g.drop k).length ac) W) ∧ VSrc w ad ac (g.drop k) := by
  obtain ⟨h1, h2⟩ := vsrc_parts h hc hk
  have ht : Try.prog.underlying 23 = some (.slice (Try.prog.elem 23)) := by kernel_rfl
  have hs : ∀ W, (sizeOf (Try.prog.elem 23)).run Try.prog W = .ok 3 W := fun W => by kernel_rfl
  refine ⟨fun W => ?_, h1, _, _, fun W => ?_, h2⟩
  · rw [run_slice_h (ht := ht) (h0 := by omega) (h2 := by omega), hs]
    simp only [Result.andThen, sliced, Int.toNat_natCast, List.length_take, Nat.min_eq_left hk, Nat.sub_zero]
    have e : (if vc = 0 then va else va.map (·.add (0 * 3))) = va := by
      split
      · rfl
      · cases va <;> simp [Addr.add]
    rw [e]
  · rw [run_slice_l (ht := ht) (h0 := by omega) (h1 := by omega), hs]
    simp only [Result.andThen, sliced, Int.toNat_natCast, List.length_drop]

end Go.Proofs.Ytkndndcjchlpdaa
