/- A list of votes in memory of its own, cell by cell; an append to it at an operation; general steps, nothing here speaks of the program but the type of votes. -/
import Derived.Test.YtkndndcjchlpdaaRows
import Derived.Test.YtkndndcjchlpdaaVm4
import Derived.Maps.AppendAt
namespace Go.Proofs.Ytkndndcjchlpdaa
open Go.RowKit

def flV (es : List Vt) : List Value := es.flatMap encV
theorem flV_len (es : List Vt) : (flV es).length = es.length * 3 := by
  unfold flV
  induction es with
  | nil => rfl
  | cons x es ih => rw [List.flatMap_cons, List.length_append, ih]; simp [encV]; omega
theorem flV_app (es es2 : List Vt) : flV (es ++ es2) = flV es ++ flV es2 := by unfold flV; rw [List.flatMap_append]
theorem flV_at : ∀ (es : List Vt) (k j : Nat) (hk : k < es.length) (_ : j < 3), (flV es)[k * 3 + j]? = (encV es[k])[j]?
  | x :: es, 0, j, _, hj => by
    unfold flV
    rw [List.flatMap_cons, List.getElem?_append_left (by simp [encV]; omega)]
    simp
  | x :: es, k + 1, j, hk, hj => by
    have hk' : k < es.length := by simpa using hk
    have ih := flV_at es k j hk' hj
    unfold flV at *
    rw [List.flatMap_cons, List.getElem?_append_right (by simp [encV]; omega)]
    rw [show (k + 1) * 3 + j - (encV x).length = k * 3 + j by simp [encV]; omega, ih]
    simp
theorem flV_one {es : List Vt} {p : Nat} {c : Value} (h : (flV es)[p]? = some c) : ∃ x, c = .int .i64 x := by
  have hp : p < es.length * 3 := by rw [← flV_len]; exact (List.getElem?_eq_some_iff.1 h).1
  have hk : p / 3 < es.length := by omega
  rw [show p = p / 3 * 3 + p % 3 by omega, flV_at es (p / 3) (p % 3) hk (by omega)] at h
  have h3 : p % 3 < 3 := by omega
  match hm : p % 3, h3 with
  | 0, _ => rw [hm] at h; exact ⟨_, by simpa [encV] using h.symm⟩
  | 1, _ => rw [hm] at h; exact ⟨_, by simpa [encV] using h.symm⟩
  | 2, _ => rw [hm] at h; exact ⟨_, by simpa [encV] using h.symm⟩
/-- v owns the votes es, in a block from B on. -/
def OwnV (E : TypeId) (w : World) (B : Nat) (v : Value) (es : List Vt) : Prop := w.ownsRow B E 3 v es.length (flV es)
theorem OwnV.lt {E : TypeId} {w : World} {B : Nat} {v : Value} {es : List Vt} (h : OwnV E w B v es) : ∀ g, v.ownBlock = some g → B ≤ g ∧ g < w.heap.size := World.ownsRow.lt h
theorem OwnV.slice {E : TypeId} {w : World} {B : Nat} {v : Value} {es : List Vt} (h : OwnV E w B v es) : ∃ a c, v = .slice a es.length c := by
  rcases h.2 with ⟨rfl, h0⟩ | ⟨g, cap, cur, rfl, _⟩
  · exact ⟨none, 0, by rw [h0]⟩
  · exact ⟨_, _, rfl⟩
theorem OwnV.kept {E : TypeId} {w w' : World} {B : Nat} {v : Value} {es : List Vt} (h : OwnV E w B v es) (hb : ∀ g, v.ownBlock = some g → w'.heap[g]? = w.heap[g]?) : OwnV E w' B v es := row_same h hb
theorem OwnV.below {E : TypeId} {w w' : World} {B : Nat} {v : Value} {es : List Vt} (h : OwnV E w B v es) (hb : Below w.heap.size w w') : OwnV E w' B v es := h.kept fun g e => hb.block g (h.lt g e).2
theorem OwnV.empty (E : TypeId) (w : World) : OwnV E (w.alloc (.cells #[] E)) w.heap.size (.slice (some ⟨w.heap.size, 0, none⟩) 0 0) [] :=
  ⟨rfl, .inr ⟨w.heap.size, 0, #[], rfl, Nat.le_refl _, Str.new w E #[], Nat.le_refl _, Nat.zero_le _, rfl, rfl⟩⟩
theorem OwnV.ownR {E Ei : TypeId} {w : World} {B hi : Nat} {v : Value} {es : List Vt} (h : OwnV E w B v es) (hh : w.heap.size ≤ hi) : OwnR E Ei 3 w B hi v (es.map Vt.fd) := by
  have hn : ∀ (p : Nat) c, (flV es)[p]? = some c → c.ownBlock = none := fun p c hc => by obtain ⟨x, rfl⟩ := flV_one hc; rfl
  refine ⟨fun e he => by obtain ⟨x, _, rfl⟩ := List.mem_map.1 he; rfl, flV es, by rw [List.length_map]; exact h, fun k j hk hj => ?_, ?_, ?_, ?_, fun g e => Nat.lt_of_lt_of_le (h.lt g e).2 hh⟩
  · have hk' : k < es.length := by simpa using hk
    have he : (es.map Vt.fd)[k] = es[k].fd := by simp
    have hj' : j < 3 := by rw [he] at hj; simpa [Vt.fd] using hj
    rw [flV_at es k j hk' hj']
    match j, hj' with
    | 0, _ => exact ⟨_, rfl, by simp only [he]; rfl⟩
    | 1, _ => exact ⟨_, rfl, by simp only [he]; rfl⟩
    | 2, _ => exact ⟨_, rfl, by simp only [he]; rfl⟩
  · intro p q c d hc _ _ g e; rw [hn p c hc] at e; cases e
  · intro p c hc g e; rw [hn p c hc] at e; cases e
  · intro p c g hc e; rw [hn p c hc] at e; cases e
/-- The votes' cells from this place on. -/
def SrcV (w : World) (ad : Addr) (es : List Vt) : Prop := ∀ (j : Nat) u, (flV es)[j]? = some u → w.cell? (ad.add j) = some u
theorem SrcV.below {w w' : World} {ad : Addr} {es : List Vt} (h : SrcV w ad es) (hb : Below w.heap.size w w') : SrcV w' ad es := fun j u hj => below_cell hb (h j u hj)
theorem SrcV.of {w : World} {b off : Nat} {es : List Vt} (h : ∀ k (hk : k < es.length), w.cell? ⟨b, off + k * 3, none⟩ = some (.int .i64 es[k].r) ∧ w.cell? ⟨b, off + k * 3 + 1, none⟩ = some (.int .i64 es[k].a) ∧ w.cell? ⟨b, off + k * 3 + 2, none⟩ = some (.int .i64 es[k].d)) : SrcV w ⟨b, off, none⟩ es := by
  intro p u hp
  have hpl : p < es.length * 3 := by rw [← flV_len]; exact (List.getElem?_eq_some_iff.1 hp).1
  have hk : p / 3 < es.length := by omega
  have e1 : p = p / 3 * 3 + p % 3 := by omega
  rw [e1, flV_at es (p / 3) (p % 3) hk (by omega)] at hp
  rw [addr_add']
  simp only [show (⟨b, off + p, none⟩ : Addr) = ⟨b, off + p / 3 * 3 + p % 3, none⟩ by congr 1; omega]
  obtain ⟨h0, h1, h2⟩ := h (p / 3) hk
  have h3 : p % 3 < 3 := by omega
  match hm : p % 3, h3 with
  | 0, _ => rw [hm] at hp; rw [show off + p / 3 * 3 + 0 = off + p / 3 * 3 from rfl, h0]; simpa [encV] using hp
  | 1, _ => rw [hm] at hp; rw [h1]; simpa [encV] using hp
  | 2, _ => rw [hm] at hp; rw [h2]; simpa [encV] using hp
theorem SrcV.drop {w : World} {b off : Nat} {es : List Vt} (h : SrcV w ⟨b, off, none⟩ es) (k : Nat) : SrcV w ⟨b, off + k * 3, none⟩ (es.drop k) := by
  intro p u hp
  have hd : flV (es.drop k) = (flV es).drop (k * 3) := by
    by_cases hk : k ≤ es.length
    · have h1 := flV_app (es.take k) (es.drop k)
      rw [List.take_append_drop] at h1
      rw [h1, List.drop_append_of_le_length (by rw [flV_len, List.length_take]; omega), show (flV (es.take k)).drop (k * 3) = [] from List.drop_of_length_le (by rw [flV_len, List.length_take]; omega)]
      rfl
    · rw [List.drop_of_length_le (by omega), List.drop_of_length_le (by rw [flV_len]; omega)]; rfl
  rw [hd, List.getElem?_drop] at hp
  have := h _ _ hp
  rw [addr_add'] at this ⊢
  rw [← this]
  congr 2
  omega
theorem SrcV.take {w : World} {ad : Addr} {es : List Vt} (h : SrcV w ad es) (k : Nat) : SrcV w ad (es.take k) := by
  intro p u hp
  have h1 := flV_app (es.take k) (es.drop k)
  rw [List.take_append_drop] at h1
  refine h p u ?_
  rw [h1, List.getElem?_append_left (List.getElem?_eq_some_iff.1 hp).1]
  exact hp

/-- 'append(s, t...)' at an operation: s is the call's own, the votes of t lie at ad. -/
theorem op_app_V {w : World} {o : Oper} {a : Act} {K : Act → World → Prop} {Q : Exit → Act → World → Prop} (s x : Operand) (ho : o.op = .call { callee := .builtin .append, args := #[s, x], argTypes := #[23, 23] }) (B : Nat) (v : Value) (es es2 : List Vt) (ad : Option Addr) (c : Nat)
    (hs : a.eval s = v) (hb : OwnV 27 w B v es) (hx : a.eval x = .slice ad es2.length c) (hsrc : (ad = none ∧ es2 = [] ∧ c = 0) ∨ ∃ q, ad = some q ∧ SrcV w q es2) (hlen : es.length + es2.length ≤ 1048576) (hB : B ≤ w.heap.size)
    (h : ∀ v' w', OwnV 27 w' B v' (es ++ es2) → w.grownBy w' v.ownBlock → (∀ g, v'.ownBlock = some g → v.ownBlock = some g ∨ w.heap.size ≤ g) → K (a.put o.dst v') w') : Oper.wp Try.prog o a w K Q := by
  obtain ⟨i, hi, hz, hsz, hbb⟩ := info_parts vote_inf
  have run : ∃ v' w', (Builtin.append_ #[23, 23] o.type #[v, .slice ad es2.length c]).run Try.prog w = .ok v' w' ∧ OwnV 27 w' B v' (es ++ es2) ∧ w.grownBy w' v.ownBlock ∧ (v'.ownBlock = v.ownBlock ∨ v'.ownBlock = some w.heap.size) := by
    rcases hsrc with ⟨rfl, rfl, rfl⟩ | ⟨q, rfl, hq⟩
    · exact ⟨v, w, run_append_owned_none (P := Try.prog) (w := w) B 23 o.type 27 i 3 Try.underlying23 hi v es.length _ hb, by simpa using hb, World.grownBy.refl _ _, .inl rfl⟩
    · obtain ⟨v', w', h1, h2, h3, _, h4⟩ := run_append_own_at (P := Try.prog) w B 23 o.type 27 i _ 3 24 Try.underlying23 hi hz hsz hbb rfl (by decide) v es.length _ hb q es2.length c (flV es2) (flV_len es2) hq (fun u hu => by obtain ⟨p, hp⟩ := List.getElem?_of_mem hu; obtain ⟨x, rfl⟩ := flV_one hp; rfl) (by unfold maxLen; omega) (by omega) hB
      exact ⟨v', w', h1, by unfold OwnV; rw [List.length_append, flV_app]; exact h2, h3, h4⟩
  obtain ⟨v', w', hrun, h1, hg, h4⟩ := run
  unfold Oper.wp execOp
  simp only [ho, resolve, invoke, builtin, Sem.run_bind, Sem.run_pure, Result.andThen_ok, List.map_toArray, List.map_cons, List.map_nil, hs, hx, hrun]
  exact h v' w' h1 hg fun g e => by
    rcases h4 with h4 | h4
    · exact .inl (by rw [← h4]; exact e)
    · rw [h4] at e; cases e; exact .inr (Nat.le_refl _)

end Go.Proofs.Ytkndndcjchlpdaa
