/- A list of rows of their own is appended to another one; general steps, nothing here speaks of the program. -/
import Derived.Test.YtejpoeejhmgphaaOwR
import Derived.Maps.AppendAt
namespace Go.Proofs.Ytejpoeejhmgphaa
open Go.RowKit

theorem FdOk.one {Ei : TypeId} {w : World} {B : Nat} {c : Value} {f : Fd} (h : FdOk Ei w B c f) : c.oneCell' = true := by
  cases f with
  | l xs =>
    obtain ⟨a, cap, rfl, _⟩ := Own.ints h
    rfl
  | i n => rw [show c = _ from h]; rfl
  | b n => rw [show c = _ from h]; rfl
  | s n => rw [show c = _ from h]; rfl

/-- 'append(s, t...)', t rows of their own that are newer than s. -/
theorem wpList_app_own {P : Program} {T E Ei : TypeId} {z0 : Value} {sz bytes : Nat} (hsl : P.underlying T = some (.slice E)) (hinf : (P.info? E).map (fun i => (i.zero, i.size, i.bytes)) = some (some z0, sz, bytes)) (hz0 : z0.cells.size = sz) (hpos : 0 < sz) (hby : bytes ≤ 1000)
    {w : World} {ops : Array Oper} {rest : List Oper} {o : Oper} {a : Act} {Q : Exit → Act → World → Prop} (hgd : o.guard = none) (s x : Operand) (ho : o.op = .call { callee := .builtin .append, args := #[s, x], argTypes := #[T, T] }) (B : Nat) (v u : Value) (es es2 : List (List Fd))
    (hs : a.eval s = v) (hi0 lo hi2 : Nat) (hb : OwnR E Ei sz w B hi0 v es) (hb2 : OwnR E Ei sz w lo hi2 u es2) (hlo : hi0 ≤ lo) (hh2 : hi2 ≤ w.heap.size) (hBlo : B ≤ lo)
    (hlen : es.length + es2.length ≤ 2097152)
    (hx : a.eval x = u) (hB : B ≤ w.heap.size)
    (h : ∀ v' w', OwnR E Ei sz w' B w'.heap.size v' (es ++ es2) → w.grownBy w' v.ownBlock → wpList P ops Q rest (a.put o.dst v') w') : wpList P ops Q (o :: rest) a w := by
  refine wpList_want (by unfold Region.wanted; rw [hgd]) fun K hK => ?_
  obtain ⟨i, hi, hz, hsz, hbb⟩ := info_parts hinf
  obtain ⟨cs, hown, hc, hcc, hcv, hch, hvh⟩ := hb.row
  obtain ⟨cs2, hown2, hc2, hcc2, hcv2, hch2, hvh2⟩ := hb2.row
  have hcl : cs.length = es.length * sz := hown.1
  have hcl2 : cs2.length = es2.length * sz := hown2.1
  have hkj : ∀ p, p < cs2.length → ∃ (k j : Nat) (hk : k < es2.length) (hj : j < (es2[k]).length), p = k * sz + j := by
    intro p hp
    have hk : p / sz < es2.length := by rw [Nat.div_lt_iff_lt_mul hpos]; omega
    refine ⟨p / sz, p % sz, hk, ?_, ?_⟩
    · rw [hb2.szs _ (List.getElem_mem hk)]; exact Nat.mod_lt _ hpos
    · rw [Nat.mul_comm]; exact (Nat.div_add_mod _ _).symm
  have hfd2 : ∀ (p : Nat) (c : Value), cs2[p]? = some c → ∃ f, FdOk Ei w lo c f := by
    intro p c hp
    obtain ⟨hpl, _⟩ := List.getElem?_eq_some_iff.1 hp
    obtain ⟨k, j, hk, hj, rfl⟩ := hkj p hpl
    obtain ⟨c', hc', hf⟩ := hc2 k j hk hj
    rw [hp] at hc'; cases hc'
    exact ⟨_, hf⟩
  have run : ∃ v' w', (Builtin.append_ #[T, T] o.type #[v, u]).run P w = .ok v' w' ∧ w'.ownsRow B E sz v' (es.length + es2.length) (cs ++ cs2) ∧ w.grownBy w' v.ownBlock ∧ (v'.ownBlock = v.ownBlock ∨ v'.ownBlock = some w.heap.size) := by
    rcases hown2.2 with ⟨rfl, h0⟩ | ⟨g, cap, cur, rfl, hg, hgc, hn, hm, hsz2, ht⟩
    · have hr := run_append_owned_none (P := P) (w := w) B T o.type E i sz hsl hi v es.length _ hown
      have : cs2 = [] := List.eq_nil_of_length_eq_zero (by rw [hcl2, h0]; simp)
      subst this
      exact ⟨v, w, hr, by rw [h0, List.append_nil]; exact hown, ⟨rfl, rfl, rfl, Nat.le_refl _, fun _ _ _ => rfl⟩, .inl rfl⟩
    · obtain ⟨v', w', h1, h2, h3, _, h4⟩ := run_append_own_at (P := P) w B T o.type E i z0 sz bytes hsl hi hz hsz hbb hz0 hpos v es.length _ hown ⟨g, 0, none⟩ es2.length cap cs2 hcl2
        (fun j u hu => by
          have := World.ownsRow.cells hown2 (g := g) rfl _ _ hu
          exact this) (fun c hc => by
          obtain ⟨p, hp⟩ := List.mem_iff_getElem?.1 hc
          obtain ⟨f, hf⟩ := hfd2 p c hp
          exact hf.one) (by unfold maxLen; omega) (by
          have := Nat.mul_le_mul hlen hby; omega) hB
      exact ⟨v', w', h1, h2, h3, h4⟩
  obtain ⟨v', w', hrun, h1, hg, h4⟩ := run
  unfold Oper.wp execOp
  simp only [ho, resolve, invoke, builtin, Sem.run_bind, Sem.run_pure, Result.andThen_ok, List.map_toArray, List.map_cons, List.map_nil, hs, hx, hrun]
  have hloc : ∀ g, v'.ownBlock = some g → v.ownBlock = some g ∨ w.heap.size ≤ g := fun g e => by
    rcases h4 with h4 | h4
    · exact .inl (by rw [← h4]; exact e)
    · rw [h4] at e; cases e; exact .inr (Nat.le_refl _)
  have hva : ∀ (p : Nat) (c : Value), cs2[p]? = some c → Apart c v := fun p c hp g e e' => by
    have := (hch2 p c g hp e).1
    have := hvh g e'
    omega
  have hmix : ∀ (p q : Nat) (c d : Value), cs2[p]? = some c → cs[q]? = some d → Apart c d := fun p q c d hp hq g e e' => by
    have := (hch2 p c g hp e).1
    have := hch q d g hq e'
    omega
  have hsame : ∀ (lo' : Nat) (c : Value) (fd : Fd), FdOk Ei w lo' c fd → Apart c v → FdOk Ei w' lo' c fd := fun lo' c fd hf ha => hf.same fun g e => hg.block g (hf.lt g e).2 fun e' => ha g e e'.symm
  have hall : ∀ (p : Nat) (c : Value), (cs ++ cs2)[p]? = some c → (cs[p]? = some c ∧ p < cs.length) ∨ (cs.length ≤ p ∧ cs2[p - cs.length]? = some c) := fun p c hp => by
    by_cases e : p < cs.length
    · rw [List.getElem?_append_left e] at hp; exact .inl ⟨hp, e⟩
    · rw [List.getElem?_append_right (by omega)] at hp; exact .inr ⟨by omega, hp⟩
  have hwv : ∀ c : Value, (∀ g, c.ownBlock = some g → g < w.heap.size) → Apart c v → Apart c v' := fun c hlt ha g hc' hv' => by
    rcases hloc g hv' with h | h
    · exact ha g hc' h
    · have := hlt g hc'; omega
  refine hK _ _ (h v' w' ⟨?_, cs ++ cs2, by rw [List.length_append]; exact h1, fun k j hk hj => ?_, fun p q c d hp hq hne => ?_, fun p c hp => ?_, fun p c g hp hg' => ?_, fun g e => (World.ownsRow.lt h1 g e).2⟩ hg)
  · intro d hd
    rcases List.mem_append.1 hd with hd | hd
    · exact hb.szs d hd
    · exact hb2.szs d hd
  · by_cases hke : k < es.length
    · have hkk : (es ++ es2)[k] = es[k] := List.getElem_append_left hke
      simp only [hkk] at hj ⊢
      obtain ⟨c, hc1, hf⟩ := hc k j hke hj
      obtain ⟨hpl, _⟩ := List.getElem?_eq_some_iff.1 hc1
      exact ⟨c, by rw [List.getElem?_append_left hpl]; exact hc1, hsame _ c _ hf (hcv _ c hc1)⟩
    · have hk2 : k - es.length < es2.length := by rw [List.length_append] at hk; omega
      have hkk : (es ++ es2)[k] = es2[k - es.length] := List.getElem_append_right (by omega)
      simp only [hkk] at hj ⊢
      obtain ⟨c, hc1, hf⟩ := hc2 (k - es.length) j hk2 hj
      have hq : k * sz + j - cs.length = (k - es.length) * sz + j := by
        rw [hcl, Nat.sub_mul]
        have := Nat.mul_le_mul_right sz (show es.length ≤ k by omega)
        omega
      have hge : cs.length ≤ k * sz + j := by
        rw [hcl]
        have := Nat.mul_le_mul_right sz (show es.length ≤ k by omega)
        omega
      refine ⟨c, by rw [List.getElem?_append_right hge, hq]; exact hc1, ?_⟩
      have hf' := hsame _ c _ hf (hva _ c hc1)
      revert hf'
      generalize (es2[k - es.length])[j] = f
      intro hf'
      cases f with
      | l xs => exact Own.mono (show Own Ei w' lo c xs from hf') hBlo
      | i n => exact hf'
      | b n => exact hf'
      | s n => exact hf'
  · rcases hall p c hp with ⟨hp, _⟩ | ⟨hpl, hp⟩
    · rcases hall q d hq with ⟨hq, _⟩ | ⟨_, hq⟩
      · exact hcc p q c d hp hq hne
      · exact (hmix _ p d c hq hp).symm
    · rcases hall q d hq with ⟨hq, _⟩ | ⟨hql, hq⟩
      · exact hmix _ q c d hp hq
      · exact hcc2 _ _ c d hp hq (by omega)
  · rcases hall p c hp with ⟨hp, _⟩ | ⟨_, hp⟩
    · refine hwv c (fun g e => ?_) (hcv p c hp)
      obtain ⟨hpl, _⟩ := List.getElem?_eq_some_iff.1 hp
      have hk : p / sz < es.length := by rw [Nat.div_lt_iff_lt_mul hpos]; omega
      obtain ⟨c', hc', hf⟩ := hc (p / sz) (p % sz) hk (by rw [hb.szs _ (List.getElem_mem hk)]; exact Nat.mod_lt _ hpos)
      rw [Nat.mul_comm, Nat.div_add_mod, hp] at hc'
      cases hc'
      exact (hf.lt g e).2
    · exact hwv c (fun g e => by have := (hch2 _ c g hp e).2; omega) (hva _ c hp)
  · have hsz' := hg.size
    rcases hall p c hp with ⟨hp, _⟩ | ⟨_, hp⟩
    · have h1 := hch p c g hp hg'
      obtain ⟨hpl, _⟩ := List.getElem?_eq_some_iff.1 hp
      have hk : p / sz < es.length := by rw [Nat.div_lt_iff_lt_mul hpos]; omega
      obtain ⟨c', hc', hf⟩ := hc (p / sz) (p % sz) hk (by rw [hb.szs _ (List.getElem_mem hk)]; exact Nat.mod_lt _ hpos)
      rw [Nat.mul_comm, Nat.div_add_mod, hp] at hc'
      cases hc'
      have := (hf.lt g hg').2
      omega
    · have := hch2 _ c g hp hg'
      omega

end Go.Proofs.Ytejpoeejhmgphaa
