/- What slices.Collect answers over the levels of a tree, by a walk of its text: a slice of its own whose elements read as the levels; conditions: the leaves are between one and sixteen digests and lie below a given block. -/
import Derived.Test.YtgkelcpiokmhfaaK2
import Derived.Maps.AppendAt
namespace Go.Proofs.Ytgkelcpiokmhfaa
open Go.RowKit Go.Shelf
attribute [local go_sem] Oper.semAt_some

/-- The values are slices that read as the lists; each lies below nA or from N1 on, and not in blk. -/
def EntsAt (W : World) (nA N1 : Nat) (blk : Option Nat) (vs : List Value) (T : List (List Int)) : Prop :=
  vs.length = T.length ∧ ∀ k (h : k < T.length), ∃ a c, vs[k]? = some (.slice a (T[k]).length c) ∧ IntsAt W a T[k] ∧ ∀ b, a = some b → (b.block < nA ∨ N1 ≤ b.block) ∧ b.block < W.heap.size ∧ blk ≠ some b.block
theorem EntsAt.nil (W : World) (nA N1 : Nat) (blk : Option Nat) : EntsAt W nA N1 blk [] [] := ⟨rfl, fun k h => by simp at h⟩
theorem EntsAt.step {W W' : World} {nA N1 : Nat} {blk blk' row : Option Nat} {vs : List Value} {T : List (List Int)} (h : EntsAt W nA N1 blk vs T) (hg : W.grownBy W' row)
    (hrow : ∀ r, row = some r → (nA ≤ r ∧ r < N1) ∨ blk = some r) (hb : ∀ g, blk' = some g → blk = some g ∨ W.heap.size ≤ g) : EntsAt W' nA N1 blk' vs T := by
  refine ⟨h.1, fun k hk => ?_⟩
  obtain ⟨a, c, hv, hi, hbb⟩ := h.2 k hk
  refine ⟨a, c, hv, hi.grown hg fun b e e' => ?_, fun b e => ?_⟩
  · obtain ⟨h1, h2, h3⟩ := hbb b e
    rcases hrow _ e' with h | h
    · omega
    · exact h3 h
  · obtain ⟨h1, h2, h3⟩ := hbb b e
    refine ⟨h1, Nat.lt_of_lt_of_le h2 hg.size, fun e' => ?_⟩
    rcases hb _ e' with h | h
    · exact h3 h
    · omega
theorem EntsAt.snoc {W : World} {nA N1 : Nat} {blk : Option Nat} {vs : List Value} {T : List (List Int)} {a : Option Addr} {c : Nat} {x : List Int} (h : EntsAt W nA N1 blk vs T) (hi : IntsAt W a x)
    (hb : ∀ b, a = some b → (b.block < nA ∨ N1 ≤ b.block) ∧ b.block < W.heap.size ∧ blk ≠ some b.block) : EntsAt W nA N1 blk (vs ++ [.slice a x.length c]) (T ++ [x]) := by
  refine ⟨by simp [h.1], fun k hk => ?_⟩
  by_cases e : k < T.length
  · obtain ⟨a', c', hv, hi', hb'⟩ := h.2 k e
    have hT : (T ++ [x])[k] = T[k] := List.getElem_append_left e
    rw [hT]
    exact ⟨a', c', by rw [List.getElem?_append_left (by rw [h.1]; exact e)]; exact hv, hi', hb'⟩
  · have : k = T.length := by simp at hk; omega
    subst this
    have hT : (T ++ [x])[T.length] = x := by simp
    rw [hT]
    exact ⟨a, c, by rw [← h.1]; simp, hi, hb⟩

/-- The tree that a row of its own holds. -/
theorem tree_at {w : World} {B E g n m c nA N1 : Nat} {blk : Option Nat} {vs : List Value} {T : List (List Int)} (hrow : w.ownsRow B E 1 (.slice (some ⟨g, 0, none⟩) m c) n vs) (hent : EntsAt w nA N1 blk vs T) :
    ∀ k (h : k < T.length), ∃ a c', w.cell? ⟨g, k, none⟩ = some (.slice a (T[k]).length c') ∧ IntsAt w a T[k] ∧ ∀ b, a = some b → (b.block < nA ∨ N1 ≤ b.block) ∧ b.block < w.heap.size := by
  intro k hk
  obtain ⟨a, c', hv, hi, hb⟩ := hent.2 k hk
  have := World.ownsRow.cells hrow (g := g) rfl k _ hv
  rw [addr_add] at this
  exact ⟨a, c', this, hi, fun b e => ⟨(hb b e).1, (hb b e).2.1⟩⟩

/-- 'append(s, z)' in a round, and where the new slice lies. -/
theorem wpListIn_push_at {F : Fence} {n : Nat} {P : Program} {T E : TypeId} {z0 : Value} {bytes : Nat} (hsl : P.underlying T = some (.slice E)) (hinf : (P.info? E).map (fun i => (i.zero, i.size, i.bytes)) = some (some z0, 1, bytes)) (hz0 : z0.cells.size = 1) {w : World} {ops : Array Oper} {rest : List Oper} {o : Oper} {a : Act} {Q : Exit → Act → World → Prop} (hgd : o.guard = none) (s x : Operand)
    (ho : o.op = .call { callee := .builtin .append, args := #[s, x], argTypes := #[T, T] }) (B : Nat) (v z : Value) (xs : List Value) (k : Nat) (hz : z.oneCell' = true) (hs : a.eval s = v) (hown : w.ownsRow B E 1 v k xs)
    (hlen : k + 1 ≤ maxLen) (hby : (k + 1) * bytes ≤ 140737488355328) (hx : a.eval x = .slice (some ⟨w.heap.size, 0, none⟩) 1 1) (hB : B ≤ w.heap.size)
    (h : ∀ v' w', w'.ownsRow B E 1 v' (k + 1) (xs ++ [z]) → (w.alloc (.cells #[z] E)).grownBy w' v.ownBlock → (∀ g, v'.ownBlock = some g → v.ownBlock = some g ∨ w.heap.size ≤ g) → wpListIn F n P ops Q rest (a.put o.dst v') w') : wpListIn F n P ops Q (o :: rest) a (w.alloc (.cells #[z] E)) := by
  refine wpListIn_plain hgd fun K hK => ?_
  obtain ⟨i, hi, hzz, hsz, hbb⟩ := info_parts hinf
  obtain ⟨v', w', hr, h1, h2, _, h4⟩ := run_append_own_at (P := P) (w.alloc (.cells #[z] E)) B T o.type E i z0 1 bytes hsl hi hzz hsz hbb hz0 (by decide) v k _ (World.ownsRow.alloc hown _) ⟨w.heap.size, 0, none⟩ 1 1 [z] rfl
    (fun j u hu => by
      match j, hu with
      | 0, hu => simp at hu; subst hu; rw [addr_add, World.cell?_alloc_at _ _ _ _ rfl]; rfl) (by intro u hu; simp at hu; subst hu; exact hz) hlen hby (by simp; omega)
  unfold Oper.wpIn
  refine ⟨?_, ?_⟩
  · simp [Oper.about, ho, resolve, Target.leads, Sem.run_pure]
  · rw [Oper.semAt_plain F _ _ (by rw [ho]; intro c hc'; cases hc')]
    simp [execOp, ho, resolve, invoke, builtin, hs, hx, hr, Result.andThen]
    refine hK _ _ (h v' w' h1 h2 fun g e => ?_)
    rcases h4 with h4 | h4
    · exact .inl (by rw [← h4]; exact e)
    · rw [h4] at e; cases e; exact .inr (by simp)

theorem tt_info : (Try.prog.info? 30).map (fun i => (i.zero, i.size, i.bytes)) = some (some (.slice none 0 0), 1, 24) := by kernel_rfl
theorem lib_AppendSeq (Bl nA : Nat) (a0 : Option Addr) (c0 : Nat) (l : List Int) (h1 : 1 ≤ l.length) (h16 : l.length ≤ 16) (hd : ∀ x ∈ l, digB x = true) (hlt : ∀ b, a0 = some b → b.block < nA) (hc0 : l.length ≤ c0) (w : World) (hnA : nA ≤ w.heap.size)
    (hBl : Bl < w.heap.size) (hcl : w.cell? ⟨Bl, 0, none⟩ = some (.slice a0 l.length c0)) (hi : IntsAt w a0 l) :
    Calls Try.prog 43 #[.slice none 0 0, .func (.func 44) #[] #[.pointer (some ⟨Bl, 0, none⟩)]] w fun e w' =>
      ∃ v vs N1, e = .returned v ∧ w'.ownsRow w.heap.size 30 1 v (lvlsF 4 l).length vs ∧ EntsAt w' nA N1 v.ownBlock vs (lvlsF 4 l) ∧ w.heap.size ≤ N1 ∧ Below w.heap.size w w' := by
  have HT := Lib.hid (lvlsF_len 4 l)
  refine (callsIn_wide (n := 3)).1 ?_
  refine callsIn_of_wp_marks Try.func43 rfl trivial ?_ rfl
  simp only [Try.ntmps43, List.size_toArray, List.length_cons, List.length_nil, Nat.reduceAdd, Nat.reduceSub, Array.replicate_succ, Array.replicate_zero, List.push_toArray, List.append_toArray, List.nil_append, List.cons_append]
  gi_wp2
  obtain ⟨w1, hw1⟩ : ∃ w1, w.alloc (.cells #[.slice none 0 0] 46) = w1 := ⟨_, rfl⟩
  have hz1 : w1.heap.size = w.heap.size + 1 := by rw [← hw1]; simp
  have hr1 : Boxed w1 w.heap.size 46 (.slice none 0 0) := by rw [← hw1]; exact Boxed.new _ _ _
  have hb1 : Below w.heap.size w w1 := by rw [← hw1]; exact (Below.refl _ w).alloc (Nat.le_refl _) _
  rw [hw1]
  clear hw1
  refine wpIn_over (gf := 44) (lb := #[.pointer (some ⟨Bl, 0, none⟩)]) rfl (enters_of Try.func44 (by kernel_rfl) rfl) ?_
  intro rec hrc hround
  have Hround := Lib.hid hround; clear hround
  obtain ⟨w2, hw2⟩ : ∃ w2, (w1.alloc (.deferred (some []))).alloc (rec .ready none) = w2 := ⟨_, rfl⟩
  have hz2 : w2.heap.size = w1.heap.size + 2 := by rw [← hw2]; simp
  have hD2 : w2.heap[w1.heap.size]? = some (.deferred (some [])) := by
    rw [← hw2]; exact (Below.heap_alloc _ _ _ (by simp)).trans (World.alloc_heap_new w1 _)
  have hL2 : w2.heap[w1.heap.size + 1]? = some (rec .ready none) := by
    rw [← hw2]; have := World.alloc_heap_new (w1.alloc (.deferred (some []))) (rec .ready none); rwa [World.size_alloc] at this
  have hb2 : Below w1.heap.size w1 w2 := by rw [← hw2]; exact ((Below.refl _ w1).alloc (Nat.le_refl _) _).alloc (by simp) _
  rw [hw2]
  clear hw2
  have hbw : Below w.heap.size w w2 := below_step hb1 hb1.size hb2
  refine (impl_levels1 (w1.heap.size + 1) Bl nA a0 c0 l h1 h16 hd hlt hc0
    (fun pre W => ∃ v vs, Boxed W w.heap.size 46 v ∧ W.ownsRow w.heap.size 30 1 v pre.length vs ∧ EntsAt W nA w2.heap.size v.ownBlock vs pre ∧ W.heap[w1.heap.size]? = some (.deferred (some [])) ∧ W.heap[w1.heap.size + 1]? = some (rec .ready none) ∧ Below w.heap.size w W ∧ w2.heap.size ≤ W.heap.size) ?Y w2
    ((hbw.cell (p := ⟨Bl, 0, none⟩) hBl).trans hcl) (hi.below hbw) ⟨_, [], (hb2.block _ (by omega)).trans hr1, World.ownsRow_nil _ _ _ _, EntsAt.nil _ _ _ _, hD2, hL2, hbw, Nat.le_refl _⟩).mono ?_
  case Y =>
    rintro pre x rest ax cx W0 W hpre ⟨v, vs, hbx, hrow, hent, hD, hL, hB0, hN⟩ hbel hfr hix hcx
    have hx1 : 1 ≤ x.length := lvls_some 4 l h1 x (by rw [← hpre]; simp)
    have hplen : pre.length + 1 ≤ 5 := by
      have := congrArg List.length hpre
      rw [List.length_append, List.length_cons] at this
      have := HT.out
      omega
    have hLlt := (Array.getElem?_eq_some_iff.1 hL).1
    have hbx1 : Boxed W w.heap.size 46 v := (hbel.block _ hbx.lt).trans hbx
    have hD1 := (hbel.block _ (by omega)).trans hD
    have hL1 := (hbel.block _ hLlt).trans hL
    have hB1 := below_step hB0 hB0.size hbel
    have hrl := hrow.lt
    have hrow1 : W.ownsRow w.heap.size 30 1 v pre.length vs := hrow.kept (below_grown hbel) (by cases v.ownBlock <;> simp)
    have hent1 : EntsAt W nA w2.heap.size v.ownBlock vs pre := hent.step (below_grown hbel) (fun r e => by cases e) (fun g e => .inl e)
    have hWs := hB1.size
    have hWW := hbel.size
    obtain ⟨b, off, rfl, hb, hcell⟩ := hix.cell hx1
    clear hcell
    have hbn := hfr _ rfl
    simp only at hbn
    refine Hround.out #[.slice (some ⟨b, off, none⟩) x.length cx] W _ rfl hL1 ?_
    gi_wp2
    refine ⟨hL1, ?_⟩
    have hg1 := grownBy_putObj' W (w1.heap.size + 1) (rec .busy none)
    have hsz3 : (W.putObj (w1.heap.size + 1) (rec .busy none)).heap.size = W.heap.size := World.putObj_size
    have hL3 : (W.putObj (w1.heap.size + 1) (rec .busy none)).heap[w1.heap.size + 1]? = some (rec .busy none) := World.putObj_heap_same (Array.getElem?_eq_some_iff.1 hL1).1
    have hD3 : (W.putObj (w1.heap.size + 1) (rec .busy none)).heap[w1.heap.size]? = some (.deferred (some [])) := (World.putObj_heap_other (by omega)).trans hD1
    have hbx3 : Boxed (W.putObj (w1.heap.size + 1) (rec .busy none)) w.heap.size 46 v := hbx1.kept hg1 (by simp; omega)
    have hrow3 := ownsRow_putObj hrow1 (rec .busy none) hL1 (hrc _ _)
    have hent3 := hent1.step (blk' := v.ownBlock) hg1 (fun r e => by cases e; exact .inl (by omega)) (fun g e => .inl e)
    have hix3 := hix.other hg1 (fun b' e => by cases e; simp only; omega)
    have hB3 : Below w.heap.size w (W.putObj (w1.heap.size + 1) (rec .busy none)) := hB1.grown hg1 hWs (fun k e => by cases e; omega)
    generalize W.putObj (w1.heap.size + 1) (rec .busy none) = W3 at *
    have hcb := hbx3.cell
    have hfb := hbx3.frozen
    have Hrow3 := Lib.hid hrow3; clear hrow3
    have Hrl := Lib.hid hrl; clear hrl
    have Hsz3 := Lib.hid hsz3; clear hsz3
    have hnA3 : w.heap.size ≤ W3.heap.size := by have := Hsz3.out; omega
    gi_wp2_with (gi_at_builtin; refine wpListIn_push_at Try.underlying46 tt_info rfl rfl _ _ rfl w.heap.size v (.slice (some ⟨b, off, none⟩) x.length cx) vs pre.length rfl rfl Hrow3.out (by unfold maxLen; omega) (by omega) rfl hnA3 ?_; intro v4 w4 hown4 hg4 hat4; obtain ⟨g4, c4, rfl⟩ := ownsRow_succ hown4; obtain ⟨hv1, hv2, hr2, hk2, hb2'⟩ := hbx3.appended (by decide) Hrow3.out hnA3 (Nat.le_refl _) hown4 hg4; have hc1 := hv1.cell; have hf1 := hv1.frozen)
    have hsz3 := Hsz3.out
    have hg34 : W3.grownBy w4 v.ownBlock := grownBy_trans (World.grownBy_alloc W3 _ _) hg4
    have hat5 := hat4 g4 rfl
    have hgl : ∀ g, v.ownBlock = some g → w.heap.size ≤ g ∧ g < W0.heap.size := Hrl.out
    have hs34 := hg34.size
    clear hg4
    obtain ⟨v4, hv4⟩ : ∃ v4, Value.slice (some ⟨g4, 0, none⟩) (pre.length + 1) c4 = v4 := ⟨_, rfl⟩
    have hvo : v4.ownBlock = some g4 := by rw [← hv4]; rfl
    rw [hv4] at hown4 hat4 hv2 hr2 hk2 hb2' ⊢
    clear hv4 hown4
    have hg45 := grownBy_setCell' w4 w.heap.size v4
    have hs45 := hg45.size
    have hL4 := hk2.same _ _ hL3 (hrc _ _)
    have hD4 := hk2.same _ _ hD3 rfl
    have hent4 := (hent3.step (blk' := v4.ownBlock) hg34 (fun r e => .inr e) hat4).step (blk' := v4.ownBlock) hg45 (fun r e => by cases e; exact .inl (by omega)) (fun g e => .inl e)
    have hix4 := (hix3.grown hg34 (fun b' e e' => by cases e; have := hgl _ e'; simp only at this; omega)).other hg45 (fun b' e => by cases e; simp only; omega)
    have hent5 := hent4.snoc (c := cx) hix4 (fun b' e => by
      cases e
      refine ⟨show b < nA ∨ w2.heap.size ≤ b by omega, show b < _ by omega, fun e' => ?_⟩
      rw [hvo] at e'
      have e2 : g4 = b := Option.some.inj e'
      rcases hat5 with h | h
      · have := hgl _ h; omega
      · omega)
    have hB4 := hB3.trans hb2'
    generalize w4.setCell ⟨w.heap.size, 0, none⟩ v4 = W4 at *
    have hg5 := grownBy_putObj' W4 (w1.heap.size + 1) (rec .ready none)
    have hL4lt := (Array.getElem?_eq_some_iff.1 hL4).1
    have hs5 : (W4.putObj (w1.heap.size + 1) (rec .ready none)).heap.size = W4.heap.size := World.putObj_size
    refine ⟨hL4, .inl ⟨rfl, rfl, ⟨v4, _, hv2.kept hg5 (by simp; omega), by rw [List.length_append]; exact ownsRow_putObj hr2 _ hL4 (hrc _ _), hent5.step hg5 (fun r e => by cases e; exact .inl (by omega)) (fun g e => .inl e), (World.putObj_heap_other (by omega)).trans hD4, World.putObj_heap_same hL4lt, hB4.grown hg5 hB4.size (fun k e => by cases e; omega), by omega⟩, hix4.other hg5 (fun b' e => by cases e; simp only; omega)⟩⟩
  · rintro e W ⟨hv, v, vs, hbx, hrow, hent, hD, hL, hB, hN⟩
    refine ⟨hv, .inl ⟨hL, ?_⟩⟩
    have hLlt := (Array.getElem?_eq_some_iff.1 hL).1
    have hg1 := grownBy_putObj' W (w1.heap.size + 1) (rec .exhausted none)
    have hD1 : (W.putObj (w1.heap.size + 1) (rec .exhausted none)).heap[w1.heap.size]? = some (.deferred (some [])) := (World.putObj_heap_other (by omega)).trans hD
    have hbx1 := hbx.kept hg1 (by simp; omega)
    have hrow1 := ownsRow_putObj hrow (rec .exhausted none) hL (hrc _ _)
    have hent1 := hent.step (blk' := v.ownBlock) hg1 (fun r e => by cases e; exact .inl (by omega)) (fun g e => .inl e)
    have hB1 : Below w.heap.size w (W.putObj (w1.heap.size + 1) (rec .exhausted none)) := hB.grown hg1 hB.size (fun k e => by cases e; omega)
    have hsz1 : (W.putObj (w1.heap.size + 1) (rec .exhausted none)).heap.size = W.heap.size := World.putObj_size
    generalize W.putObj (w1.heap.size + 1) (rec .exhausted none) = W3 at *
    have hcb := hbx1.cell
    have Hrow1 := Lib.hid hrow1; clear hrow1 hrow
    have Hsz1 := Lib.hid hsz1; clear hsz1
    gi_wp2
    refine ⟨by simp, .inl ⟨_, _, rfl, run_takeDeferred hD1, ?_⟩⟩
    refine ⟨_, results_tmp rfl _ _ _, v, vs, w2.heap.size, rfl, ownsRow_putObj Hrow1.out _ hD1 rfl, hent1.step (grownBy_putObj' _ _ _) (fun r e => by cases e; exact .inl (by omega)) (fun g e => .inl e), by omega, hB1.grown (grownBy_putObj' _ _ _) hB1.size (fun k e => by cases e; omega)⟩

theorem lib_Collect (Bl nA : Nat) (a0 : Option Addr) (c0 : Nat) (l : List Int) (h1 : 1 ≤ l.length) (h16 : l.length ≤ 16) (hd : ∀ x ∈ l, digB x = true) (hlt : ∀ b, a0 = some b → b.block < nA) (hc0 : l.length ≤ c0) (w : World) (hnA : nA ≤ w.heap.size)
    (hBl : Bl < w.heap.size) (hcl : w.cell? ⟨Bl, 0, none⟩ = some (.slice a0 l.length c0)) (hi : IntsAt w a0 l) :
    Calls Try.prog 34 #[.func (.func 44) #[] #[.pointer (some ⟨Bl, 0, none⟩)]] w fun e w' =>
      ∃ v vs N1, e = .returned v ∧ w'.ownsRow w.heap.size 30 1 v (lvlsF 4 l).length vs ∧ EntsAt w' nA N1 v.ownBlock vs (lvlsF 4 l) ∧ w.heap.size ≤ N1 ∧ Below w.heap.size w w' := by
  have H := Lib.hid (lib_AppendSeq Bl nA a0 c0 l h1 h16 hd hlt hc0 w hnA hBl hcl hi)
  clear hcl hi hd hlt
  go_enter Try.func34, Try.ntmps34
  go_wp2_with fail
  refine H.out.mono ?_
  rintro e w1 ⟨v, vs, N1, rfl, hrow, hent, hN, hb⟩
  have Hrow := Lib.hid hrow; clear hrow
  go_wp2
  go_ret
  exact ⟨v, vs, N1, rfl, Hrow.out, hent, hN, hb⟩

end Go.Proofs.Ytgkelcpiokmhfaa
