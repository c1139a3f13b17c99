/- The sorted list that impl makes of a map of votes, by a walk of its text; condition: at most 2^20 votes. -/
import Derived.Test.YtkndndcjchlpdaaRows
import Derived.Test.YtkndndcjchlpdaaVm3
import Derived.Test.YtkndndcjchlpdaaVs1
import Derived.Test.YtkndndcjchlpdaaRVoter
import Derived.Deep.QuietTactic
import Derived.BigQuiet
namespace Go.Proofs.Ytkndndcjchlpdaa
open Go.RowKit

theorem vote_cells {Ei : TypeId} {W : World} {B : Nat} (v : Vt) : ∀ j (hj : j < v.fd.length), ∃ c, [Value.int .i64 v.r, .int .i64 v.a, .int .i64 v.d][j]? = some c ∧ FdOk Ei W B c v.fd[j] := by
  intro j hj
  match j, hj with
  | 0, _ => exact ⟨_, rfl, rfl⟩
  | 1, _ => exact ⟨_, rfl, rfl⟩
  | 2, _ => exact ⟨_, rfl, rfl⟩
theorem vote_none {v : Vt} {p : Nat} {c : Value} (h : [Value.int .i64 v.r, .int .i64 v.a, .int .i64 v.d][p]? = some c) : c.ownBlock = none := by
  match p, h with
  | 0, h => cases h; rfl
  | 1, h => cases h; rfl
  | 2, h => cases h; rfl
  | p + 3, h => simp at h
theorem ownR_empty (E Ei : TypeId) (w : World) : OwnR E Ei 3 (w.alloc (.cells #[] E)) w.heap.size (w.heap.size + 1) (.slice (some ⟨w.heap.size, 0, none⟩) 0 0) [] :=
  OwnR.nil ⟨rfl, .inr ⟨w.heap.size, 0, #[], rfl, Nat.le_refl _, Str.new w E #[], Nat.le_refl _, Nat.zero_le _, rfl, rfl⟩⟩ (fun g e => by simp [Value.ownBlock] at e; omega)

theorem fd_int {cs : List Vt} {k j : Nat} (hk : k < (cs.map Vt.fd).length) (hj : j < ((cs.map Vt.fd)[k]).length) : ∃ x, ((cs.map Vt.fd)[k])[j] = .i x := by
  have hk' : k < cs.length := by simpa using hk
  have he : (cs.map Vt.fd)[k] = cs[k].fd := by simp
  have hj' : j < 3 := by rw [he] at hj; simpa [Vt.fd] using hj
  match j, hj' with
  | 0, _ => exact ⟨cs[k].r, by simp only [he]; rfl⟩
  | 1, _ => exact ⟨cs[k].a, by simp only [he]; rfl⟩
  | 2, _ => exact ⟨cs[k].d, by simp only [he]; rfl⟩
theorem ownR_keptV {E Ei : TypeId} {w w' : World} {B hi : Nat} {v : Value} {cs : List Vt} (h : OwnR E Ei 3 w B hi v (cs.map Vt.fd)) (hb : ∀ g, v.ownBlock = some g → w'.heap[g]? = w.heap[g]?) : OwnR E Ei 3 w' B hi v (cs.map Vt.fd) := by
  obtain ⟨h1, csv, h2, h3, h4, h5, h6, h7⟩ := h
  refine ⟨h1, csv, row_same h2 hb, fun k j hk hj => ?_, h4, h5, h6, h7⟩
  obtain ⟨c, hc, hf⟩ := h3 k j hk hj
  obtain ⟨x, hx⟩ := fd_int hk hj
  rw [hx] at hf ⊢
  exact ⟨c, hc, hf⟩

set_option maxHeartbeats 4000000 in
set_option maxRecDepth 8000 in
theorem votes_list (b : Nat) (gm : List Vt) (w : World) (hlen : gm.length ≤ 1048576) (hm : MapV w b gm) :
    Calls Try.prog 43 #[.map (some b)] w fun e w' => ∃ v G, e = .returned v ∧ (List.Pairwise (fun x y => vbefB x y = true) G) ∧ (∀ x, x ∈ G ↔ x ∈ gm) ∧ OwnR 27 3 3 w' w.heap.size w'.heap.size v (G.map Vt.fd) ∧ Below w.heap.size w w' := by
  have hap := hm.2.1
  have hbl := hm.lt
  have hb1 : Below w.heap.size w (w.alloc (.cells #[] 27)) := (Below.refl _ _).alloc (Nat.le_refl _) _
  have hz1 : (w.alloc (.cells #[] 27)).heap.size = w.heap.size + 1 := by simp
  have ho1 := ownR_empty 27 3 w
  have hm1 := hm.kept (below_grown hb1) (by simp)
  obtain ⟨w2, hrun, hR2, hg2, hs2⟩ := hm1.range
  rw [hz1] at hrun hR2 hs2
  have Ho2 := Lib.hid ((ho1.below (w' := w2) ⟨hg2.os, hg2.tape, hg2.output, hg2.size, fun k hk => hg2.block k hk (by simp)⟩ (by omega)).mono (show w.heap.size + 1 ≤ w2.heap.size by omega))
  have HR2 := Lib.hid hR2
  have Hb2 := Lib.hid (hb1.grown hg2 (by omega) (fun q e => by cases e))
  have Hap := Lib.hid hap
  clear ho1 hm1 hR2 hg2 hb1 hm hap
  go_enter Try.func43, Try.ntmps43
  go_wp2_with fail
  go_loopw [3] (fun v wr => ∃ cnt cs, RangeV wr b (w.heap.size + 1) gm cnt cs ∧ OwnR 27 3 3 wr w.heap.size wr.heap.size v (cs.map Vt.fd) ∧ (∀ q, v.ownBlock = some q → q ≠ w.heap.size + 1) ∧ Below w.heap.size w wr) (fun _ wr => wr.rangeLeft b (w.heap.size + 1))
  case atStart => exact ⟨_, [], HR2.out, Ho2.out, fun q e => by simp [Value.ownBlock] at e; omega, Hb2.out⟩
  case round =>
    obtain ⟨cnt, cs, hR, hown, hnr, hbel⟩ := hrel
    have hle := hR.le
    have hlt0 := hR.lt
    have hsb := hbel.size
    have hapc := hR.apart
    have Hown := Lib.hid hown
    have Hbel := Lib.hid hbel
    clear hown hbel HR2 Ho2 Hb2
    go_wp2_with (first
      | (at_next; refine wpList_nextV rfl _ rfl rfl hR ?_ ?_)
      | go_in)
    · intro hall
      have Hs := Lib.hid (sort_votes cs w.heap.size wr.heap.size u3 wr (by omega) hapc Hown.out)
      clear hR hrun
      go_wp2_with fail
      refine Hs.out.mono ?_
      rintro e w5 ⟨rfl, G, hG1, hG2, hGl, hoG, hgG⟩
      have Hgo := Lib.hid (hoG.mono hgG.size)
      have HbG := Lib.hid (Hbel.out.grown hgG hsb (fun q e => (Hown.out.lt q e).1))
      clear hoG hgG
      go_wp2
      go_ret
      exact ⟨_, G, rfl, hG1, fun x => (hG2 x).trans (hall x), Hgo.out, HbG.out⟩
    · intro u w3 cnt3 hu hnu hR3 hlt hg3 hs3 hen
      have hal : Below w3.heap.size w3 (w3.alloc (.cells #[.int .i64 u.r, .int .i64 u.a] 75)) := (Below.refl _ _).alloc (Nat.le_refl _) _
      have sP := Str.new w3 75 #[.int .i64 u.r, .int .i64 u.a]
      have p0 := sP.cell 0 (v := .int .i64 u.r) rfl
      have p1 := sP.cell 1 (v := .int .i64 u.a) rfl
      have hz4 : (w3.alloc (.cells #[.int .i64 u.r, .int .i64 u.a] 75)).heap.size = w3.heap.size + 1 := by simp
      have hlt3 := hR3.lt
      have ho3 : OwnR 27 3 3 w3 w.heap.size wr.heap.size u3 (cs.map Vt.fd) := ownR_keptV Hown.out (fun g e => hg3.block g (Hown.out.lt g e).2 (fun e' => hnr g e (Option.some.inj e')))
      have ho4 := ho3.below hal (by omega)
      have hR4 := hR3.kept (below_grown hal) (by simp) (by simp)
      have Hb3 := Lib.hid (Hbel.out.grown hg3 hsb (fun q e => by cases e; omega))
      have Hb4 := Lib.hid (below_step Hb3.out Hb3.out.size hal)
      have Hown4 := Lib.hid ho4
      have HR4 := Lib.hid hR4
      have hleft : wr.rangeLeft b (w.heap.size + 1) = cnt := hR.left_eq
      clear sP ho3 ho4 hR4 hR3 hR hal hg3 hrun
      have Hs3 := Lib.hid hs3
      have hh0 : wr.heap.size ≤ (w3.alloc (.cells #[.int .i64 u.r, .int .i64 u.a] 75)).heap.size := by omega
      have hB0 : w.heap.size ≤ (w3.alloc (.cells #[.int .i64 u.r, .int .i64 u.a] 75)).heap.size := by omega
      have Hh0 := Lib.hid hh0
      have HB0 := Lib.hid hB0
      have hcl : (cs.map Vt.fd).length ≤ 1048576 := by rw [List.length_map]; omega
      have Hcl := Lib.hid hcl
      clear hs3 hh0 hB0 hcl hz4
      go_wp2_with (first
        | (at_builtin; refine wpList_push_own (Ei := 3) Try.underlying23 vote_inf rfl (by decide) (by decide) rfl (.tmp 14) (.tmp 21) rfl w.heap.size u3 (cs.map Vt.fd) u.fd [.int .i64 u.r, .int .i64 u.a, .int .i64 u.d] _ rfl rfl (by intro x hx; simp at hx; rcases hx with rfl | rfl | rfl <;> rfl) rfl rfl (vote_cells u) (fun p q c d hp hq hne g hc hd => by rw [vote_none hp] at hc; cases hc) wr.heap.size Hown4.out Hh0.out (fun c hc g hg => by obtain ⟨p, hp⟩ := List.getElem?_of_mem hc; rw [vote_none hp] at hg; cases hg) Hcl.out (by simp only [World.size_alloc]; rfl) HB0.out ?_; intro v8 w8 ho8 hg8 hat8)
        | go_in)
      have hR8 := HR4.out.kept hg8 (fun e => by have := (Hown4.out.lt b e.symm).1; omega) (fun e => hnr _ e.symm rfl)
      go_roundw
      case rel => exact ⟨cnt3, cs ++ [u], hR8, by rw [List.map_append]; exact ho8, fun q e => by
          rcases hat8 q e with h | h
          · exact hnr q h
          · have := Hs3.out; simp only [World.size_alloc] at h; omega, Hb4.out.grown hg8 HB0.out (fun q e => (Hown4.out.lt q e).1)⟩
      case measure => rw [hR8.left_eq, hleft]; exact hlt

end Go.Proofs.Ytkndndcjchlpdaa
