/- Texts that the laws of this folder share, one behind another; no conditions. -/
import Derived.Test.YtekpapodepachaaBu1
import Derived.Test.YtekpapodepachaaRows
import Derived.Test.YtekpapodepachaaBu0
import Derived.Maps.AppendAt
import Derived.Deep.Slices
import Derived.ChangeArms
import Derived.ChangeSame
import Derived.Deep.QuietTactic
import Derived.BigQuiet
import Derived.Laws.Strings

/- Lists of shards read, cut and joined; plain steps on lists and memory, no walk and no condition of our own. -/
namespace Go.Proofs.Ytekpapodepachaa
open Go.RowKit

theorem shsB_of {cols : Nat} {L : List Sh} (h : ∀ k (hk : k < L.length), (1 ≤ L[k].1 ∧ L[k].1 ≤ 8) ∧ L[k].2.length = cols ∧ ∀ y ∈ L[k].2, 0 ≤ y ∧ y ≤ 250) (hd : ∀ j k (hj : j < L.length) (hk : k < L.length), j < k → L[j].1 ≠ L[k].1) : shsB cols L = true := by
  refine allB_yes (k := L.length) (fun k hk => ?_) (Nat.le_refl _)
  obtain ⟨h1, h2, h3⟩ := h k hk
  unfold shAt okS newAt
  rw [getS hk, decide_eq_true h1, decide_eq_true h2, show L[k].2.all symB = true from List.all_eq_true.2 fun y hy => symB_yes (h3 y hy)]
  rw [Bool.true_and, Bool.true_and, Bool.true_and]
  refine allB_yes (k := k) (fun j hj => ?_) (Nat.le_refl _)
  have e1 : xsOf L j = L[j].1 := by unfold xsOf; rw [getS (by omega)]
  have e2 : xsOf L k = L[k].1 := by unfold xsOf; rw [getS hk]
  rw [e1, e2]
  exact decide_eq_true (hd j k (by omega) hk hj)
theorem shardV_bd {d : List Int} {need : Nat} {x : Int} : ∀ y ∈ shardV d need x, 0 ≤ y ∧ y ≤ 250 := by
  intro y hy
  obtain ⟨j, hj, rfl⟩ := List.mem_iff_getElem.1 hy
  rw [shardV_get]; exact valZ_bd _ _ _ _
/-- Shards of data, with different numbers, are joined to the data. -/
theorem join_of {d : List Int} {need : Nat} {L : List Sh} (hd : dataB d need = true) (hn : need ≤ L.length) (h8 : L.length ≤ 8) (hv : ∀ k (hk : k < L.length), (1 ≤ L[k].1 ∧ L[k].1 ≤ 8) ∧ L[k].2 = shardV d need L[k].1) (hne : ∀ j k (hj : j < L.length) (hk : k < L.length), j < k → L[j].1 ≠ L[k].1) :
    joinB d.length need L = true ∧ joinD d.length need L = d := by
  have hs : shsB (colsN d need) L = true := shsB_of (fun k hk => ⟨(hv k hk).1, by rw [(hv k hk).2, shardV_len], by rw [(hv k hk).2]; exact shardV_bd⟩) hne
  have hm : ∀ s ∈ L, s.2 = shardV d need s.1 := by
    intro s h
    obtain ⟨k, hk, rfl⟩ := List.mem_iff_getElem.1 h
    exact (hv k hk).2
  have hD := dataI_eq hd hn hs hm
  obtain ⟨_, ⟨hl1, hl2⟩, hn1, hn8⟩ := dataB_iff hd
  have hJ : joinOk d.length need L = true := by
    unfold joinOk lenB
    simp only [Int.toNat_natCast]
    rw [decide_eq_true (by omega), decide_eq_true (by omega), decide_eq_true (by omega)]
    exact hs
  have hall : L.all (matB (dataI (d.length : Int).toNat (need : Int).toNat L) need) = true := by
    simp only [Int.toNat_natCast]
    rw [hD, List.all_eq_true]
    intro s h
    obtain ⟨k, hk, rfl⟩ := List.mem_iff_getElem.1 h
    rw [matB_yes hd (hv k hk).1]
    exact decide_eq_true (hv k hk).2.symm
  have := join_yes hJ hall
  simp only [Int.toNat_natCast] at this
  rw [hD] at this
  exact this
/-- What is joined has all the shards. -/
theorem join_has {size need : Nat} {L : List Sh} (h : joinB size need L = true) : ∃ D : List Int, D.length = size ∧ dataB D need = true ∧ ∀ k (hk : k < L.length), (1 ≤ L[k].1 ∧ L[k].1 ≤ 8) ∧ shardV D need L[k].1 = L[k].2 := by
  unfold joinB at h
  rw [Bool.and_eq_true] at h
  simp only [Int.toNat_natCast] at h
  obtain ⟨hJ, hall⟩ := h
  obtain ⟨_, _, ⟨hn, _⟩, _⟩ := joinOk_iff hJ
  rw [List.all_eq_true] at hall
  have hJ' := joinOk_iff hJ
  have h0 : 0 < L.length := by omega
  have hd : dataB (dataI size need L) need = true := by
    have := hall _ (List.getElem_mem h0)
    unfold matB at this
    simp only [Bool.and_eq_true] at this
    exact this.1.1
  refine ⟨dataI size need L, dataI_len _ _ _, hd, fun k hk => ?_⟩
  have := hall _ (List.getElem_mem hk)
  unfold matB at this
  simp only [Bool.and_eq_true, decide_eq_true_eq, Int.toNat_natCast] at this
  exact ⟨this.1.2, this.2⟩
theorem mod_ne {i j m many : Nat} (h1 : j < i) (h2 : i < many) : (j + m) % many ≠ (i + m) % many := by
  intro e
  have h := Nat.sub_mod_eq_zero_of_mod_eq e.symm
  rw [show i + m - (j + m) = i - j by omega, Nat.mod_eq_of_lt (by omega)] at h
  omega

/-! memory -/
theorem Rd.take {w : World} {L : List Sh} {a : Option Addr} {n cap : Nat} {fp : List Nat} (h : Rd w (.l (L.map shardD)) (.slice a n cap) fp) (k : Nat) (hk : k ≤ L.length) : ∃ fp', Rd w (.l ((L.take k).map shardD)) (.slice a k cap) fp' ∧ ∀ r ∈ fp', r ∈ fp := by
  rcases Nat.eq_zero_or_pos k with h0 | h0
  · subst h0; exact ⟨[], .nil _ _ (fun e => by subst e; exact h.nilcap), by simp⟩
  · have hpos : 0 < (L.map shardD).length := by rw [List.length_map]; omega
    obtain ⟨g, off, rfl, hg, hgf, hn, hcap, hc⟩ := Rd.at h hpos (sz := 2) (by intro e he; obtain ⟨s, _, rfl⟩ := List.mem_map.1 he; rfl)
    have hex : ∀ i j, ∃ p : Value × List Nat, ∀ (_ : i < (L.map shardD).length) (_ : j < 2), w.cell? ⟨g, off + (i * 2 + j), none⟩ = some p.1 ∧ (∀ (hi : i < (L.map shardD).length) (hj : j < ((L.map shardD)[i]).length), Rd w (((L.map shardD)[i])[j]) p.1 p.2) ∧ ∀ r ∈ p.2, r ∈ fp := by
      intro i j
      by_cases hi : i < (L.map shardD).length
      · by_cases hj : j < 2
        · obtain ⟨v, fp', h1, h2, h3⟩ := hc i j hi (by rw [List.getElem_map]; exact hj)
          exact ⟨(v, fp'), fun _ _ => ⟨h1, fun _ _ => h2, h3⟩⟩
        · exact ⟨(undef, []), fun _ h => absurd h hj⟩
      · exact ⟨(undef, []), fun h _ => absurd h hi⟩
    obtain ⟨F, hF⟩ : ∃ F : Nat → Nat → Value × List Nat, ∀ i j (_ : i < (L.map shardD).length) (_ : j < 2), w.cell? ⟨g, off + (i * 2 + j), none⟩ = some (F i j).1 ∧ (∀ (hi : i < (L.map shardD).length) (hj : j < ((L.map shardD)[i]).length), Rd w (((L.map shardD)[i])[j]) (F i j).1 (F i j).2) ∧ ∀ r ∈ (F i j).2, r ∈ fp :=
      ⟨fun i j => Classical.choose (hex i j), fun i j => Classical.choose_spec (hex i j)⟩
    have hlt : ((L.take k).map shardD).length = k := by simp; omega
    have hr := Rd.l (w := w) 2 ((L.take k).map shardD) g off cap (fun i j => (F i j).1) (fun i j => (F i j).2) (by rw [hlt]; exact h0) (by intro e he; obtain ⟨s, _, rfl⟩ := List.mem_map.1 he; rfl)
      (by rw [hlt]; rw [List.length_map] at hn; omega) hg (fun i j hi hj => (hF i j (by rw [hlt] at hi; rw [List.length_map]; omega) hj).1)
      (fun i j hi hj => by
        have hi' : i < (L.map shardD).length := by rw [hlt] at hi; rw [List.length_map]; omega
        have hj2 : j < 2 := by rw [List.getElem_map] at hj; exact hj
        have := (hF i j hi' hj2).2.1 hi' (by rw [List.getElem_map]; exact hj2)
        simp only [List.getElem_map, List.getElem_take] at this ⊢
        exact this)
    rw [hlt] at hr
    refine ⟨_, hr, fun r hm => ?_⟩
    rcases List.mem_cons.1 hm with rfl | hm
    · exact hgf
    · obtain ⟨i, hi, hm⟩ := List.mem_flatMap.1 hm
      obtain ⟨j, hj, hm⟩ := List.mem_flatMap.1 hm
      rw [List.mem_range] at hi hj
      exact (hF i j (by rw [List.length_map]; omega) hj).2.2 r hm
/-- An element of a list of shards: its cells, and what its values read as. -/
theorem row_of_list {w : World} {L : List Sh} {a : Option Addr} {n cap : Nat} {fp : List Nat} (h : Rd w (.l (L.map shardD)) (.slice a n cap) fp) (hne : 0 < L.length) :
    ∃ g off, a = some ⟨g, off, none⟩ ∧ g < w.heap.size ∧ ∀ k (hk : k < L.length), ∃ av cv fp', w.cell? ⟨g, off + k * 2, none⟩ = some (.int .i64 L[k].1) ∧ w.cell? ⟨g, off + k * 2 + 1, none⟩ = some (.slice av L[k].2.length cv) ∧ IntsAt w av L[k].2 ∧
      Rd w (intsD L[k].2) (.slice av L[k].2.length cv) fp' ∧ ∀ r ∈ fp', r ∈ fp := by
  obtain ⟨g, off, rfl, hg, hgf, hn, hcap, hc⟩ := Rd.at h (by rw [List.length_map]; exact hne) (sz := 2) (by intro e he; obtain ⟨s, _, rfl⟩ := List.mem_map.1 he; rfl)
  refine ⟨g, off, rfl, hg, fun k hk => ?_⟩
  have hk' : k < (L.map shardD).length := by rw [List.length_map]; exact hk
  obtain ⟨v0, f0, c0, r0, _⟩ := hc k 0 hk' (by rw [List.getElem_map]; show 0 < 2; omega)
  obtain ⟨v1, f1, c1, r1, s1⟩ := hc k 1 hk' (by rw [List.getElem_map]; show 1 < 2; omega)
  have r0' : Rd w (.i L[k].1) v0 f0 := by simpa [shardD] using r0
  have r1' : Rd w (intsD L[k].2) v1 f1 := by simpa [shardD] using r1
  obtain ⟨rfl, _⟩ := r0'.int
  obtain ⟨av, cv, rfl, _, hi⟩ := r1'.ints
  exact ⟨av, cv, f1, by simpa using c0, by simpa [Nat.add_assoc] using c1, hi, r1', s1⟩
/-- The element's cells, for a list that is built of it. -/
theorem cells_of_row {w : World} {B : Nat} {blk : Option Nat} {x : Int} {av : Option Addr} {cv : Nat} {vs : List Int} {fp : List Nat} (h : Rd w (intsD vs) (.slice av vs.length cv) fp) (hf : ∀ r ∈ fp, B ≤ r ∧ blk ≠ some r) :
    CellsRd w B blk [.int .i64 x, .slice av vs.length cv] [.i x, intsD vs] := by
  intro j hj
  match j, hj with
  | 0, _ => exact ⟨_, [], rfl, .i _, by simp⟩
  | 1, _ => exact ⟨_, fp, rfl, h, hf⟩

/-- 'append(s, rest...)', elements of a struct type, s empty. -/
theorem wpList_spread {P : Program} {T E : TypeId} {z0 : Value} {sz bytes : Nat} (hsl : P.underlying T = some (.slice E)) (hinf : (P.info? E).map (fun i => (i.zero, i.size, i.bytes)) = some (some z0, sz, bytes)) (hz0 : z0.cells.size = sz) (hpos : 0 < sz) (hby : bytes ≤ 1000)
    {w : World} {ops : Array Oper} {rest : List Oper} {o : Oper} {a : Act} {Q : Exit → Act → World → Prop} (hgd : o.guard = none) (s x : Operand) (ho : o.op = .call { callee := .builtin .append, args := #[s, x], argTypes := #[T, T] }) (B : Nat) (v : Value) (hs : a.eval s = v) (hown : w.ownsRow B E sz v 0 [])
    (ad : Addr) (n c : Nat) (hx : a.eval x = .slice (some ad) n c) (vals : List Value) (hvl : vals.length = n * sz) (hcell : ∀ j u, vals[j]? = some u → w.cell? (ad.add j) = some u) (h1c : ∀ u ∈ vals, u.oneCell' = true) (hlen : n ≤ 1000000) (hB : B ≤ w.heap.size)
    (h : ∀ v' w', w'.ownsRow B E sz v' n vals → w.grownBy w' v.ownBlock → (v'.ownBlock = v.ownBlock ∨ v'.ownBlock = some w.heap.size) → wpList P ops Q rest (a.put o.dst v') w') : wpList P ops Q (o :: rest) a w := by
  refine wpList_want (by unfold Region.wanted; rw [hgd]) fun K hK => ?_
  obtain ⟨i, hi, hz, hsz, hbb⟩ := info_parts hinf
  obtain ⟨v', w', hrun, h1, h2, _, h4⟩ := run_append_own_at (P := P) w B T o.type E i z0 sz bytes hsl hi hz hsz hbb hz0 hpos v 0 [] hown ad n c vals hvl hcell h1c (by unfold maxLen; omega) (by
    have := Nat.mul_le_mul (show 0 + n ≤ 1000000 by omega) hby; omega) hB
  unfold Oper.wp execOp
  simp only [ho, resolve, invoke, builtin, Sem.run_bind, Sem.run_pure, Result.andThen_ok, List.map_toArray, List.map_cons, List.map_nil, hs, hx, hrun]
  refine hK _ _ (h v' w' ?_ h2 h4)
  simpa using h1
/-- A row of shards' cells reads as the shards. -/
theorem rd_of_row {E : TypeId} {w : World} {B g n cap : Nat} {cs : List Value} {L : List Sh} (h : w.ownsRow B E 2 (.slice (some ⟨g, 0, none⟩) n cap) n cs) (hn : n = L.length) (hpos : 0 < n) (hcap : n ≤ cap)
    (hc : ∀ k (hk : k < L.length), cs[k * 2]? = some (.int .i64 L[k].1) ∧ ∃ c fp, cs[k * 2 + 1]? = some c ∧ Rd w (intsD L[k].2) c fp) : ∃ fp, Rd w (.l (L.map shardD)) (.slice (some ⟨g, 0, none⟩) L.length cap) fp := by
  subst hn
  have hex : ∀ k j, ∃ p : Value × List Nat, ∀ (hk : k < L.length) (_ : j < 2), cs[k * 2 + j]? = some p.1 ∧ ∀ (hj : j < (shardD L[k]).length), Rd w ((shardD L[k])[j]) p.1 p.2 := by
    intro k j
    by_cases hk : k < L.length
    · obtain ⟨h0, c, fp, h1, h2⟩ := hc k hk
      match j with
      | 0 => exact ⟨(.int .i64 L[k].1, []), fun _ _ => ⟨h0, fun _ => .i _⟩⟩
      | 1 => exact ⟨(c, fp), fun _ _ => ⟨h1, fun _ => h2⟩⟩
      | j + 2 => exact ⟨(undef, []), fun _ h => by omega⟩
    · exact ⟨(undef, []), fun h => absurd h hk⟩
  obtain ⟨F, hF⟩ : ∃ F : Nat → Nat → Value × List Nat, ∀ k j (hk : k < L.length) (_ : j < 2), cs[k * 2 + j]? = some (F k j).1 ∧ ∀ (hj : j < (shardD L[k]).length), Rd w ((shardD L[k])[j]) (F k j).1 (F k j).2 :=
    ⟨fun k j => Classical.choose (hex k j), fun k j => Classical.choose_spec (hex k j)⟩
  have hml : (L.map shardD).length = L.length := List.length_map _
  have := Rd.l (w := w) 2 (L.map shardD) g 0 cap (fun k j => (F k j).1) (fun k j => (F k j).2) (by omega) (by intro e he; obtain ⟨s, _, rfl⟩ := List.mem_map.1 he; rfl) (by omega) (h.lt g rfl).2
    (fun k j hk hj => by
      have := World.ownsRow.cells h (g := g) rfl _ _ (hF k j (by omega) hj).1
      rw [addr_add] at this
      rw [Nat.zero_add]; exact this)
    (fun k j hk hj => by
      have hk' : k < L.length := by omega
      simp only [List.getElem_map] at hj ⊢
      exact (hF k j hk' hj).2 hj)
  rw [hml] at this
  exact ⟨_, this⟩
/-- A shard that was changed is found out. -/
theorem wrong_shard {d : List Int} {need many kk : Nat} {ys : List Int} (hd : dataB d need = true) (hm : need + 1 ≤ many) (h8 : many ≤ 8) (hk : kk < need + 1) (h : joinB d.length need (((List.range (need + 1)).map (shardZ d need)).set kk ((kk : Int) + 1, ys)) = true) : ys = shardV d need ((kk : Int) + 1) := by
  obtain ⟨D, hDl, hDd, hall⟩ := join_has h
  obtain ⟨hd0, ⟨_, hd2⟩, hn1, hn8⟩ := dataB_iff hd
  obtain ⟨hD0, _, _, _⟩ := dataB_iff hDd
  have hget : ∀ j, j < need + 1 → j ≠ kk → shardV D need ((j : Int) + 1) = shardV d need ((j : Int) + 1) := by
    intro j hj hne
    have := (hall j (by simp; omega)).2
    rw [List.getElem_set_ne (fun h => hne h.symm)] at this
    simpa [shardZ] using this
  have hsame : D = d := uniq_data (need := need) (by omega) (by omega) hD0 hd0 (by omega) hDl (xs := fun j => if j < kk then (j : Int) + 1 else (j : Int) + 2) (fun i j hi hj => by
      rintro ⟨q, e⟩
      by_cases h1 : i < kk
      · simp only [if_pos h1, if_pos (show j < kk by omega)] at e; omega
      · by_cases h2 : j < kk
        · simp only [if_neg h1, if_pos h2] at e; omega
        · simp only [if_neg h1, if_neg h2] at e; omega)
    (fun j hj => by
      by_cases h1 : j < kk
      · simp only [if_pos h1]; exact hget j (by omega) (by omega)
      · simp only [if_neg h1]
        have := hget (j + 1) (by omega) (by omega)
        rwa [show (((j + 1 : Nat) : Int) + 1) = (j : Int) + 2 by omega] at this)
  have := (hall kk (by simp; omega)).2
  simp only [List.getElem_set_self] at this
  rw [← this, hsame]

theorem row_form {E : TypeId} {sz : Nat} {w : World} {B n : Nat} {v : Value} {cs : List Value} (h : w.ownsRow B E sz v n cs) (hn : 0 < n) : ∃ g cap, v = .slice (some ⟨g, 0, none⟩) n cap ∧ B ≤ g ∧ g < w.heap.size ∧ n ≤ cap := by
  rcases h.2 with ⟨_, h0⟩ | ⟨g, cap, cur, rfl, hb, hg, hc, _⟩
  · omega
  · exact ⟨g, cap, rfl, hb, (h.lt g rfl).2, hc⟩

end Go.Proofs.Ytekpapodepachaa

/- What is said of parts of dealt shares (P66 to P69); plain facts, nothing here is walked. -/
namespace Go.Proofs.Ytekpapodepachaa
open Go.RowKit

/-- The coefficients, each multiplied by the wave's number. -/
def scL (d : List Int) (w : Int) : List Int := d.map fun y => cmZ y w
theorem scL_len (d : List Int) (w : Int) : (scL d w).length = d.length := by simp [scL]
theorem cm_cg {y w : Int} (h0 : 0 ≤ y) (h1 : y ≤ 250) (hw1 : 1 ≤ w) (hw2 : w ≤ 15) : Cg (cmZ y w) (y * (7 * w + 1)) := by
  rw [cmZ_yes (symB_yes ⟨h0, h1⟩) hw1 hw2]; exact Cg.mod _
theorem cm_rng {y w : Int} (h0 : 0 ≤ y) (h1 : y ≤ 250) (hw1 : 1 ≤ w) (hw2 : w ≤ 15) : 0 ≤ cmZ y w ∧ cmZ y w ≤ 250 := by
  rw [cmZ_yes (symB_yes ⟨h0, h1⟩) hw1 hw2]; omega
theorem scL_bd {d : List Int} (h : ∀ y ∈ d, 0 ≤ y ∧ y ≤ 250) {w : Int} (hw1 : 1 ≤ w) (hw2 : w ≤ 15) : ∀ y ∈ scL d w, 0 ≤ y ∧ y ≤ 250 := by
  intro y hy
  obtain ⟨z, hz, rfl⟩ := List.mem_map.1 hy
  exact cm_rng (h z hz).1 (h z hz).2 hw1 hw2
/-- A part of a share is a share of the parts. -/
theorem cm_hor : ∀ (d : List Int) (x w : Int), (∀ y ∈ d, 0 ≤ y ∧ y ≤ 250) → 1 ≤ w → w ≤ 15 → cmZ (horZ d x) w = horZ (scL d w) x
  | [], x, w, _, hw1, hw2 => by
    show cmZ 0 w = 0
    rw [cmZ_yes (symB_yes ⟨by omega, by omega⟩) hw1 hw2]; simp
  | s :: l, x, w, h, hw1, hw2 => by
    have ih := cm_hor l x w (fun y hy => h y (List.mem_cons_of_mem _ hy)) hw1 hw2
    have hs := h s List.mem_cons_self
    have hb := horZ_bd (s :: l) x
    have hl := horZ_bd l x
    have hb2 := horZ_bd (scL (s :: l) w) x
    refine Cg.eq ?_ (cm_rng hb.1 hb.2 hw1 hw2) hb2
    refine (cm_cg hb.1 hb.2 hw1 hw2).trans ?_
    have e1 : horZ (scL (s :: l) w) x = (horZ (scL l w) x * x + cmZ s w) % 251 := rfl
    rw [e1, ← ih]
    refine Cg.trans ?_ (Cg.mod _).symm
    have e2 : horZ (s :: l) x = (horZ l x * x + s) % 251 := rfl
    rw [e2]
    refine ((Cg.mod _).mul (Cg.refl _)).trans ?_
    rw [Int.add_mul]
    refine Cg.add ?_ (cm_cg hs.1 hs.2 hw1 hw2).symm
    rw [Int.mul_right_comm]
    exact (cm_cg hl.1 hl.2 hw1 hw2).symm.mul (Cg.refl _)
theorem sc_data {d : List Int} (h : polyB d = true) {w : Int} (hw1 : 1 ≤ w) (hw2 : w ≤ 15) : dataB (scL d w) (d.length : Int) = true := by
  obtain ⟨h1, h2, h3⟩ := polyB_at h
  have ha : (scL d w).all symB = true := List.all_eq_true.2 fun y hy => symB_yes (scL_bd h1 hw1 hw2 y hy)
  unfold dataB
  rw [ha, scL_len, decide_eq_true (show 1 ≤ d.length ∧ d.length ≤ 12 by omega), decide_eq_true (show 1 ≤ (d.length : Int) ∧ (d.length : Int) ≤ 8 by omega)]
  rfl
theorem sc_shard {d : List Int} (h : polyB d = true) {w : Int} (hw1 : 1 ≤ w) (hw2 : w ≤ 15) (x : Int) : shardV (scL d w) d.length x = [cmZ (horZ d x) w] := by
  obtain ⟨h1, h2, h3⟩ := polyB_at h
  have hc : colsN (scL d w) d.length = 1 := by unfold colsN; rw [scL_len]; exact cols_one h2
  have hv : valZ (scL d w) d.length 0 x = cmZ (horZ d x) w := by
    have := val_hor (scL d w) x
    rw [scL_len] at this
    rw [this, cm_hor d x w h1 hw1 hw2]
  unfold shardV
  rw [hc]
  simp [hv]
/-- The part of member i. -/
def ptZ (d : List Int) (w : Int) (i : Nat) : Cp := ((i : Int), cmZ (horZ d ((i + 1 : Nat) : Int)) w)
/-- The parts of these members. -/
def ptL (d : List Int) (w : Int) (is : List Nat) : List Cp := is.map (ptZ d w)
theorem ptL_len (d : List Int) (w : Int) (is : List Nat) : (ptL d w is).length = is.length := by simp [ptL]
theorem pt_ok {d : List Int} (h : polyB d = true) {w : Int} (hw1 : 1 ≤ w) (hw2 : w ≤ 15) {is : List Nat} (hi : is.Pairwise (· < ·)) (h7 : ∀ i ∈ is, i < 7) : cjOk (d.length : Int) (ptL d w is) = true := by
  obtain ⟨h1, h2, h3⟩ := polyB_at h
  unfold cjOk
  rw [decide_eq_true (show 1 ≤ (d.length : Int) ∧ (d.length : Int) ≤ 7 by omega), Bool.true_and, parts_iff]
  refine ⟨⟨?_, ?_⟩, ?_⟩
  · have e : cpM (ptL d w is) = is.map fun i : Nat => (i : Int) := by unfold cpM ptL; rw [List.map_map]; rfl
    rw [e]
    first
    | exact List.Pairwise.map _ (fun a b hab => by omega) hi
    | (intro m hm; obtain ⟨i, hi', rfl⟩ := List.mem_map.1 hm; have := h7 i hi'; omega)
  · have e : cpM (ptL d w is) = is.map fun i : Nat => (i : Int) := by unfold cpM ptL; rw [List.map_map]; rfl
    rw [e]
    first
    | exact List.Pairwise.map _ (fun a b hab => by omega) hi
    | (intro m hm; obtain ⟨i, hi', rfl⟩ := List.mem_map.1 hm; have := h7 i hi'; omega)
  · intro p hp
    obtain ⟨i, _, rfl⟩ := List.mem_map.1 hp
    exact cm_rng (horZ_bd _ _).1 (horZ_bd _ _).2 hw1 hw2
/-- Enough parts give the coin. -/
theorem pt_join {d : List Int} (h : polyB d = true) {w : Int} (hw1 : 1 ≤ w) (hw2 : w ≤ 15) {is : List Nat} (hi : is.Pairwise (· < ·)) (h7 : ∀ i ∈ is, i < 7) (hn : d.length ≤ is.length) :
    cjB (d.length : Int) (ptL d w is) = true ∧ cjV (d.length : Int) (ptL d w is) = cmZ (d.getD 0 0) w := by
  obtain ⟨h1, h2, h3⟩ := polyB_at h
  have hok := pt_ok h hw1 hw2 hi h7
  have hl := parts_len (by unfold cjOk at hok; rw [Bool.and_eq_true] at hok; exact hok.2)
  have hl' : (shL (ptL d w is)).length = is.length := by rw [shL_len, ptL_len]
  have hget : ∀ k (hk : k < (shL (ptL d w is)).length), (shL (ptL d w is))[k] = (((is[k]'(by omega) : Nat) : Int) + 1, [cmZ (horZ d (((is[k]'(by omega)) + 1 : Nat) : Int)) w]) := by
    intro k hk; simp [shL, ptL, ptZ]
  have hj := join_of (d := scL d w) (need := d.length) (L := shL (ptL d w is)) (sc_data h hw1 hw2) (by omega) (by rw [hl']; rw [ptL_len] at hl; omega)
    (fun k hk => by
      rw [hget k hk]
      have := h7 _ (List.getElem_mem (show k < is.length by omega))
      refine ⟨by simp only; omega, ?_⟩
      simp only
      rw [sc_shard h hw1 hw2]
      rfl)
    (fun j k hj hk hjk => by
      rw [hget j hj, hget k hk]
      have := List.pairwise_iff_getElem.1 hi j k (by omega) (by omega) hjk
      simp only; omega)
  rw [scL_len] at hj
  have hb : cjB (d.length : Int) (ptL d w is) = true := by rw [cjB_ok hok]; exact hj.1
  refine ⟨hb, ?_⟩
  rw [cj_yes hb, hj.2]
  unfold scL
  cases d with
  | nil => simp at h2
  | cons a t => rfl
/-- The members whose parts are taken: those whose place, turned by f, is below c. -/
def selN (m f c : Nat) : List Nat := (List.range m).filter fun i => decide ((i + f) % m < c)
theorem selN_asc (m f c : Nat) : (selN m f c).Pairwise (· < ·) := List.Pairwise.filter _ List.pairwise_lt_range
theorem selN_lt {m f c : Nat} : ∀ i ∈ selN m f c, i < m := fun _ hi => List.mem_range.1 ((List.mem_filter.1 hi).1)
theorem selN_fin : ∀ m : Fin 8, ∀ f : Fin 8, ∀ c : Fin 8, 0 < m.val → c.val ≤ m.val → ((List.range m.val).filter fun i => decide ((i + f.val) % m.val < c.val)).length = c.val := by decide +kernel
theorem selN_len {m f c : Nat} (h0 : 0 < m) (hm : m ≤ 7) (hc : c ≤ m) : (selN m f c).length = c := by
  have h := selN_fin ⟨m, by omega⟩ ⟨f % m, by have := Nat.mod_lt f h0; omega⟩ ⟨c, by omega⟩ h0 hc
  unfold selN
  simp only [Nat.add_mod_mod] at h
  exact h
/-- Too few parts give none. -/
theorem pt_few {d : List Int} {w : Int} {is : List Nat} (hn : is.length < d.length) : cjB (d.length : Int) (ptL d w is) = false := by
  cases hok : cjOk (d.length : Int) (ptL d w is) with
  | false => exact cjB_no hok
  | true => exact parts_few hok (by rw [ptL_len]; omega)
theorem selN_all {m c : Nat} (hc : c ≤ m) : selN m 0 c = List.range c := by
  unfold selN
  have h1 : (List.range m).filter (fun i => decide ((i + 0) % m < c)) = (List.range m).filter (fun i => decide (i < c)) := by
    refine List.filter_congr fun i hi => ?_
    rw [Nat.add_zero, Nat.mod_eq_of_lt (List.mem_range.1 hi)]
  rw [h1]
  obtain ⟨t, rfl⟩ : ∃ t, m = c + t := ⟨m - c, by omega⟩
  clear h1 hc
  induction t with
  | zero => exact List.filter_eq_self.2 fun i hi => decide_eq_true (List.mem_range.1 hi)
  | succ t ih => rw [Nat.add_succ, List.range_succ, List.filter_append, ih]; simp
/-- A wrong part is found by a further one. -/
theorem pt_wrong {d : List Int} (h : polyB d = true) {w : Int} (hw1 : 1 ≤ w) (hw2 : w ≤ 15) (hd7 : d.length < 7) {k : Nat} (hk : k < d.length + 1) {v : Int} (hv : v ≠ (ptZ d w k).2) :
    cjB (d.length : Int) ((ptL d w (List.range (d.length + 1))).set k ((k : Int), v)) = false := by
  cases hb : cjB (d.length : Int) ((ptL d w (List.range (d.length + 1))).set k ((k : Int), v)) with
  | false => rfl
  | true =>
    exfalso
    have hok : cjOk (d.length : Int) ((ptL d w (List.range (d.length + 1))).set k ((k : Int), v)) = true := by
      cases ho : cjOk (d.length : Int) ((ptL d w (List.range (d.length + 1))).set k ((k : Int), v)) with
      | true => rfl
      | false => rw [cjB_no ho] at hb; cases hb
    rw [cjB_ok hok] at hb
    have e : shL ((ptL d w (List.range (d.length + 1))).set k ((k : Int), v)) = ((List.range (d.length + 1)).map (shardZ (scL d w) d.length)).set k ((k : Int) + 1, [v]) := by
      unfold shL ptL
      rw [List.map_set, List.map_map]
      congr 1
      refine List.map_congr_left fun i _ => ?_
      show (((i : Int)) + 1, [cmZ (horZ d ((i + 1 : Nat) : Int)) w]) = shardZ (scL d w) d.length i
      unfold shardZ
      rw [sc_shard h hw1 hw2]
      rfl
    rw [e] at hb
    have := wrong_shard (d := scL d w) (need := d.length) (many := d.length + 1) (kk := k) (ys := [v]) (sc_data h hw1 hw2) (Nat.le_refl _) (by omega) hk (by rw [scL_len]; exact hb)
    rw [sc_shard h hw1 hw2] at this
    exact hv (by simpa [ptZ] using this)

end Go.Proofs.Ytekpapodepachaa

/- An append of one element to a list of rows that the call builds, at an operation of a region that draws its order: general steps, nothing here speaks of the program. -/
namespace Go.Proofs.Ytekpapodepachaa
open Go.RowKit

/-- 'append(s, x)', x an element of a struct type. -/
theorem op_push_row {P : Program} {T E : TypeId} {z0 : Value} {sz bytes : Nat} (hsl : P.underlying T = some (.slice E)) (hinf : (P.info? E).map (fun i => (i.zero, i.size, i.bytes)) = some (some z0, sz, bytes)) (hz0 : z0.cells.size = sz) (hpos : 0 < sz) (hby : bytes ≤ 1000)
    (w : World) {o : Oper} {a : Act} {K : Act → World → Prop} {Q : Exit → Act → World → Prop} (s x : Operand) (ho : o.op = .call { callee := .builtin .append, args := #[s, x], argTypes := #[T, T] }) (B : Nat) (v : Value) (es : List (List Dt)) (e : List Dt)
    (vals : List Value) (cells : Array Value) (hcells : cells = vals.toArray) (hvl : vals.length = sz) (h1c : ∀ u ∈ vals, u.oneCell' = true) (hs : a.eval s = v) (hb : Bld E sz w B v es) (he : e.length = sz) (hr : CellsRd w B v.ownBlock vals e) (hlen : es.length ≤ 1048576)
    (hx : a.eval x = .slice (some ⟨w.heap.size, 0, none⟩) 1 1) (hB : B ≤ w.heap.size)
    (h : ∀ v' w', Bld E sz w' B v' (es ++ [e]) → w.grownBy w' v.ownBlock → (∀ g, v'.ownBlock = some g → v.ownBlock = some g ∨ w.heap.size ≤ g) → K (a.put o.dst v') w') : Oper.wp P o a (w.alloc (.cells cells E)) K Q := by
  subst hcells
  obtain ⟨i, hi, hz, hsz, hbb⟩ := info_parts hinf
  obtain ⟨cs, hown, hc⟩ := hb.row
  have hcl : cs.length = es.length * sz := hown.1
  obtain ⟨v', w', hrun, h1, h2, _, h4⟩ := run_append_own_at (P := P) (w.alloc (.cells vals.toArray E)) B T o.type E i z0 sz bytes hsl hi hz hsz hbb hz0 hpos v es.length _ (World.ownsRow.alloc hown _) ⟨w.heap.size, 0, none⟩ 1 1 vals (by rw [hvl]; simp)
    (fun j u hu => by
      rw [addr_add, World.cell?_alloc_at _ _ _ _ rfl]; simpa using hu) h1c (by unfold maxLen; omega) (by
      have := Nat.mul_le_mul (show es.length + 1 ≤ 1048577 by omega) hby; omega) (by simp; omega)
  unfold Oper.wp execOp
  simp only [ho, resolve, invoke, builtin, Sem.run_bind, Sem.run_pure, Result.andThen_ok, List.map_toArray, List.map_cons, List.map_nil, hs, hx, hrun]
  have hg : w.grownBy w' v.ownBlock := grownBy_trans (World.grownBy_alloc _ _ _) h2
  have hloc : ∀ g, v'.ownBlock = some g → v.ownBlock = some g ∨ w.heap.size ≤ g := fun g e => by
    rcases h4 with h4 | h4
    · exact .inl (by rw [← h4]; exact e)
    · rw [h4] at e; cases e; exact .inr (by simp)
  refine (h v' w' ⟨?_, cs ++ vals, by rw [List.length_append]; exact h1, fun k hk => ?_⟩ hg hloc)
  · intro d hd
    rcases List.mem_append.1 hd with hd | hd
    · exact hb.szs d hd
    · simp at hd; subst hd; exact he
  · by_cases hke : k < es.length
    · have hkk : (es ++ [e])[k] = es[k] := List.getElem_append_left hke
      rw [hkk]
      have hcr := (hc k hke).step (blk' := v'.ownBlock) hg (fun r e => .inr e) hloc
      intro j hj
      obtain ⟨c, fp, hcc, hrest⟩ := hcr j hj
      refine ⟨c, fp, ?_, hrest⟩
      rw [List.getElem?_drop] at hcc ⊢
      have hjs : j < sz := by rw [← hb.szs _ (List.getElem_mem hke)]; exact hj
      have : k * sz + j < cs.length := by
        rw [hcl]
        have := Nat.mul_le_mul_right sz (show k + 1 ≤ es.length by omega)
        rw [Nat.add_mul] at this; omega
      rw [List.getElem?_append_left this]; exact hcc
    · have hkl : k = es.length := by simp at hk; omega
      subst hkl
      have hkk : (es ++ [e])[es.length] = e := by simp
      rw [hkk]
      have : (cs ++ vals).drop (es.length * sz) = vals := by rw [← hcl]; simp
      rw [this]
      exact hr.step hg (fun r e => .inr e) hloc

end Go.Proofs.Ytekpapodepachaa

/- Whether shards have different numbers and the right lengths, as spec reckons it, by a walk of its text; conditions: the lists are short. -/
namespace Go.Proofs.Ytekpapodepachaa
open Go.RowKit

theorem ok_no1 {size need : Int} {L : List Sh} (h : ¬ (1 ≤ size ∧ size ≤ 12)) : joinOk size need L = false := by unfold joinOk; rw [decide_eq_false h]; rfl
theorem ok_no2 {size need : Int} {L : List Sh} (h : ¬ (1 ≤ need ∧ need ≤ 8)) : joinOk size need L = false := by unfold joinOk; rw [decide_eq_false h, Bool.and_false]; rfl
theorem ok_no3 {size need : Int} {L : List Sh} (h : ¬ (need ≤ L.length ∧ L.length ≤ 8)) : joinOk size need L = false := by unfold joinOk lenB; rw [decide_eq_false h, Bool.false_and, Bool.and_false]
theorem ok_eq {size need : Nat} {L : List Sh} (h1 : 1 ≤ (size : Int) ∧ (size : Int) ≤ 12) (h2 : 1 ≤ (need : Int) ∧ (need : Int) ≤ 8) (h3 : (need : Int) ≤ L.length ∧ L.length ≤ 8) : joinOk size need L = shsB ((size + need - 1) / need) L := by
  unfold joinOk lenB; rw [decide_eq_true h1, decide_eq_true h2, decide_eq_true h3]; simp
def neAt (L : List Sh) (k : Nat) : Nat → Bool := fun j => decide (xsOf L j ≠ xsOf L k)
def syAt (vs : List Int) : Nat → Bool := fun j => symB (vs.getD j 0)
theorem shAt_new {cols : Nat} {L : List Sh} {k j : Nat} (hj : j < k) (h : xsOf L j = xsOf L k) : shAt cols L k = false := by
  unfold shAt newAt; rw [allB_no hj (by simp [h]), Bool.and_false]
theorem shAt_yes2 {cols : Nat} {L : List Sh} {k : Nat} (hk : k < L.length) (h1 : 1 ≤ L[k].1 ∧ L[k].1 ≤ 8) (h : Upto (neAt L k) k) (hl : L[k].2.length = cols) (hs : L[k].2.all symB = true) : shAt cols L k = true := by
  unfold shAt okS newAt; rw [getS hk, decide_eq_true h1, decide_eq_true hl, hs, allB_yes (p := fun j => decide (xsOf L j ≠ xsOf L k)) h (Nat.le_refl _)]; rfl
theorem sy_all {vs : List Int} (h : Upto (syAt vs) vs.length) : vs.all symB = true := by
  rw [List.all_eq_true]
  intro y hy
  obtain ⟨j, hj, rfl⟩ := List.mem_iff_getElem.1 hy
  have := h j hj
  unfold syAt at this
  rwa [getD_get hj] at this
theorem sy_no {vs : List Int} {j : Nat} (hj : j < vs.length) (h : ¬ (0 ≤ vs[j] ∧ vs[j] ≤ 250)) : vs.all symB = false := by
  rw [List.all_eq_false]; exact ⟨vs[j], List.getElem_mem hj, by simp [symB_no h]⟩

end Go.Proofs.Ytekpapodepachaa

/- Rows of numbers in a list of lists, and the columns that spec solves; general steps and plain arithmetic, no walk and no condition of our own. -/
namespace Go.Proofs.Ytekpapodepachaa
open Go.RowKit

/-- A list of rows of numbers: the rows are never written, only replaced. -/
def Rws (E : TypeId) (w : World) (B g n : Nat) (F : Nat → List Int) : Prop :=
  B ≤ g ∧ ∃ cur, Str w g E cur ∧ ∀ k, k < n → ∃ b off c, cur[k]? = some (.slice (some ⟨b, off, none⟩) (F k).length c) ∧ B ≤ b ∧ b ≠ g ∧ b < w.heap.size ∧ ∀ j (h : j < (F k).length), w.cell? ⟨b, off + j, none⟩ = some (.int .i64 (F k)[j])
section
variable {E : TypeId} {w w' : World} {B g n : Nat} {F : Nat → List Int}
theorem Rws.at (h : Rws E w B g n F) {k : Nat} (hk : k < n) : ∃ b off c, w.cell? ⟨g, k, none⟩ = some (.slice (some ⟨b, off, none⟩) (F k).length c) ∧ B ≤ b ∧ b ≠ g ∧ b < w.heap.size ∧ ∀ j (h : j < (F k).length), w.cell? ⟨b, off + j, none⟩ = some (.int .i64 (F k)[j]) := by
  obtain ⟨_, cur, hs, hc⟩ := h
  obtain ⟨b, off, c, h1, h2⟩ := hc k hk
  exact ⟨b, off, c, hs.cell k h1, h2⟩
theorem Rws.frozen (h : Rws E w B g n F) (k : Nat) : w.frozen? ⟨g, k, none⟩ = false := by obtain ⟨_, cur, hs, _⟩ := h; exact hs.frozen k
theorem Rws.lt (h : Rws E w B g n F) : g < w.heap.size := by obtain ⟨_, cur, hs, _⟩ := h; exact hs.lt
theorem Rws.lo (h : Rws E w B g n F) : B ≤ g := h.1
theorem Rws.below (h : Rws E w B g n F) (hb : Below w.heap.size w w') : Rws E w' B g n F := by
  obtain ⟨h0, cur, hs, hc⟩ := h
  refine ⟨h0, cur, (hb.block _ hs.lt).trans hs, fun k hk => ?_⟩
  obtain ⟨b, off, c, h1, h2, h3, h4, h5⟩ := hc k hk
  exact ⟨b, off, c, h1, h2, h3, Nat.lt_of_lt_of_le h4 hb.size, fun j hj => (hb.cell (p := ⟨b, off + j, none⟩) h4).trans (h5 j hj)⟩
theorem Rws.congr {F' : Nat → List Int} (h : Rws E w B g n F) (he : ∀ k, k < n → F k = F' k) : Rws E w B g n F' := by
  obtain ⟨h0, cur, hs, hc⟩ := h
  refine ⟨h0, cur, hs, fun k hk => ?_⟩
  rw [← he k hk]; exact hc k hk
theorem Rws.set (h : Rws E w B g n F) {k : Nat} (hk : k < n) {b off c : Nat} {r : List Int} (h2 : B ≤ b) (h3 : b ≠ g) (h4 : b < w.heap.size) (h5 : ∀ j (h : j < r.length), w.cell? ⟨b, off + j, none⟩ = some (.int .i64 r[j])) :
    Rws E (w.setCell ⟨g, k, none⟩ (.slice (some ⟨b, off, none⟩) r.length c)) B g n (fun i => if i = k then r else F i) := by
  obtain ⟨h0, cur, hs, hc⟩ := h
  have hg := grownBy_set w g k (.slice (some ⟨b, off, none⟩) r.length c)
  refine ⟨h0, _, hs.set k _, fun i hi => ?_⟩
  have hsz : (w.setCell ⟨g, k, none⟩ (.slice (some ⟨b, off, none⟩) r.length c)).heap.size = w.heap.size := by simp [World.setCell]
  by_cases e : i = k
  · subst e
    have hlt : i < cur.size := by
      obtain ⟨b', off', c', e1, _⟩ := hc i hi
      exact (Array.getElem?_eq_some_iff.1 e1).1
    refine ⟨b, off, c, by simp [hlt], h2, h3, by omega, fun j hj => ?_⟩
    have hj' : j < r.length := by simpa using hj
    have := hg.cell (h5 j hj') (by simpa using h3)
    simpa using this
  · obtain ⟨b', off', c', e1, e2, e3, e4, e5⟩ := hc i hi
    refine ⟨b', off', c', by rw [Array.getElem?_setIfInBounds_ne (by omega)]; simpa [e] using e1, e2, e3, by omega, fun j hj => ?_⟩
    have hj' : j < (F i).length := by simpa [e] using hj
    have := hg.cell (e5 j hj') (by simpa using e3)
    simpa [e] using this
end
theorem rws_of_bld {E : TypeId} {w : World} {B n cap : Nat} {a : Option Addr} {rows : List (List Int)} (h : Bld E 1 w B (.slice a n cap) (rows.map fun r => [intsD r])) (hn : 0 < rows.length) (hr : ∀ r ∈ rows, 0 < r.length) :
    n = rows.length ∧ rows.length ≤ cap ∧ ∃ g, a = some ⟨g, 0, none⟩ ∧ Rws E w B g rows.length (fun k => rows.getD k []) := by
  obtain ⟨cs, ho, hc⟩ := h.row
  rw [List.length_map] at ho
  rcases ho.2 with ⟨_, h0⟩ | ⟨g, cap', cur, hv, hb, hg, hnc, hm, hs, ht⟩
  · omega
  simp only [Value.slice.injEq] at hv
  obtain ⟨rfl, rfl, rfl⟩ := hv
  refine ⟨rfl, hnc, g, rfl, hb, cur, hg, fun k hk => ?_⟩
  have hk' : k < (rows.map fun r => [intsD r]).length := by simpa using hk
  have hkr : rows.getD k [] = rows[k] := by simp [List.getD, List.getElem?_eq_getElem hk]
  obtain ⟨c, fp, h1, h2, h3⟩ := hc k hk' 0 (by simp)
  simp only [List.getElem_map, List.getElem_cons_zero] at h2
  obtain ⟨ar, cr, rfl, _, hi⟩ := Rd.ints h2
  have h1' : cs[k]? = some (.slice ar rows[k].length cr) := by simpa using h1
  have hcur : cur[k]? = some (.slice ar rows[k].length cr) := by
    have hkc : k < cs.length := (List.getElem?_eq_some_iff.1 h1').1
    have : (cur.toList.take (rows.length * 1))[k]? = some (.slice ar rows[k].length cr) := by rw [ht]; exact h1'
    rw [List.getElem?_take] at this
    split at this
    · simpa using this
    · cases this
  show ∃ b off c, cur[k]? = some (Value.slice (some ⟨b, off, none⟩) (rows.getD k []).length c) ∧ B ≤ b ∧ b ≠ g ∧ b < w.heap.size ∧ ∀ j (h : j < (rows.getD k []).length), w.cell? ⟨b, off + j, none⟩ = some (.int .i64 (rows.getD k [])[j])
  rw [hkr]
  obtain ⟨b, off, rfl, hbl, hcell⟩ := hi.cell (hr _ (List.getElem_mem hk))
  obtain ⟨b', off', e, _, hfp, _⟩ := Rd.at h2 (by simpa using hr _ (List.getElem_mem hk)) (sz := 1) (by intro e he; simp at he; obtain ⟨x, _, rfl⟩ := he; rfl)
  simp only [Option.some.injEq, Addr.mk.injEq] at e
  obtain ⟨rfl, _, _⟩ := e
  obtain ⟨h4, h5⟩ := h3 b hfp
  exact ⟨b, off, cr, hcur, h4, fun e => h5 (by rw [e]; rfl), hbl, hcell⟩

/-! the rows of a column -/
def colE (need col : Nat) (e : Eqn) : Nat → Int := fun k => if k < need then e k else e (8 + col)
def rowE (need col : Nat) (e : Eqn) : List Int := (List.range (need + 1)).map (colE need col e)
theorem rowE_len (need col : Nat) (e : Eqn) : (rowE need col e).length = need + 1 := by simp [rowE]
theorem rowE_get {need col : Nat} {e : Eqn} {k : Nat} (h : k < (rowE need col e).length) : (rowE need col e)[k] = colE need col e k := by simp [rowE]
theorem colE_bd {need col : Nat} {e : Eqn} (h : ∀ i, 0 ≤ e i ∧ e i ≤ 250) (k : Nat) : 0 ≤ colE need col e k ∧ colE need col e k ≤ 250 := by
  unfold colE; split <;> exact h _
theorem rowE_eq {need col : Nat} {x : Int} {vs : List Int} (hn : need ≤ 8) : rowE need col (eqOf need x vs) = ((List.range need).map fun k => powF x k) ++ [vs.getD col 0] := by
  unfold rowE
  rw [List.range_succ, List.map_append]
  congr 1
  · refine List.map_congr_left fun k hk => ?_
    have hk := List.mem_range.1 hk
    unfold colE eqOf; rw [if_pos hk, if_pos hk]
  · simp only [List.map_cons, List.map_nil]
    unfold colE eqOf
    rw [if_neg (by omega), if_neg (by omega), if_neg (by omega), show 8 + col - 8 = col by omega]
theorem colE_tms (need col : Nat) (e : Eqn) (c : Int) (k : Nat) : colE need col (tmsE e c) k = colE need col e k * c % 251 := by
  unfold colE tmsE; split <;> rfl
theorem wth_mod (x f r : Int) : (x + 251 - r * f % 251) % 251 = (x + (251 - f) * r) % 251 := by
  have h : Cg (x + 251 - r * f % 251) (x + (251 - f) * r) := by
    have e : x + (251 - f) * r = (x + 251 - r * f) + 251 * (r - 1) := by grind
    rw [e]
    exact ((Cg.refl (x + 251)).sub (Cg.mod (r * f))).trans ⟨-(r - 1), by omega⟩
  obtain ⟨k, hk⟩ := h
  rw [hk]; omega
theorem colE_wth (need col : Nat) (e r : Eqn) (f : Int) (k : Nat) : colE need col (wthE e (tmsE r f)) k = (colE need col e k + (251 - f) * colE need col r k) % 251 := by
  unfold colE wthE tmsE
  split <;> exact wth_mod _ _ _
theorem elimC_self (S : Nat → Eqn) (p m : Nat) : elimTo S p m p = tmsE (S p) (invZ (S p p)) := by unfold elimTo; rw [if_pos rfl]
theorem elimC_later {S : Nat → Eqn} {p m k : Nat} (h : k ≠ p) (hk : m ≤ k) : elimTo S p m k = S k := by unfold elimTo; rw [if_neg h, if_neg (by omega)]
theorem elimC_step {S : Nat → Eqn} {p m : Nat} (h : m ≠ p) : elimTo S p (m + 1) = fun k => if k = m then wthE (S m) (tmsE (tmsE (S p) (invZ (S p p))) (S m p)) else elimTo S p m k := by
  funext k
  unfold elimTo
  by_cases e : k = m
  · subst e; rw [if_neg h, if_pos (by omega), if_pos rfl]
  · rw [if_neg e]
    by_cases e2 : k = p
    · rw [if_pos e2, if_pos e2]
    · rw [if_neg e2, if_neg e2]
      by_cases e3 : k < m
      · rw [if_pos (by omega), if_pos e3]
      · rw [if_neg (by omega), if_neg e3]
theorem elimC_skip (S : Nat → Eqn) (p : Nat) : elimTo S p (p + 1) = elimTo S p p := by
  funext k
  unfold elimTo
  by_cases e2 : k = p
  · rw [if_pos e2, if_pos e2]
  · rw [if_neg e2, if_neg e2]
    by_cases e3 : k < p
    · rw [if_pos (by omega), if_pos e3]
    · rw [if_neg (by omega), if_neg e3]
theorem elimC_zero (S : Nat → Eqn) (p : Nat) : elimTo S p 0 = fun k => if k = p then tmsE (S p) (invZ (S p p)) else S k := by
  funext k
  unfold elimTo
  by_cases e2 : k = p
  · subst e2; rw [if_pos rfl, if_pos rfl]
  · rw [if_neg e2, if_neg e2, if_neg (by omega)]

end Go.Proofs.Ytekpapodepachaa

/- What spec's elimination finds for a column, by a walk of its text; conditions: as many shards as suffice, with different numbers and one to twelve values each. -/
namespace Go.Proofs.Ytekpapodepachaa
open Go.RowKit

theorem ints_info : (Try.prog.info? 23).map (fun i => (i.zero, i.size, i.bytes)) = some (some (.slice none 0 0), 1, 24) := by kernel_rfl

theorem own_cell {E : TypeId} {W : World} {B B0 : Nat} {v u : Value} {xs : List Int} (hlt : ∀ g, v.ownBlock = some g → B ≤ g ∧ g < B0) (hB : B ≤ B0) (h : Own E W B0 u xs) : CellsRd W B v.ownBlock [u] [intsD xs] := by
  obtain ⟨fp, hr, hf⟩ := Rd.of_own h
  intro j hj
  match j, hj with
  | 0, _ => exact ⟨u, fp, rfl, hr, fun r hm => ⟨by have := (hf r hm).1; omega, fun e => by have := (hf r hm).1; have := (hlt r e).2; omega⟩⟩

end Go.Proofs.Ytekpapodepachaa

/- Arguments that came in, read as data: numbers, truth values, texts, slices of these and of structs of these; general steps, nothing here speaks of the program. -/
namespace Go.Proofs.Ytekpapodepachaa
open Go.ChangeShapes Go.WideShapes Go.ChangeAt Go.RowKit

section
variable {H : Type} {enc : TypeId × Value → H} {P : Program} {W : World}

/-- A one-cell value of type t that came in reads as a datum with G. -/
def Opens (H : Type) (enc : TypeId × Value → H) (P : Program) (W : World) (t : TypeId) (G : Dt → Prop) : Prop :=
  P.cellsOf t = 1 ∧ ∀ fuel c x, DataW.trod enc P W 0 (fun _ => true) true fuel t [c] = some x → ∃ d fp, Rd W d c fp ∧ G d
def IntG (d : Dt) : Prop := ∃ n, d = .i n ∧ (-9223372036854775808 ≤ n ∧ n ≤ 9223372036854775807)
def BoolG (d : Dt) : Prop := ∃ x, d = .b x
def StrG (d : Dt) : Prop := ∃ s : ByteArray, d = .s s ∧ s.size ≤ maxLen
/-- A list whose elements are rows of these. -/
def RowsG (Gs : List (Dt → Prop)) (d : Dt) : Prop := ∃ es : List (List Dt), d = .l es ∧ es.length ≤ maxLen ∧ ∀ e ∈ es, e.length = Gs.length ∧ ∀ j (h : j < e.length) (h' : j < Gs.length), Gs[j] e[j]
theorem opens_int {t : TypeId} (ht : P.underlying t = some (.int .i64)) (hc : P.cellsOf t = 1) : Opens H enc P W t IntG := ⟨hc, fun fuel c x h => by
  obtain ⟨n, e, _, hw⟩ := DataW.trod_int ht h
  obtain rfl : c = .int .i64 n := by simpa using e
  exact ⟨.i n, [], .i n, n, rfl, wf_i64 hw⟩⟩
theorem opens_bool {t : TypeId} (ht : P.underlying t = some .bool) (hc : P.cellsOf t = 1) : Opens H enc P W t BoolG := ⟨hc, fun fuel c x h => by
  obtain ⟨n, e, _⟩ := DataW.trod_bool ht h
  obtain rfl : c = .bool n := by simpa using e
  exact ⟨.b n, [], .b n, n, rfl⟩⟩
theorem opens_str {t : TypeId} (ht : P.underlying t = some .string) (hc : P.cellsOf t = 1) : Opens H enc P W t StrG := ⟨hc, fun fuel c x h => by
  obtain ⟨n, e, _, hs⟩ := DataW.trod_string ht h
  obtain rfl : c = .string n := by simpa using e
  exact ⟨.s n, [], .s n, n, rfl, hs⟩⟩
theorem mapM_some {α β : Type} {f : α → Option β} : ∀ {l : List α} {r : List β}, l.mapM f = some r → r.length = l.length ∧ ∀ i (h : i < l.length) (h' : i < r.length), f l[i] = some r[i]
  | [], r, h => by
    have : r = [] := by simpa using h.symm
    subst this
    exact ⟨rfl, fun i h => by simp at h⟩
  | x :: l, r, h => by
    rw [List.mapM_cons] at h
    simp only [Option.bind_eq_bind, Option.bind_eq_some_iff, Option.pure_def, Option.some.injEq] at h
    obtain ⟨y, hy, ys, hys, rfl⟩ := h
    obtain ⟨h1, h2⟩ := mapM_some hys
    refine ⟨by simp [h1], fun i hi hi' => ?_⟩
    cases i with
    | zero => simpa using hy
    | succ i => simpa using h2 i (by simpa using hi) (by simpa using hi')
/-- A slice's elements, whatever reads each of them. -/
theorem opens_slice_by {T e : TypeId} {sz : Nat} {Gs : List (Dt → Prop)} (hT : P.underlying T = some (.slice e)) (hc : P.cellsOf T = 1) (hsz : P.cellsOf e = sz) (hpos : 0 < sz) (hg : Gs.length = sz)
    (hE : ∀ fuel cs x, cs.length = sz → DataW.trod enc P W 0 (fun _ => true) true fuel e cs = some x → ∀ j (h : j < cs.length) (h' : j < Gs.length), ∃ d fp, Rd W d cs[j] fp ∧ Gs[j] d) : Opens H enc P W T (RowsG Gs) := by
  refine ⟨hc, fun fuel c x h => ?_⟩
  rcases Go.Deep.open_slice hT h with ⟨e1, _⟩ | ⟨a, len, cap, m, n, D, Pl, e1, _, hlc, hcm, hm, _, hel⟩
  · obtain rfl : c = .slice none 0 0 := by simpa using e1
    exact ⟨.l [], [], .nil _ _ (fun _ => rfl), [], rfl, by simp, by simp⟩
  · obtain rfl : c = .slice (some a) len cap := by simpa using e1
    rw [if_pos rfl] at hm
    have hm' := hm.symm
    subst hm'
    rcases Nat.eq_zero_or_pos len with h0 | h0
    · subst h0; exact ⟨.l [], [], .nil _ _ (fun e => by cases e), [], rfl, by simp, by simp⟩
    · have hrow : ∀ i, i < len → ∃ cs : List Value, cs.length = sz ∧ (∀ j (h : j < cs.length), W.cell? ((a.add (i * sz)).add j) = some cs[j]) ∧ ∀ j (h : j < cs.length) (h' : j < Gs.length), ∃ d fp, Rd W d cs[j] fp ∧ Gs[j] d := by
        intro i hi
        obtain ⟨cs, h1, h2⟩ := hel i (by omega)
        rw [hsz] at h1
        unfold World.cells? at h1
        rw [if_pos (Nat.zero_le _)] at h1
        obtain ⟨hl, hcell⟩ := mapM_some h1
        rw [List.length_range] at hl
        exact ⟨cs, hl, fun j hj => by have := hcell j (by rw [List.length_range]; omega) hj; rwa [List.getElem_range] at this, hE n cs _ hl h2⟩
      obtain ⟨cs0, hl0, hc0, _⟩ := hrow 0 h0
      obtain ⟨b, off, spot⟩ := a
      have hspot : spot = none := by
        have := hc0 0 (by omega)
        simpa [Addr.add] using World.cell?_spot this
      subst hspot
      have hblt : b < W.heap.size := by
        have := hc0 0 (by omega)
        rw [show ((⟨b, off, none⟩ : Addr).add (0 * sz)).add 0 = ⟨b, off, none⟩ by simp [Addr.add]] at this
        exact World.block_lt_of_cell? W _ this
      have hex : ∀ k j, ∃ p : Value × Dt × List Nat, ∀ (_ : k < len) (_ : j < sz), W.cell? ⟨b, off + (k * sz + j), none⟩ = some p.1 ∧ Rd W p.2.1 p.1 p.2.2 ∧ ∀ (h' : j < Gs.length), Gs[j] p.2.1 := by
        intro k j
        by_cases hk : k < len
        · by_cases hj : j < sz
          · obtain ⟨cs, hl, hcc, hr⟩ := hrow k hk
            obtain ⟨d, fp, h1, h2⟩ := hr j (by omega) (by omega)
            refine ⟨(cs[j]'(by omega), d, fp), fun _ _ => ⟨?_, h1, fun _ => h2⟩⟩
            have := hcc j (by omega)
            rwa [addr_add', addr_add', Nat.add_assoc] at this
          · exact ⟨(undef, .i 0, []), fun _ h => absurd h hj⟩
        · exact ⟨(undef, .i 0, []), fun h => absurd h hk⟩
      obtain ⟨F, hF⟩ : ∃ F : Nat → Nat → Value × Dt × List Nat, ∀ k j (_ : k < len) (_ : j < sz), W.cell? ⟨b, off + (k * sz + j), none⟩ = some (F k j).1 ∧ Rd W (F k j).2.1 (F k j).1 (F k j).2.2 ∧ ∀ (h' : j < Gs.length), Gs[j] (F k j).2.1 :=
        ⟨fun k j => Classical.choose (hex k j), fun k j => Classical.choose_spec (hex k j)⟩
      obtain ⟨es, hes⟩ : ∃ es : List (List Dt), es = (List.range len).map fun k => (List.range sz).map fun j => (F k j).2.1 := ⟨_, rfl⟩
      have hel' : es.length = len := by rw [hes]; simp
      have hget : ∀ k j (hk : k < es.length) (hj : j < (es[k]).length), (es[k])[j] = (F k j).2.1 := fun k j hk hj => by subst hes; simp
      have hrl : ∀ e ∈ es, e.length = sz := by intro e he; rw [hes] at he; obtain ⟨k, _, rfl⟩ := List.mem_map.1 he; simp
      have hrd := Rd.l (w := W) sz es b off cap (fun k j => (F k j).1) (fun k j => (F k j).2.2) (by omega) hrl (by omega) hblt (fun k j hk hj => (hF k j (by omega) hj).1)
        (fun k j hk hj => by rw [hget k j hk hj]; exact (hF k j (by omega) (by rw [← hrl _ (List.getElem_mem hk)]; exact hj)).2.1)
      rw [hel'] at hrd
      refine ⟨.l es, _, hrd, es, rfl, by omega, fun e he => ⟨by rw [hrl e he, hg], fun j hj hj' => ?_⟩⟩
      obtain ⟨k, hk, rfl⟩ := List.mem_iff_getElem.1 he
      rw [hget k j hk hj]
      exact (hF k j (by omega) (by omega)).2.2 hj'
/-- A slice of one-cell elements. -/
theorem opens_slice {T e : TypeId} {G : Dt → Prop} (hT : P.underlying T = some (.slice e)) (hc : P.cellsOf T = 1) (hE : Opens H enc P W e G) : Opens H enc P W T (RowsG [G]) :=
  opens_slice_by (sz := 1) hT hc hE.1 (by omega) rfl fun fuel cs x hl h j hj hj' => by
    have : j = 0 := by omega
    subst this
    match cs, hl with
    | [c], _ => exact hE.2 fuel c x h
/-- The fields of a struct, each in one cell. -/
theorem fields_open {t : TypeId} {fs : Array Field} {Gs : List (Dt → Prop)} (ht : P.underlying t = some (.struct fs)) (_hg : Gs.length = fs.size) (hf : ∀ j (h : j < fs.size) (h' : j < Gs.length), (fs[j]).offset = j ∧ Opens H enc P W (fs[j]).type Gs[j])
    (fuel : Nat) (cs : List Value) (x : DataW H × List MemPlace) (hl : cs.length = fs.size) (h : DataW.trod enc P W 0 (fun _ => true) true fuel t cs = some x) : ∀ j (h : j < cs.length) (h' : j < Gs.length), ∃ d fp, Rd W d cs[j] fp ∧ Gs[j] d := by
  obtain ⟨xs, n, _, rfl, hl', hlen, hff⟩ := DataW.trod_struct ht h
  intro j hj hj'
  have hjf : j < fs.size := by omega
  obtain ⟨ho, hO⟩ := hf j hjf hj'
  have := hff j (fs[j]) (by simp [hjf])
  rw [ho, hO.1] at this
  have hd : (cs.drop j).take 1 = [cs[j]] := by
    rw [List.drop_eq_getElem_cons hj]; rfl
  rw [hd, List.getElem?_eq_getElem (show j < xs.length by omega)] at this
  exact hO.2 n _ _ this
/-- A slice of structs. -/
theorem opens_slice_struct {T e : TypeId} {fs : Array Field} {Gs : List (Dt → Prop)} (hT : P.underlying T = some (.slice e)) (hc : P.cellsOf T = 1) (he : P.underlying e = some (.struct fs)) (hsz : P.cellsOf e = fs.size) (hpos : 0 < fs.size) (hg : Gs.length = fs.size)
    (hf : ∀ j (h : j < fs.size) (h' : j < Gs.length), (fs[j]).offset = j ∧ Opens H enc P W (fs[j]).type Gs[j]) : Opens H enc P W T (RowsG Gs) :=
  opens_slice_by hT hc hsz hpos hg fun fuel cs x hl h => fields_open he hg hf fuel cs x hl h
/-- A struct by value. -/
theorem open_struct {t : TypeId} {fs : Array Field} {Gs : List (Dt → Prop)} {base : Nat} {v : Value} {d : DataW H} {p : List MemPlace} (ht : P.underlying t = some (.struct fs)) (hsz : P.cellsOf t = fs.size) (hg : Gs.length = fs.size) (hf : ∀ j (h : j < fs.size) (h' : j < Gs.length), (fs[j]).offset = j ∧ Opens H enc P W (fs[j]).type Gs[j])
    (hv : Value.okWide P W .any base t v) (h : DataW.Trod enc P W 0 (fun _ => true) true t v d p) : ∃ cs : List Value, v = .agg cs.toArray ∧ cs.length = fs.size ∧ ∀ j (h : j < cs.length) (h' : j < Gs.length), ∃ d fp, Rd W d cs[j] fp ∧ Gs[j] d := by
  unfold Value.okWide at hv
  rw [ht] at hv
  obtain ⟨cs, rfl, hs, _⟩ := hv
  obtain ⟨fuel, hf'⟩ := h
  refine ⟨cs.toList, by simp, by rw [Array.length_toList, hs, hsz], ?_⟩
  exact fields_open ht hg hf fuel cs.toList _ (by rw [Array.length_toList, hs, hsz]) hf'
/-- A one-cell value. -/
theorem open_cell {t : TypeId} {G : Dt → Prop} {v : Value} {d : DataW H} {p : List MemPlace} (hO : Opens H enc P W t G) (hna : v.cells = #[v]) (h : DataW.Trod enc P W 0 (fun _ => true) true t v d p) : ∃ d fp, Rd W d v fp ∧ G d := by
  obtain ⟨fuel, hf⟩ := h
  rw [hna] at hf
  exact hO.2 fuel v _ hf
end
/-- A list of numbers. -/
theorem ints_of {d : Dt} (h : RowsG [IntG] d) : ∃ xs, d = intsD xs ∧ xs.length ≤ maxLen ∧ ∀ x ∈ xs, -9223372036854775808 ≤ x ∧ x ≤ 9223372036854775807 := by
  obtain ⟨es, rfl, hl, he⟩ := h
  refine ⟨es.map fun e => match e with | [.i n] => n | _ => 0, ?_, by simpa using hl, ?_⟩
  · unfold intsD
    congr 1
    rw [List.map_map]
    conv => lhs; rw [← List.map_id es]
    refine List.map_congr_left fun e hm => ?_
    obtain ⟨h1, h2⟩ := he e hm
    match e, h1, h2 with
    | [d], _, h2 =>
      obtain ⟨n, hn, _⟩ := h2 0 (by simp) (by simp)
      simp only [List.getElem_cons_zero] at hn
      subst hn; rfl
  · intro x hx
    obtain ⟨e, hm, rfl⟩ := List.mem_map.1 hx
    obtain ⟨h1, h2⟩ := he e hm
    match e, h1, h2 with
    | [d], _, h2 =>
      obtain ⟨n, hn, hr⟩ := h2 0 (by simp) (by simp)
      simp only [List.getElem_cons_zero] at hn
      subst hn; exact hr

end Go.Proofs.Ytekpapodepachaa

/- Whether a shard belongs to data, as spec reckons it, and the exact laws' copies and sizes of a shard, each by a walk of its text; conditions: a list that is read has fewer than 2^40 elements, the numbers are ints. -/
namespace Go.Proofs.Ytekpapodepachaa
open Go.RowKit

end Go.Proofs.Ytekpapodepachaa

/- What spec's join of shards is, by a walk of its text; conditions: the lists are short. -/
namespace Go.Proofs.Ytekpapodepachaa
open Go.RowKit

def eAt (need : Nat) (L : List Sh) (i : Nat) : Int := stAt need (eqs0 need (xsOf L) (vsOf L) need) need (i % need) (8 + i / need)
def allS (need : Nat) (L : List Sh) (c : Nat) : List Int := (List.range (c * need)).map (eAt need L)
theorem allS_len (need : Nat) (L : List Sh) (c : Nat) : (allS need L c).length = c * need := by simp [allS]
theorem eAt_col {need c i : Nat} (L : List Sh) (h : i < need) : eAt need L (c * need + i) = stAt need (eqs0 need (xsOf L) (vsOf L) need) need i (8 + c) := by
  unfold eAt
  rw [Nat.mul_comm c need, Nat.mul_add_mod, Nat.mod_eq_of_lt h, Nat.mul_add_div (by omega), Nat.div_eq_of_lt h, Nat.add_zero]
theorem allS_succ (need : Nat) (L : List Sh) (c : Nat) : allS need L (c + 1) = allS need L c ++ (List.range need).map fun i => stAt need (eqs0 need (xsOf L) (vsOf L) need) need i (8 + c) := by
  unfold allS
  rw [Nat.add_mul, Nat.one_mul, List.range_add, List.map_append, List.map_map]
  congr 1
  refine List.map_congr_left fun i hi => ?_
  exact eAt_col L (List.mem_range.1 hi)
theorem allS_take {need : Nat} {L : List Sh} {c size : Nat} (h : size ≤ c * need) : (allS need L c).take size = dataI size need L := by
  unfold allS dataI
  rw [← List.map_take, List.take_range, Nat.min_eq_left h]; rfl
theorem eAt_bd {need : Nat} {L : List Sh} {cols : Nat} (hok : shsB cols L = true) (hn : need ≤ L.length) (i : Nat) : 0 ≤ eAt need L i ∧ eAt need L i ≤ 250 := by
  refine stAt_bd (eqs0_bd fun k hk => ?_) need need _ _
  have := (shsB_at hok (show k < L.length by omega)).1.2.2
  unfold vsOf; rw [getS (by omega)]; exact this
theorem dataI_ok {size need : Nat} {L : List Sh} {cols : Nat} (hok : shsB cols L = true) (hn : need ≤ L.length) (hs : 1 ≤ size ∧ size ≤ 12) (hn8 : 1 ≤ need ∧ need ≤ 8) : dataB (dataI size need L) need = true := by
  unfold dataB
  simp only [Bool.and_eq_true, decide_eq_true_eq, List.all_eq_true, dataI_len]
  refine ⟨⟨fun y hy => ?_, hs⟩, by omega⟩
  unfold dataI at hy
  obtain ⟨i, _, rfl⟩ := List.mem_map.1 hy
  exact symB_yes (eAt_bd hok hn i)
/-- If the data has all shards, the padding that elimination finds is 0. -/
theorem pad_zero {size need : Nat} {L : List Sh} (h1 : 1 ≤ need) (h8 : need ≤ 8) (hn : need ≤ L.length) (hs : size ≤ 12) (hok : shsB ((size + need - 1) / need) L = true) (hm : L.all (matB (dataI size need L) need) = true) {i : Nat} (hi : size ≤ i) (hi2 : i < (size + need - 1) / need * need) : eAt need L i = 0 := by
  have hcn : colsN (dataI size need L) need = (size + need - 1) / need := by unfold colsN; rw [dataI_len]
  have hc : i / need < colsN (dataI size need L) need := by rw [hcn]; exact Nat.div_lt_of_lt_mul (by rw [Nat.mul_comm]; exact hi2)
  have hc12 := cols_le (d := dataI size need L) h1 (by rw [dataI_len]; exact hs)
  have hv : ∀ j, j < need → vsOf L j = shardV (dataI size need L) need (xsOf L j) := by
    intro j hj
    have := List.all_eq_true.1 hm _ (List.getElem_mem (show j < L.length by omega))
    unfold matB at this
    simp only [Bool.and_eq_true, decide_eq_true_eq, Int.toNat_natCast] at this
    unfold vsOf xsOf; rw [getS (by omega)]; exact this.2.symm
  have hb : ∀ k, k < need → ∀ y ∈ vsOf L k, 0 ≤ y ∧ y ≤ 250 := fun k hk => by
    have := (shsB_at hok (show k < L.length by omega)).1.2.2
    unfold vsOf; rw [getS (by omega)]; exact this
  have := solve_at h8 hb (fun i j hi hj => xs_nz hok i j (by omega) hj) (c := i / need) (by omega) (fun k => (dataI size need L).getD (i / need * need + k) 0) (fun j hj => by
    rw [hv j hj, shard_getD hc]; exact (val_sm _ need (i / need) (xsOf L j) need).symm) (i % need) (Nat.mod_lt _ h1)
  simp only [idx_div] at this
  rw [List.getD_eq_getElem?_getD, List.getElem?_eq_none (by rw [dataI_len]; exact hi)] at this
  exact this.eq (eAt_bd hok hn i) (by simp)

end Go.Proofs.Ytekpapodepachaa

/- The reference's test of parts of the coin and its join of them, each by a walk of its text; condition: the list is no longer than 2^20. -/
namespace Go.Proofs.Ytekpapodepachaa
open Go.RowKit

/-- A list of parts in memory. -/
def Cps (w : World) (l : List Cp) (v : Value) (fp : List Nat) : Prop := Rd w (rowsD (l.map cpF)) v fp
theorem Cps.under {w w' : World} {l : List Cp} {v : Value} {fp : List Nat} (h : Cps w l v fp) (hb : Below w.heap.size w w') : Cps w' l v fp := Rd.under h hb
theorem Cps.slice {w : World} {l : List Cp} {v : Value} {fp : List Nat} (h : Cps w l v fp) : ∃ a cap, v = .slice a l.length cap := by
  obtain ⟨a, cap, rfl⟩ := Rd.slice h
  exact ⟨a, cap, by simp⟩
theorem Cps.at {w : World} {l : List Cp} {a : Option Addr} {n cap : Nat} {fp : List Nat} (h : Cps w l (.slice a n cap) fp) (hne : 0 < l.length) : ∃ b off, a = some ⟨b, off, none⟩ ∧ b < w.heap.size ∧ ∀ k (hk : k < l.length),
    w.cell? ⟨b, off + k * 2, none⟩ = some (.int .i64 l[k].1) ∧ w.cell? ⟨b, off + k * 2 + 1, none⟩ = some (.int .i64 l[k].2) := by
  obtain ⟨b, off, rfl, hb, hc⟩ := rows_at (es := l.map cpF) (m := 2) h (by simpa using hne) (fun e he => by obtain ⟨x, _, rfl⟩ := List.mem_map.1 he; rfl)
  refine ⟨b, off, rfl, hb, fun k hk => ?_⟩
  have hk' : k < (l.map cpF).length := by simpa using hk
  have he : (l.map cpF)[k] = cpF l[k] := by simp
  obtain ⟨c0, _, h0, r0⟩ := hc k hk' 0 (by rw [he]; simp [cpF])
  obtain ⟨c1, _, h1, r1⟩ := hc k hk' 1 (by rw [he]; simp [cpF])
  obtain rfl := rd_i r0 (x := l[k].1) (by simp only [he]; rfl)
  obtain rfl := rd_i r1 (x := l[k].2) (by simp only [he]; rfl)
  exact ⟨h0, h1⟩

/-- Parts, up to k. -/
def okCp (l : List Cp) (k : Nat) : Bool := okAt 7 (cpM l) k && symB ((cpV l).getD k 0)
theorem parts_upto (l : List Cp) : allB (okCp l) l.length = partsB l := by
  rw [Bool.eq_iff_iff]
  constructor
  · intro h
    have hu := allB_upto h
    unfold partsB membersB
    rw [Bool.and_eq_true, cpM_len, List.all_eq_true]
    refine ⟨allB_yes (k := l.length) (fun j hj => ?_) (Nat.le_refl _), fun x hx => ?_⟩
    · have := hu j hj; unfold okCp at this; rw [Bool.and_eq_true] at this; exact this.1
    · obtain ⟨j, hj, rfl⟩ := List.mem_iff_getElem.1 hx
      have hj' : j < l.length := by rw [cpV_len] at hj; exact hj
      have := hu j hj'; unfold okCp at this; rw [Bool.and_eq_true, getD_get hj] at this; exact this.2
  · intro h
    unfold partsB membersB at h
    rw [Bool.and_eq_true, cpM_len, List.all_eq_true] at h
    refine allB_yes (k := l.length) (fun j hj => ?_) (Nat.le_refl _)
    unfold okCp
    rw [Bool.and_eq_true, getD_get (by rw [cpV_len]; exact hj)]
    exact ⟨allB_upto h.1 j hj, h.2 _ (List.getElem_mem _)⟩
theorem cpM_getD {l : List Cp} {k : Nat} (h : k < l.length) : (cpM l).getD k 0 = l[k].1 := by rw [getD_get (by rw [cpM_len]; exact h), cpM_get]
theorem cpV_getD {l : List Cp} {k : Nat} (h : k < l.length) : (cpV l).getD k 0 = l[k].2 := by rw [getD_get (by rw [cpV_len]; exact h), cpV_get]
theorem okCp_at {l : List Cp} {k : Nat} (hk : k < l.length) : okCp l k = decide ((0 ≤ l[k].1 ∧ l[k].1 ≤ 6) ∧ (0 ≤ l[k].2 ∧ l[k].2 ≤ 250) ∧ (k = 0 ∨ (cpM l).getD (k - 1) 0 < l[k].1)) := by
  unfold okCp okAt
  rw [cpM_getD hk, cpV_getD hk, symB_dec, ← Bool.decide_and, decide_eq_decide]
  constructor
  · rintro ⟨⟨h0, h1, h2⟩, h3⟩; exact ⟨⟨h0, by omega⟩, h3, h2⟩
  · rintro ⟨⟨h0, h1⟩, h3, h2⟩; exact ⟨⟨h0, by omega, h2⟩, h3⟩

theorem shL_succ {l : List Cp} {k : Nat} (h : k < l.length) : (shL l).take (k + 1) = (shL l).take k ++ [(l[k].1 + 1, [l[k].2])] := by
  rw [List.take_succ_eq_append_getElem (by rw [shL_len]; exact h)]
  simp [shL]
theorem one_cells {w : World} {B : Nat} {blk : Option Nat} {g : Nat} {m z : Int} (hg : B ≤ g) (hb : blk ≠ some g) (hgl : g < w.heap.size) (hc : w.cell? ⟨g, 0, none⟩ = some (.int .i64 z)) :
    CellsRd w B blk [.int .i64 m, .slice (some ⟨g, 0, none⟩) 1 1] (shardD (m, [z])) := by
  intro j hj
  have hj2 : j < 2 := by simpa [shardD] using hj
  match j, hj2 with
  | 0, _ => exact ⟨_, [], rfl, .i _, fun r hr => by simp at hr⟩
  | 1, _ =>
    have h := Rd.of_ints (w := w) (xs := [z]) (g := g) (off := 0) (cap := 1) (by simp) (by simp) hgl (fun j hj => by
      have : j = 0 := by simpa using hj
      subst this; exact hc)
    exact ⟨_, _, rfl, h, fun r hr => by simp at hr; subst hr; exact ⟨hg, hb⟩⟩

end Go.Proofs.Ytekpapodepachaa

/- Parts of a list that reads as data: its head and its tail; general steps, nothing here speaks of the program. -/
namespace Go.Proofs.Ytekpapodepachaa
open Go.RowKit

theorem Rd.cut {w : World} {es : List (List Dt)} {g off n cap sz : Nat} {fp : List Nat} (h : Rd w (.l es) (.slice (some ⟨g, off, none⟩) n cap) fp) (hsz : ∀ e ∈ es, e.length = sz) (k m o2 cap2 : Nat) (hk : k + m ≤ es.length) (ho : 0 < m → o2 = off + k * sz) (hcap2 : k + m ≤ cap → m ≤ cap2) :
    ∃ fp', Rd w (.l ((es.drop k).take m)) (.slice (some ⟨g, o2, none⟩) m cap2) fp' ∧ ∀ r ∈ fp', r ∈ fp := by
  rcases Nat.eq_zero_or_pos m with h0 | h0
  · subst h0
    exact ⟨[], by rw [List.take_zero]; exact .nil _ _ (fun e => by cases e), by simp⟩
  · generalize hd : Dt.l es = d at h
    generalize hv : Value.slice (some ⟨g, off, none⟩) n cap = v at h
    cases h with
    | i n => cases hd
    | b x => cases hd
    | s t => cases hd
    | nil a cap hn => cases hd; simp at hk; omega
    | l sz' es' g' off' cap' V F hne' hsz' hcap hgl hc hrd =>
      cases hd
      simp only [Value.slice.injEq, Option.some.injEq, Addr.mk.injEq, and_true] at hv
      obtain ⟨⟨rfl, rfl⟩, rfl, rfl⟩ := hv
      have hss : sz' = sz := by
        have h0 := List.getElem_mem hne'
        rw [← hsz' _ h0, hsz _ h0]
      subst hss
      have hl : ((es.drop k).take m).length = m := by rw [List.length_take, List.length_drop]; omega
      have hget : ∀ i (hi : i < ((es.drop k).take m).length) (hi' : k + i < es.length), ((es.drop k).take m)[i] = es[k + i] := by
        intro i hi hi'
        rw [List.getElem_take, List.getElem_drop]
      have := Rd.l (w := w) sz' ((es.drop k).take m) g o2 cap2 (fun i j => V (k + i) j) (fun i j => F (k + i) j) (by omega) (fun e he => hsz' e (List.mem_of_mem_drop (List.mem_of_mem_take he))) (by rw [hl]; exact hcap2 (by omega)) hgl
        (fun i j hi hj => by
          rw [ho h0, show off + k * sz' + (i * sz' + j) = off + ((k + i) * sz' + j) by rw [Nat.add_mul]; omega]
          exact hc (k + i) j (by omega) hj)
        (fun i j hi hj => by
          have hi' : k + i < es.length := by omega
          have e := hget i hi hi'
          simp only [e] at hj ⊢
          exact hrd (k + i) j hi' hj)
      rw [hl] at this
      refine ⟨_, this, fun r hr => ?_⟩
      rcases List.mem_cons.1 hr with rfl | hr
      · simp
      · obtain ⟨i, hi, hr⟩ := List.mem_flatMap.1 hr
        obtain ⟨j, hj, hr⟩ := List.mem_flatMap.1 hr
        rw [List.mem_range] at hi hj
        exact List.mem_cons_of_mem _ (List.mem_flatMap.2 ⟨k + i, List.mem_range.2 (by omega), List.mem_flatMap.2 ⟨j, List.mem_range.2 hj, hr⟩⟩)
theorem Rd.lens {w : World} {es : List (List Dt)} {a : Option Addr} {n cap : Nat} {fp : List Nat} (h : Rd w (.l es) (.slice a n cap) fp) : n = es.length := by
  obtain ⟨a', c', e⟩ := Rd.slice h
  cases e; rfl
/-- The tail of a list, and where it lies. -/
theorem Rd.tail {w : World} {es : List (List Dt)} {g off n cap sz : Nat} {fp : List Nat} (h : Rd w (.l es) (.slice (some ⟨g, off, none⟩) n cap) fp) (hsz : ∀ e ∈ es, e.length = sz) (k : Nat) (hk : k ≤ es.length) :
    ∃ o2, (if cap = k then some (⟨g, off, none⟩ : Addr) else some ⟨g, off + k * sz, none⟩) = some ⟨g, o2, none⟩ ∧ ∃ fp', Rd w (.l (es.drop k)) (.slice (some ⟨g, o2, none⟩) (es.length - k) (cap - k)) fp' ∧ ∀ r ∈ fp', r ∈ fp := by
  have key : ∀ o2, (k < es.length → o2 = off + k * sz) → ∃ fp', Rd w (.l (es.drop k)) (.slice (some ⟨g, o2, none⟩) (es.length - k) (cap - k)) fp' ∧ ∀ r ∈ fp', r ∈ fp := by
    intro o2 ho
    have := h.cut hsz k (es.length - k) o2 (cap - k) (by omega) (fun hm => ho (by omega)) (fun hc => by omega)
    rwa [List.take_of_length_le (by rw [List.length_drop]; omega)] at this
  by_cases hc : cap = k
  · refine ⟨off, by rw [if_pos hc], key off fun hlt => ?_⟩
    obtain ⟨_, _, _, _, _, _, hcap, _⟩ := Rd.at h (by omega) hsz
    have := h.lens
    omega
  · exact ⟨off + k * sz, by rw [if_neg hc], key _ fun _ => rfl⟩

end Go.Proofs.Ytekpapodepachaa

/- Lists of rows of numbers in memory of their own, cell by cell; an append to them at an operation; general steps, nothing here speaks of the program. -/
namespace Go.Proofs.Ytekpapodepachaa
open Go.RowKit

def rwN (e : List Int) : List Value := e.map (Value.int .i64)
def flN (es : List (List Int)) : List Value := es.flatMap rwN
theorem flN_app (es es2 : List (List Int)) : flN (es ++ es2) = flN es ++ flN es2 := by unfold flN; rw [List.flatMap_append]
theorem flN_len {sz : Nat} : ∀ {es : List (List Int)}, (∀ e ∈ es, e.length = sz) → (flN es).length = es.length * sz
  | [], _ => by simp [flN]
  | x :: es, h => by
    have ih := flN_len (es := es) fun e he => h e (List.mem_cons_of_mem _ he)
    have hx := h x (by simp)
    unfold flN at *
    rw [List.flatMap_cons, List.length_append, ih, List.length_cons, Nat.add_mul]
    simp [rwN, hx]; omega
theorem flN_at {sz : Nat} : ∀ {es : List (List Int)}, (∀ e ∈ es, e.length = sz) → ∀ (k j : Nat) (hk : k < es.length), j < sz → (flN es)[k * sz + j]? = (rwN es[k])[j]?
  | x :: es, h, 0, j, _, hj => by
    have hx := h x (by simp)
    unfold flN
    rw [List.flatMap_cons, List.getElem?_append_left (by simp [rwN, hx]; omega)]
    simp
  | x :: es, h, k + 1, j, hk, hj => by
    have hx := h x (by simp)
    have hk' : k < es.length := by simpa using hk
    have ih := flN_at (es := es) (fun e he => h e (List.mem_cons_of_mem _ he)) k j hk' hj
    unfold flN at *
    have hlx : (rwN x).length = sz := by simp [rwN, hx]
    rw [List.flatMap_cons, List.getElem?_append_right (by rw [hlx, Nat.add_mul]; omega)]
    rw [show (k + 1) * sz + j - (rwN x).length = k * sz + j by rw [hlx, Nat.add_mul]; omega, ih]
    simp
theorem flN_int {es : List (List Int)} {c : Value} (h : c ∈ flN es) : ∃ x, c = .int .i64 x := by
  unfold flN at h
  obtain ⟨e, _, hc⟩ := List.mem_flatMap.1 h
  unfold rwN at hc
  obtain ⟨x, _, rfl⟩ := List.mem_map.1 hc
  exact ⟨x, rfl⟩
/-- v owns rows of sz numbers, in a block from B on. -/
structure OwnN (E : TypeId) (sz : Nat) (w : World) (B : Nat) (v : Value) (es : List (List Int)) : Prop where
  szs : ∀ e ∈ es, e.length = sz
  row : w.ownsRow B E sz v es.length (flN es)
section
variable {E : TypeId} {sz : Nat} {w w' : World} {B : Nat} {v : Value} {es : List (List Int)}
theorem OwnN.lt (h : OwnN E sz w B v es) : ∀ g, v.ownBlock = some g → B ≤ g ∧ g < w.heap.size := World.ownsRow.lt h.row
theorem OwnN.slice (h : OwnN E sz w B v es) : ∃ a c, v = .slice a es.length c ∧ es.length ≤ c := by
  rcases h.row.2 with ⟨rfl, h0⟩ | ⟨g, cap, cur, rfl, _, _, hn, _⟩
  · exact ⟨none, 0, by rw [h0], by omega⟩
  · exact ⟨_, _, rfl, hn⟩
theorem OwnN.same (h : OwnN E sz w B v es) (hb : ∀ g, v.ownBlock = some g → w'.heap[g]? = w.heap[g]?) : OwnN E sz w' B v es := ⟨h.szs, row_same h.row hb⟩
theorem OwnN.below (h : OwnN E sz w B v es) (hb : Below w.heap.size w w') : OwnN E sz w' B v es := h.same fun g e => hb.block g (h.lt g e).2
theorem OwnN.kept {row : Option Nat} (h : OwnN E sz w B v es) (hg : w.grownBy w' row) (hne : ∀ g, v.ownBlock = some g → row ≠ some g) : OwnN E sz w' B v es :=
  h.same fun g e => hg.block g (h.lt g e).2 (fun e' => hne g e e'.symm)
theorem OwnN.mono {B' : Nat} (h : OwnN E sz w B v es) (hB : B' ≤ B) : OwnN E sz w B' v es := by
  refine ⟨h.szs, h.row.1, ?_⟩
  rcases h.row.2 with h0 | ⟨g, cap, cur, e, hb, rest⟩
  · exact .inl h0
  · exact .inr ⟨g, cap, cur, e, by omega, rest⟩
theorem OwnN.empty (E : TypeId) (sz : Nat) (w : World) : OwnN E sz (w.alloc (.cells #[] E)) w.heap.size (.slice (some ⟨w.heap.size, 0, none⟩) 0 0) [] :=
  ⟨by simp, by simp [flN], .inr ⟨w.heap.size, 0, #[], rfl, Nat.le_refl _, Str.new w E #[], Nat.le_refl _, Nat.zero_le _, by simp, by simp [flN]⟩⟩
theorem OwnN.ownR {Ei : TypeId} {hi : Nat} (h : OwnN E sz w B v es) (hh : w.heap.size ≤ hi) : OwnR E Ei sz w B hi v (es.map fun e => e.map Fd.i) := by
  have hn : ∀ (p : Nat) c, (flN es)[p]? = some c → c.ownBlock = none := fun p c hc => by obtain ⟨x, rfl⟩ := flN_int (List.mem_of_getElem? hc); rfl
  refine ⟨fun e he => by obtain ⟨x, hx, rfl⟩ := List.mem_map.1 he; rw [List.length_map]; exact h.szs x hx, flN es, by rw [List.length_map]; exact h.row, fun k j hk hj => ?_, ?_, ?_, ?_, fun g e => Nat.lt_of_lt_of_le (h.lt g e).2 hh⟩
  · have hk' : k < es.length := by simpa using hk
    have he : (es.map fun e => e.map Fd.i)[k] = es[k].map Fd.i := by simp
    have hl : es[k].length = sz := h.szs _ (List.getElem_mem hk')
    have hj' : j < es[k].length := by rw [he, List.length_map] at hj; exact hj
    rw [flN_at h.szs k j hk' (by omega)]
    refine ⟨.int .i64 es[k][j], by simp [rwN, hj'], ?_⟩
    simp only [he, List.getElem_map]
    rfl
  · intro p q c d hc _ _ g e; rw [hn p c hc] at e; cases e
  · intro p c hc g e; rw [hn p c hc] at e; cases e
  · intro p c g hc e; rw [hn p c hc] at e; cases e
theorem OwnN.cell {g n cap : Nat} (h : OwnN E sz w B (.slice (some ⟨g, 0, none⟩) n cap) es) {k j : Nat} (hk : k < es.length) (hj : j < sz) : w.cell? ⟨g, k * sz + j, none⟩ = (rwN es[k])[j]? ∧ w.frozen? ⟨g, k * sz + j, none⟩ = false := by
  have hl : es[k].length = sz := h.szs _ (List.getElem_mem hk)
  have hc := flN_at h.szs k j hk hj
  have he : (rwN es[k])[j]? = some (.int .i64 (es[k][j]'(by omega))) := by simp [rwN, show j < es[k].length by omega]
  have h0 := World.ownsRow.cells h.row (g := g) rfl _ _ (hc.trans he)
  rw [addr_add] at h0
  refine ⟨h0.trans he.symm, ?_⟩
  rcases h.row.2 with ⟨h', _⟩ | ⟨g', cap', cur, h', _, hg, _⟩
  · simp at h'
  · simp only [Value.slice.injEq, Option.some.injEq, Addr.mk.injEq, and_true] at h'
    obtain ⟨rfl, _⟩ := h'
    exact frozen_of_row w g _ cur E hg
end
/-- The rows' cells from this place on. -/
def SrcN (w : World) (ad : Addr) (es : List (List Int)) : Prop := ∀ (j : Nat) u, (flN es)[j]? = some u → w.cell? (ad.add j) = some u
theorem SrcN.below {w w' : World} {ad : Addr} {es : List (List Int)} (h : SrcN w ad es) (hb : Below w.heap.size w w') : SrcN w' ad es := fun j u hj => (hb.cell (World.block_lt_of_cell? _ _ (h j u hj))).trans (h j u hj)
theorem SrcN.new (w : World) (E : TypeId) (e : List Int) : SrcN (w.alloc (.cells (rwN e).toArray E)) ⟨w.heap.size, 0, none⟩ [e] := by
  intro j u hu
  rw [addr_add, World.cell?_alloc_at _ _ _ _ rfl]
  simpa [flN] using hu
theorem OwnN.src {E : TypeId} {sz : Nat} {w : World} {B g n cap : Nat} {es : List (List Int)} (h : OwnN E sz w B (.slice (some ⟨g, 0, none⟩) n cap) es) : SrcN w ⟨g, 0, none⟩ es := fun j u hj => World.ownsRow.cells h.row (g := g) rfl j u hj

/-- 'append(s, t...)' at an operation: s is the call's own, the rows of t lie at ad. -/
theorem op_app_N {P : Program} {T E : TypeId} {sz bytes : Nat} {z0 : Value} (hsl : P.underlying T = some (.slice E)) (hinf : (P.info? E).map (fun i => (i.zero, i.size, i.bytes)) = some (some z0, sz, bytes)) (hz0 : z0.cells.size = sz) (hpos : 0 < sz) (hby : bytes ≤ 1000)
    {w : World} {o : Oper} {a : Act} {K : Act → World → Prop} {Q : Exit → Act → World → Prop} (s x : Operand) (ho : o.op = .call { callee := .builtin .append, args := #[s, x], argTypes := #[T, T] }) (B : Nat) (v : Value) (es es2 : List (List Int)) (ad : Option Addr) (c : Nat)
    (hs : a.eval s = v) (hb : OwnN E sz w B v es) (hx : a.eval x = .slice ad es2.length c) (hs2 : ∀ e ∈ es2, e.length = sz) (hsrc : (ad = none ∧ es2 = [] ∧ c = 0) ∨ ∃ q, ad = some q ∧ SrcN w q es2) (hlen : es.length + es2.length ≤ 1048577) (hB : B ≤ w.heap.size)
    (h : ∀ v' w', OwnN E sz w' B v' (es ++ es2) → w.grownBy w' v.ownBlock → (∀ g, v'.ownBlock = some g → v.ownBlock = some g ∨ w.heap.size ≤ g) → K (a.put o.dst v') w') : Oper.wp P o a w K Q := by
  obtain ⟨i, hi, hz, hsz, hbb⟩ := info_parts hinf
  have hall : ∀ e ∈ es ++ es2, e.length = sz := fun e he => by
    rcases List.mem_append.1 he with h1 | h1
    · exact hb.szs e h1
    · exact hs2 e h1
  have run : ∃ v' w', (Builtin.append_ #[T, T] o.type #[v, .slice ad es2.length c]).run P w = .ok v' w' ∧ OwnN E sz w' B v' (es ++ es2) ∧ w.grownBy w' v.ownBlock ∧ (v'.ownBlock = v.ownBlock ∨ v'.ownBlock = some w.heap.size) := by
    rcases hsrc with ⟨rfl, rfl, rfl⟩ | ⟨q, rfl, hq⟩
    · exact ⟨v, w, run_append_owned_none (P := P) (w := w) B T o.type E i sz hsl hi v es.length _ hb.row, by simpa using hb, World.grownBy.refl _ _, .inl rfl⟩
    · obtain ⟨v', w', h1, h2, h3, _, h4⟩ := run_append_own_at (P := P) w B T o.type E i z0 sz bytes hsl hi hz hsz hbb hz0 hpos v es.length _ hb.row q es2.length c (flN es2) (flN_len hs2) hq (fun u hu => by obtain ⟨x, rfl⟩ := flN_int hu; rfl) (by unfold maxLen; omega) (by
        have := Nat.mul_le_mul (show es.length + es2.length ≤ 1048577 from hlen) hby; omega) hB
      exact ⟨v', w', h1, ⟨hall, by rw [List.length_append, flN_app]; exact h2⟩, h3, h4⟩
  obtain ⟨v', w', hrun, h1, hg, h4⟩ := run
  unfold Oper.wp execOp
  simp only [ho, resolve, invoke, builtin, Sem.run_bind, Sem.run_pure, Result.andThen_ok, List.map_toArray, List.map_cons, List.map_nil, hs, hx, hrun]
  exact h v' w' h1 hg fun g e => by
    rcases h4 with h4 | h4
    · exact .inl (by rw [← h4]; exact e)
    · rw [h4] at e; cases e; exact .inr (Nat.le_refl _)

end Go.Proofs.Ytekpapodepachaa

/- Parts of dealt shares as the laws take them (laws.partsOf), by a walk of its text; condition: at most seven shares. -/
namespace Go.Proofs.Ytekpapodepachaa
open Go.RowKit

def cpN (p : Cp) : List Int := [p.1, p.2]
/-- A list of parts of the call's own. -/
abbrev OwnC (E : TypeId) (w : World) (B : Nat) (v : Value) (l : List Cp) : Prop := OwnN E 2 w B v (l.map cpN)
theorem OwnC.cps {E : TypeId} {w : World} {B : Nat} {v : Value} {l : List Cp} (h : OwnC E w B v l) : ∃ fp, Cps w l v fp := by
  obtain ⟨fp, hr⟩ := (h.ownR (Ei := E) (Nat.le_refl _)).reads
  rw [List.map_map] at hr
  exact ⟨fp, hr⟩
theorem OwnC.sl {E : TypeId} {w : World} {B : Nat} {v : Value} {l : List Cp} (h : OwnC E w B v l) : ∃ a c, v = .slice a l.length c ∧ l.length ≤ c := by
  obtain ⟨a, c, rfl, h2⟩ := OwnN.slice h
  rw [List.length_map] at h2 ⊢
  exact ⟨a, c, rfl, h2⟩
theorem wpList_app_N2 {P : Program} {T E : TypeId} {sz bytes : Nat} {z0 : Value} (hsl : P.underlying T = some (.slice E)) (hinf : (P.info? E).map (fun i => (i.zero, i.size, i.bytes)) = some (some z0, sz, bytes)) (hz0 : z0.cells.size = sz) (hpos : 0 < sz) (hby : bytes ≤ 1000)
    {w : World} {ops : Array Oper} {rest : List Oper} {o : Oper} {a : Act} {Q : Exit → Act → World → Prop} (hgd : Region.wanted o (yielded ops a.tmps) = true) (s x : Operand) (ho : o.op = .call { callee := .builtin .append, args := #[s, x], argTypes := #[T, T] }) (B : Nat) (v : Value) (es es2 : List (List Int)) (ad : Option Addr) (c : Nat)
    (hs : a.eval s = v) (hb : OwnN E sz w B v es) (hx : a.eval x = .slice ad es2.length c) (hs2 : ∀ e ∈ es2, e.length = sz) (hsrc : (ad = none ∧ es2 = [] ∧ c = 0) ∨ ∃ q, ad = some q ∧ SrcN w q es2) (hlen : es.length + es2.length ≤ 1048577) (hB : B ≤ w.heap.size)
    (h : ∀ v' w', OwnN E sz w' B v' (es ++ es2) → w.grownBy w' v.ownBlock → (∀ g, v'.ownBlock = some g → v.ownBlock = some g ∨ w.heap.size ≤ g) → wpList P ops Q rest (a.put o.dst v') w') : wpList P ops Q (o :: rest) a w :=
  wpList_want hgd fun _ hK => op_app_N hsl hinf hz0 hpos hby s x ho B v es es2 ad c hs hb hx hs2 hsrc hlen hB fun v' w' h1 h2 h3 => hK _ _ (h v' w' h1 h2 h3)
/-- The parts taken of the first k shares. -/
def pzL (S : List Int) (wv : Int) (f c k : Nat) : List Cp := ((List.range k).filter fun i : Nat => decide ((i + f) % S.length < c)).map fun i : Nat => ((i : Int), cmZ (S.getD i 0) wv)
theorem pz_succ (S : List Int) (wv : Int) (f c k : Nat) : pzL S wv f c (k + 1) = pzL S wv f c k ++ (if (k + f) % S.length < c then [((k : Int), cmZ (S.getD k 0) wv)] else []) := by
  unfold pzL
  rw [List.range_succ, List.filter_append, List.map_append]
  congr 1
  by_cases h : (k + f) % S.length < c
  · rw [if_pos h, List.filter_cons_of_pos (by simpa using h)]; rfl
  · rw [if_neg h, List.filter_cons_of_neg (by simpa using h)]; rfl
theorem pz_len (S : List Int) (wv : Int) (f c k : Nat) : (pzL S wv f c k).length ≤ k := by
  unfold pzL
  rw [List.length_map]
  exact Nat.le_trans (List.length_filter_le _ _) (by simp)
/-- Of dealt shares. -/
theorem pz_deal (d : List Int) (wv : Int) (m f c : Nat) : pzL (cdS d m) wv f c m = ptL d wv (selN m f c) := by
  unfold pzL ptL selN
  rw [cdS_len]
  refine List.map_congr_left fun i hi => ?_
  have him : i < m := List.mem_range.1 ((List.mem_filter.1 hi).1)
  have e : (cdS d m).getD i 0 = horZ d ((i + 1 : Nat) : Int) := by rw [getD_get (by rw [cdS_len]; exact him)]; simp [cdS]
  rw [e]; rfl
theorem cp_one {w : World} {E : TypeId} (p : Cp) : SrcN (w.alloc (.cells #[.int .i64 p.1, .int .i64 p.2] E)) ⟨w.heap.size, 0, none⟩ [cpN p] := SrcN.new w E (cpN p)
theorem same_ints (a a' : Option Addr) (cap cap' : Nat) (xs : List Int) (w : World) (hbig : xs.length ≤ 1099511627776) (hc : IntsAt w a xs) (hc' : IntsAt w a' xs) :
    Calls Try.prog 10 #[.slice a xs.length cap, .slice a' xs.length cap'] w fun e w' => e = .returned (.bool true) ∧ Below w.heap.size w w' :=
  (laws_sameInts' a a' cap cap' xs w hbig hc hc').mono fun _ _ ⟨h1, h2⟩ => ⟨h1, h2.below _⟩

theorem cp_T : Try.prog.underlying 28 = some (.slice 35) := Try.underlying28
theorem cp_inf : (Try.prog.info? 35).map (fun i => (i.zero, i.size, i.bytes)) = some (some (.agg #[.int .i64 0, .int .i64 0]), 2, 16) := by kernel_rfl
set_option maxHeartbeats 4000000 in
theorem laws_partsOf (a : Option Addr) (cap : Nat) (S : List Int) (wv : Int) (f c : Nat) (w : World) (h7 : S.length ≤ 7) (hf : f ≤ 1048576) (_hc8 : c ≤ 8) (hi : IntsAt w a S) :
    Calls Try.prog 11 #[.slice a S.length cap, .int .i64 wv, .int .i64 f, .int .i64 c] w fun e w' => ∃ u, e = .returned u ∧ OwnC 35 w' w.heap.size u (pzL S wv f c S.length) ∧ Below w.heap.size w w' := by
  have HE := Lib.hid (show Below w.heap.size w (w.alloc (.cells #[] 35)) from (Below.refl _ _).alloc (Nat.le_refl _) _)
  have HO := Lib.hid (OwnN.empty 35 2 w)
  have Hi := Lib.hid hi; clear hi
  have Hsu := Lib.hid (fun k => pz_succ S wv f c k)
  have h00 := Lib.hid (show (pzL S wv f c 0).map cpN = [] from rfl)
  have Hpl := Lib.hid (fun k => pz_len S wv f c k)
  go_enter Try.func11, Try.ntmps11
  go_wp2
  generalize (w.alloc (.cells #[] 35)) = wz at *
  go_loopw [9, 10] (fun u i wr => ∃ k : Nat, k ≤ S.length ∧ i = .int .i64 k ∧ Below w.heap.size w wr ∧ OwnC 35 wr w.heap.size u (pzL S wv f c k)) (fun _ i _ => S.length - (intOf i).toNat)
  case atStart => exact ⟨0, by omega, rfl, HE.out, by unfold OwnC; rw [h00.out]; exact HO.out⟩
  case round =>
    clear HE HO h00
    obtain ⟨k, hk, rfl, hbel, hox⟩ := hrel
    obtain ⟨au, cu, rfl, hcu⟩ := OwnC.sl hox
    have Hbel := Lib.hid hbel; have HX := Lib.hid hox; clear hbel hox hcu
    have hwr := Hbel.out.size
    by_cases hlt : k < S.length
    case pos =>
      have hlt' : (k : Int) < (S.length : Int) := by omega
      have w1 : IntKind.i64.wrap ((k : Int) + (f : Int)) = (k : Int) + (f : Int) := IntWalk.i64_in _ (by omega)
      obtain ⟨r, hr⟩ : ∃ r : Nat, r = (k + f) % S.length := ⟨_, rfl⟩
      have hrl : r < S.length := by rw [hr]; exact Nat.mod_lt _ (by omega)
      have w2 : ((k : Int) + (f : Int)).tmod (S.length : Int) = (r : Int) := by rw [Int.tmod_eq_emod_of_nonneg (by omega), hr]; simp
      have w3 : ((S.length : Int) == 0) = false := by rw [beq_eq_false_iff_ne]; omega
      have w4 : ¬ (S.length : Int) = 0 := by omega
      have w5 : ¬ S.length = 0 := by omega
      have w6 : ¬ S = [] := by intro e; rw [e] at hlt; simp at hlt
      have Hst := Lib.hid (Hsu.out k)
      have Hpk := Lib.hid (Hpl.out k)
      rw [← hr] at Hst
      obtain ⟨b, off, hab, _, hcc⟩ := (Hi.out.below Hbel.out).cell (by omega)
      have hcell := hcc k hlt
      clear hcc
      have hg9 := getD_get hlt
      rw [hg9] at Hst
      clear hg9
      generalize S[k] = x at *
      have HM := Lib.hid (fun W => impl_CoinMake x wv W)
      have Hab := Lib.hid hab
      subst hab
      generalize hz : cmZ x wv = z at *
      clear hz hr
      generalize hL : pzL S wv f c k = L at *
      clear hL
      by_cases hrc : r < c
      case pos =>
        have hd : decide ((r : Int) < (c : Int)) = true := decide_eq_true (by omega)
        have hd2 : (r : Int) < (c : Int) := by omega
        have Hs2 := Lib.hid (Hst.out.trans (by rw [if_pos hrc]))
        go_wp2_with fail
        refine (HM.out _).mono ?_
        rintro e w7 ⟨rfl, rfl⟩
        have hal : Below wr.heap.size wr (wr.alloc (.cells #[.int .i64 k, .int .i64 z] 35)) := (Below.refl _ _).alloc (Nat.le_refl _) _
        have HX := Lib.hid (OwnN.below HX.out hal)
        have Hbel := Lib.hid (below_step Hbel.out Hbel.out.size hal)
        have Hsrc := Lib.hid (show SrcN (wr.alloc (.cells #[.int .i64 k, .int .i64 z] 35)) ⟨wr.heap.size, 0, none⟩ [cpN ((k : Int), z)] from cp_one (w := wr) (E := 35) ((k : Int), z))
        clear hal
        have hol : (L.map cpN).length + 1 ≤ 1048577 := by rw [List.length_map]; have := Hpk.out; omega
        have hw9 : w.heap.size ≤ (wr.alloc (.cells #[.int .i64 k, .int .i64 z] 35)).heap.size := Hbel.out.size
        have hall : ∀ e ∈ [cpN ((k : Int), z)], e.length = 2 := fun e he => by simp at he; subst he; rfl
        go_wp2_with (at_builtin; refine wpList_app_N2 cp_T cp_inf rfl (by decide) (by decide) rfl (.tmp 26) (.tmp 35) rfl w.heap.size (.slice au L.length cu) (L.map cpN) [cpN ((k : Int), z)] (some ⟨wr.heap.size, 0, none⟩) 1 rfl HX.out rfl hall (.inr ⟨_, rfl, Hsrc.out⟩) hol hw9 ?_; intro v9 w9 ho9 hg9 hat9)
        have Hbel := Lib.hid (Hbel.out.grown hg9 Hbel.out.size (fun g e => (OwnN.lt HX.out g e).1))
        have HX := Lib.hid ho9
        clear ho9 hg9 hat9
        go_wp2
        go_roundw
        case rel => exact ⟨k + 1, by omega, by go_num, Hbel.out, by rw [Hs2.out]; unfold OwnC; rw [List.map_append]; exact HX.out⟩
        case measure => simp [intOf]; omega
      have hd : decide ((r : Int) < (c : Int)) = false := decide_eq_false (by omega)
      have hd2 : ¬ (r : Int) < (c : Int) := by omega
      have Hs2 := Lib.hid (Hst.out.trans (by rw [if_neg hrc, List.append_nil]))
      go_wp2
      go_roundw
      case rel => exact ⟨k + 1, by omega, by go_num, Hbel.out, by rw [Hs2.out]; exact HX.out⟩
      case measure => simp [intOf]; omega
    case neg =>
      have e : k = S.length := by omega
      have hX := HX.out
      have hlt' : ¬ (k : Int) < (S.length : Int) := by omega
      rw [e] at hX
      have HX := Lib.hid hX; clear hX
      rw [e] at hlt' ⊢
      go_wp2
      go_ret
      exact ⟨_, rfl, HX.out, Hbel.out⟩

end Go.Proofs.Ytekpapodepachaa

/- Plain arithmetic of digests and of hash trees; no walk and no condition of our own. -/
namespace Go.Proofs.Ytekpapodepachaa

def digB (n : Int) : Bool := decide (0 ≤ n ∧ n ≤ 990)
theorem digB_bd {n : Int} (h : digB n = true) : 0 ≤ n ∧ n ≤ 990 := of_decide_eq_true h
theorem digB_yes {n : Int} (h0 : 0 ≤ n) (h1 : n ≤ 990) : digB n = true := decide_eq_true ⟨h0, h1⟩
theorem digB_no {n : Int} (h : ¬ (0 ≤ n ∧ n ≤ 990)) : digB n = false := decide_eq_false h
def pairZ (a b : Int) : Int := (31 * a + 17 * b + 5) % 991
theorem pairZ_bd (a b : Int) : 0 ≤ pairZ a b ∧ pairZ a b ≤ 990 := by unfold pairZ; omega
theorem pairZ_dig (a b : Int) : digB (pairZ a b) = true := decide_eq_true (pairZ_bd a b)
theorem pairZ_left {a a' b : Int} (h : digB a = true) (h' : digB a' = true) (e : pairZ a b = pairZ a' b) : a = a' := by
  have := digB_bd h; have := digB_bd h'; unfold pairZ at e; omega
theorem pairZ_right {a b b' : Int} (h : digB b = true) (h' : digB b' = true) (e : pairZ a b = pairZ a b') : b = b' := by
  have := digB_bd h; have := digB_bd h'; unfold pairZ at e; omega

/-- The next level. -/
def upZ : List Int → List Int
  | a :: b :: r => pairZ a b :: upZ r
  | l => l
theorem upZ_nil : upZ [] = [] := rfl
theorem upZ_one (a : Int) : upZ [a] = [a] := rfl
theorem upZ_two (a b : Int) (r : List Int) : upZ (a :: b :: r) = pairZ a b :: upZ r := by rw [upZ]
/-- The other node of the pair of node i. -/
def sib (i : Nat) : Nat := if i % 2 = 0 then i + 1 else i - 1
theorem pairs_ind {p : List Int → Prop} (h0 : p []) (h1 : ∀ a, p [a]) (h2 : ∀ a b r, p r → p (a :: b :: r)) : ∀ n l, l.length ≤ n → p l := by
  intro n
  induction n with
  | zero =>
    intro l hl
    have : l = [] := List.eq_nil_of_length_eq_zero (by omega)
    subst this; exact h0
  | succ n ih =>
    intro l hl
    match l, hl with
    | [], _ => exact h0
    | [a], _ => exact h1 a
    | a :: b :: r, hl => exact h2 a b r (ih r (by simp at hl; omega))
theorem upZ_len (l : List Int) : (upZ l).length = (l.length + 1) / 2 :=
  pairs_ind (p := fun l => (upZ l).length = (l.length + 1) / 2) rfl (fun a => by simp [upZ]) (fun a b r ih => by rw [upZ_two]; simp only [List.length_cons]; rw [ih]; omega) l.length l (Nat.le_refl _)
theorem upZ_dig (l : List Int) (h : ∀ x ∈ l, digB x = true) : ∀ x ∈ upZ l, digB x = true := by
  refine pairs_ind (p := fun l => (∀ x ∈ l, digB x = true) → ∀ x ∈ upZ l, digB x = true) (fun _ => by simp [upZ]) (fun a h => by simpa [upZ] using h) (fun a b r ih h => ?_) l.length l (Nat.le_refl _) h
  rw [upZ_two]
  intro x hx
  rcases List.mem_cons.1 hx with rfl | hx
  · exact pairZ_dig _ _
  · exact ih (fun y hy => h y (by simp [hy])) x hx
/-- A node of the next level. -/
theorem upZ_get (l : List Int) : ∀ i, i < l.length → (upZ l).getD (i / 2) 0 = if sib i < l.length then (if i < sib i then pairZ (l.getD i 0) (l.getD (sib i) 0) else pairZ (l.getD (sib i) 0) (l.getD i 0)) else l.getD i 0 := by
  refine pairs_ind (p := fun l => ∀ i, i < l.length → (upZ l).getD (i / 2) 0 = if sib i < l.length then (if i < sib i then pairZ (l.getD i 0) (l.getD (sib i) 0) else pairZ (l.getD (sib i) 0) (l.getD i 0)) else l.getD i 0)
    (fun i h => by simp at h) (fun a i h => ?_) (fun a b r ih i h => ?_) l.length l (Nat.le_refl _)
  · have : i = 0 := by simpa using h
    subst this; rfl
  · rw [upZ_two]
    match i, h with
    | 0, _ => simp [sib]
    | 1, _ => simp [sib]
    | i + 2, h =>
      have hi := ih i (by simpa using h)
      have e1 : (i + 2) / 2 = i / 2 + 1 := by omega
      have e2 : sib (i + 2) = sib i + 2 := by unfold sib; split <;> split <;> omega
      rw [e1, e2]
      simp only [List.getD_cons_succ, List.length_cons]
      rw [hi]
      by_cases hs : sib i < r.length
      · rw [if_pos hs, if_pos (show sib i + 2 < r.length + 1 + 1 by omega)]
        by_cases hl : i < sib i
        · rw [if_pos hl, if_pos (show i + 2 < sib i + 2 by omega)]
        · rw [if_neg hl, if_neg (show ¬ i + 2 < sib i + 2 by omega)]
      · rw [if_neg hs, if_neg (show ¬ sib i + 2 < r.length + 1 + 1 by omega)]

def rootF : Nat → List Int → Int
  | 0, l => l.getD 0 0
  | n + 1, l => if 1 < l.length then rootF n (upZ l) else l.getD 0 0
def proofF : Nat → List Int → Nat → List Int
  | 0, _, _ => []
  | n + 1, l, i => if 1 < l.length then (if sib i < l.length then [l.getD (sib i) 0] else []) ++ proofF n (upZ l) (i / 2) else []
/-- Where a leaf x at place i and a proof lead in a tree of this size. -/
def checkF : Nat → Nat → Nat → Int → List Int → Option Int
  | 0, _, _, x, p => if p = [] then some x else none
  | n + 1, size, i, x, p =>
    if 1 < size then
      if sib i < size then
        match p with
        | [] => none
        | q :: r => if digB q = true then checkF n ((size + 1) / 2) (i / 2) (if i < sib i then pairZ x q else pairZ q x) r else none
      else checkF n ((size + 1) / 2) (i / 2) x p
    else if p = [] then some x else none

theorem dig_getD {l : List Int} (h : ∀ x ∈ l, digB x = true) {i : Nat} (hi : i < l.length) : digB (l.getD i 0) = true := by
  rw [getD_get hi]; exact h _ (List.getElem_mem hi)

/-- Each leaf has a proof. -/
theorem check_proof : ∀ (n : Nat) (l : List Int) (i : Nat), (∀ x ∈ l, digB x = true) → i < l.length → l.length ≤ 2 ^ n → checkF n l.length i (l.getD i 0) (proofF n l i) = some (rootF n l) := by
  intro n
  induction n with
  | zero => intro l i _ hi hl; have : i = 0 := by omega
            subst this; simp [checkF, proofF, rootF]
  | succ n ih =>
    intro l i hd hi hl
    simp only [checkF, proofF, rootF]
    by_cases h1 : 1 < l.length
    · rw [if_pos h1, if_pos h1, if_pos h1]
      have hu := ih (upZ l) (i / 2) (upZ_dig l hd) (by rw [upZ_len]; omega) (by rw [upZ_len, Nat.pow_succ] at *; omega)
      rw [upZ_len, upZ_get l i hi] at hu
      by_cases hs : sib i < l.length
      · rw [if_pos hs] at hu ⊢
        rw [if_pos hs]
        simp only [List.cons_append, List.nil_append]
        rw [if_pos (dig_getD hd hs)]
        exact hu
      · rw [if_neg hs] at hu ⊢
        rw [if_neg hs, List.nil_append]
        exact hu
    · have : i = 0 := by omega
      subst this; simp [h1]

/-- No other leaf has the proof. -/
theorem check_leaf : ∀ (n size i : Nat) (x y : Int) (p : List Int) (R : Int), digB x = true → digB y = true → checkF n size i x p = some R → checkF n size i y p = some R → x = y := by
  intro n
  induction n with
  | zero =>
    intro size i x y p R _ _ h1 h2
    simp only [checkF] at h1 h2
    split at h1
    · rename_i h; rw [if_pos h] at h2; cases h1; cases h2; rfl
    · cases h1
  | succ n ih =>
    intro size i x y p R hx hy h1 h2
    simp only [checkF] at h1 h2
    by_cases hz : 1 < size
    · rw [if_pos hz] at h1 h2
      by_cases hs : sib i < size
      · rw [if_pos hs] at h1 h2
        match p, h1, h2 with
        | q :: r, h1, h2 =>
          simp only at h1 h2
          by_cases hq : digB q = true
          · rw [if_pos hq] at h1 h2
            by_cases hl : i < sib i
            · rw [if_pos hl] at h1 h2
              exact pairZ_left hx hy (ih _ _ _ _ _ _ (pairZ_dig _ _) (pairZ_dig _ _) h1 h2)
            · rw [if_neg hl] at h1 h2
              exact pairZ_right hx hy (ih _ _ _ _ _ _ (pairZ_dig _ _) (pairZ_dig _ _) h1 h2)
          · rw [if_neg hq] at h1; cases h1
      · rw [if_neg hs] at h1 h2
        exact ih _ _ _ _ _ _ hx hy h1 h2
    · rw [if_neg hz] at h1 h2
      split at h1
      · rename_i h; rw [if_pos h] at h2; cases h1; cases h2; rfl
      · cases h1

/-- How long a proof is. -/
def plen : Nat → Nat → Nat → Nat
  | 0, _, _ => 0
  | n + 1, size, i => if 1 < size then (if sib i < size then 1 else 0) + plen n ((size + 1) / 2) (i / 2) else 0
theorem plen_le : ∀ (n size i : Nat), plen n size i ≤ n := by
  intro n
  induction n with
  | zero => intro _ _; exact Nat.le_refl _
  | succ n ih =>
    intro size i
    simp only [plen]
    have := ih ((size + 1) / 2) (i / 2)
    split
    · split <;> omega
    · omega
theorem check_len : ∀ (n size i : Nat) (x : Int) (p : List Int) (R : Int), checkF n size i x p = some R → p.length = plen n size i := by
  intro n
  induction n with
  | zero =>
    intro size i x p R h
    simp only [checkF] at h
    split at h
    · rename_i hp; rw [hp]; rfl
    · cases h
  | succ n ih =>
    intro size i x p R h
    simp only [checkF] at h
    simp only [plen]
    by_cases hz : 1 < size
    · rw [if_pos hz] at h ⊢
      by_cases hs : sib i < size
      · rw [if_pos hs] at h ⊢
        match p, h with
        | q :: r, h =>
          simp only at h
          by_cases hq : digB q = true
          · rw [if_pos hq] at h
            have := ih _ _ _ _ _ h
            simp only [List.length_cons]; omega
          · rw [if_neg hq] at h; cases h
      · rw [if_neg hs] at h ⊢
        have := ih _ _ _ _ _ h; omega
    · rw [if_neg hz] at h ⊢
      split at h
      · rename_i hp; rw [hp]; rfl
      · cases h

/-- A changed leaf on the next level. -/
theorem upZ_set (l : List Int) : ∀ i y, i < l.length → upZ (l.set i y) = (upZ l).set (i / 2) ((upZ (l.set i y)).getD (i / 2) 0) := by
  refine pairs_ind (p := fun l => ∀ i y, i < l.length → upZ (l.set i y) = (upZ l).set (i / 2) ((upZ (l.set i y)).getD (i / 2) 0)) (fun i y h => by simp at h) (fun a i y h => ?_) (fun a b r ih i y h => ?_) l.length l (Nat.le_refl _)
  · have : i = 0 := by simpa using h
    subst this; rfl
  · match i, h with
    | 0, _ => simp [upZ_two]
    | 1, _ => simp [upZ_two]
    | i + 2, h =>
      have hi := ih i y (by simpa using h)
      have e1 : (i + 2) / 2 = i / 2 + 1 := by omega
      rw [e1]
      simp only [List.set_cons_succ, upZ_two, List.getD_cons_succ]
      rw [← hi]
theorem proof_set : ∀ (n : Nat) (l : List Int) (i : Nat) (y : Int), i < l.length → proofF n (l.set i y) i = proofF n l i := by
  intro n
  induction n with
  | zero => intros; rfl
  | succ n ih =>
    intro l i y hi
    simp only [proofF, List.length_set]
    have hne : sib i ≠ i := by unfold sib; split <;> omega
    have e : (l.set i y).getD (sib i) 0 = l.getD (sib i) 0 := by
      simp only [List.getD]
      rw [List.getElem?_set_ne (fun h => hne h.symm)]
    rw [e, upZ_set l i y hi, ih (upZ l) (i / 2) _ (by rw [upZ_len]; omega)]
/-- A changed leaf changes the root. -/
theorem root_set {n : Nat} {l : List Int} {i : Nat} {y : Int} (hd : ∀ x ∈ l, digB x = true) (hi : i < l.length) (hl : l.length ≤ 2 ^ n) (hy : digB y = true) (e : rootF n (l.set i y) = rootF n l) : y = l.getD i 0 := by
  have h1 := check_proof n l i hd hi hl
  have h2 := check_proof n (l.set i y) i (fun x hx => by rcases List.mem_or_eq_of_mem_set hx with h | rfl; exact hd x h; exact hy) (by simpa using hi) (by simpa using hl)
  rw [List.length_set, proof_set n l i y hi, e] at h2
  have e2 : (l.set i y).getD i 0 = y := by simp [List.getD, hi]
  rw [e2] at h2
  exact check_leaf _ _ _ _ _ _ _ hy (dig_getD hd hi) h2 h1
theorem rootF_bd : ∀ (n : Nat) (l : List Int), (∀ x ∈ l, digB x = true) → 0 < l.length → digB (rootF n l) = true := by
  intro n
  induction n with
  | zero => intro l hd hl; exact dig_getD hd hl
  | succ n ih =>
    intro l hd hl
    simp only [rootF]
    split
    · exact ih _ (upZ_dig l hd) (by rw [upZ_len]; omega)
    · exact dig_getD hd hl

/-! texts -/
def txtS (n : Int) (c : UInt8) : Int := (257 * n + c.toNat + 1) % 991
def txtF (n : Int) (l : List UInt8) : Int := l.foldl txtS n
def txtZ (l : List UInt8) : Int := txtF 7 l
theorem txtS_bd (n : Int) (c : UInt8) : 0 ≤ txtS n c ∧ txtS n c ≤ 990 := by unfold txtS; omega
theorem txtF_bd (l : List UInt8) : ∀ n, 0 ≤ n → n ≤ 990 → 0 ≤ txtF n l ∧ txtF n l ≤ 990 := by
  induction l with
  | nil => intro n h0 h1; exact ⟨h0, h1⟩
  | cons c l ih => intro n _ _; exact ih _ (txtS_bd n c).1 (txtS_bd n c).2
theorem txtZ_bd (l : List UInt8) : 0 ≤ txtZ l ∧ txtZ l ≤ 990 := txtF_bd l 7 (by omega) (by omega)
theorem txtZ_snoc (l : List UInt8) (c : UInt8) : txtZ (l ++ [c]) = txtS (txtZ l) c := by unfold txtZ txtF; rw [List.foldl_append]; rfl
theorem txtF_ne (l : List UInt8) : ∀ n m, 0 ≤ n → n ≤ 990 → 0 ≤ m → m ≤ 990 → n ≠ m → txtF n l ≠ txtF m l := by
  induction l with
  | nil => intro n m _ _ _ _ h; exact h
  | cons c l ih =>
    intro n m h0 h1 h2 h3 h
    refine ih _ _ (txtS_bd n c).1 (txtS_bd n c).2 (txtS_bd m c).1 (txtS_bd m c).2 ?_
    unfold txtS; omega
theorem txtZ_byte (l r : List UInt8) {b c : UInt8} (h : b ≠ c) : txtZ (l ++ [b] ++ r) ≠ txtZ (l ++ [c] ++ r) := by
  have e : ∀ x, txtZ (l ++ [x] ++ r) = txtF (txtS (txtZ l) x) r := fun x => by unfold txtZ txtF; rw [List.foldl_append, List.foldl_append]; rfl
  rw [e, e]
  refine txtF_ne r _ _ (txtS_bd _ _).1 (txtS_bd _ _).2 (txtS_bd _ _).1 (txtS_bd _ _).2 ?_
  have hb := b.toNat_lt
  have hc := c.toNat_lt
  have hn : b.toNat ≠ c.toNat := fun e => h (UInt8.toNat_inj.1 e)
  have := txtZ_bd l
  unfold txtS; omega

theorem txt_step (s : ByteArray) (k : Nat) (hk : k < s.size) : txtZ (s.data.toList.take (k + 1)) = txtS (txtZ (s.data.toList.take k)) s[k] := by
  rw [← txtZ_snoc, List.take_succ_eq_append_getElem (by simpa using hk)]; rfl
def htZ (s : ByteArray) : Int := if s.size ≤ 60 then txtZ s.data.toList else -1
def hpZ (a b : Int) : Int := if digB a = true ∧ digB b = true then pairZ a b else -1
def leavesB (l : List Int) : Bool := decide (1 ≤ l.length ∧ l.length ≤ 16) && l.all digB
theorem leavesB_bad {l : List Int} {k : Nat} (hk : k < l.length) (h : digB l[k] = false) : leavesB l = false := by unfold leavesB; rw [pre_not hk h, Bool.and_false]
theorem leavesB_len {l : List Int} {k : Nat} (h : Pre digB l k) (hk : l.length ≤ k) : leavesB l = decide (1 ≤ l.length ∧ l.length ≤ 16) := by unfold leavesB; rw [pre_all h hk, Bool.and_true]
theorem leavesB_iff {l : List Int} (h : leavesB l = true) : (1 ≤ l.length ∧ l.length ≤ 16) ∧ ∀ x ∈ l, digB x = true := by
  unfold leavesB at h; rw [Bool.and_eq_true, decide_eq_true_eq, List.all_eq_true] at h; exact h
def mrZ (l : List Int) : Int := if leavesB l = true then rootF 4 l else -1
def mpZ (l : List Int) (i : Int) : List Int := if leavesB l = true ∧ 0 ≤ i ∧ i < l.length then proofF 4 l i.toNat else []
def mcB (root size i leaf : Int) (p : List Int) : Bool := decide (1 ≤ size ∧ size ≤ 16 ∧ 0 ≤ i ∧ i < size ∧ digB leaf = true ∧ checkF 4 size.toNat i.toNat leaf p = some root)

theorem mrZ_yes {l : List Int} (h : leavesB l = true) : mrZ l = rootF 4 l := by unfold mrZ; rw [if_pos h]
theorem mrZ_no {l : List Int} (h : leavesB l = false) : mrZ l = -1 := by unfold mrZ; rw [if_neg (by simp [h])]
theorem mpZ_yes {l : List Int} {i : Nat} (h : leavesB l = true) (hi : i < l.length) : mpZ l i = proofF 4 l i := by unfold mpZ; rw [if_pos ⟨h, by omega, by omega⟩]; rfl
theorem mpZ_no {l : List Int} {i : Int} (h : ¬ (leavesB l = true ∧ 0 ≤ i ∧ i < l.length)) : mpZ l i = [] := by unfold mpZ; rw [if_neg h]
theorem sib_int (j : Nat) : (j : Int) + 1 - (j : Int) % 2 * 2 = (sib j : Nat) := by unfold sib; split <;> omega
theorem sib_ne (j : Nat) : sib j ≠ j := by unfold sib; split <;> omega
theorem rootF_up {n : Nat} {l : List Int} (h : 1 < l.length) : rootF (n + 1) l = rootF n (upZ l) := by rw [rootF, if_pos h]
theorem rootF_end {n : Nat} {l : List Int} (h : l.length = 1) : rootF n l = l.getD 0 0 := by
  cases n with
  | zero => rfl
  | succ n => rw [rootF, if_neg (by omega)]
theorem proofF_sib {n : Nat} {l : List Int} {i : Nat} (h : 1 < l.length) (hs : sib i < l.length) : proofF (n + 1) l i = l.getD (sib i) 0 :: proofF n (upZ l) (i / 2) := by rw [proofF, if_pos h, if_pos hs]; rfl
theorem proofF_lone {n : Nat} {l : List Int} {i : Nat} (h : 1 < l.length) (hs : ¬ sib i < l.length) : proofF (n + 1) l i = proofF n (upZ l) (i / 2) := by rw [proofF, if_pos h, if_neg hs]; rfl
theorem proofF_end {n : Nat} {l : List Int} {i : Nat} (h : ¬ 1 < l.length) : proofF n l i = [] := by
  cases n with
  | zero => rfl
  | succ n => rw [proofF, if_neg h]
theorem proofF_len : ∀ (n : Nat) (l : List Int) (i : Nat), (proofF n l i).length ≤ n := by
  intro n
  induction n with
  | zero => intro _ _; exact Nat.le_refl _
  | succ n ih =>
    intro l i
    by_cases h : 1 < l.length
    · have := ih (upZ l) (i / 2)
      by_cases hs : sib i < l.length
      · rw [proofF_sib h hs, List.length_cons]; omega
      · rw [proofF_lone h hs]; omega
    · rw [proofF_end h]; simp
theorem pow_half {n k : Nat} (h : k ≤ 2 ^ (n + 1)) : (k + 1) / 2 ≤ 2 ^ n := by rw [Nat.pow_succ] at h; omega
theorem pow_pos' {n k : Nat} (h : k ≤ 2 ^ n) (h1 : 1 < k) : ∃ m, n = m + 1 := by
  cases n with
  | zero => simp at h; omega
  | succ n => exact ⟨n, rfl⟩

theorem checkF_end {n size i : Nat} {x : Int} {p : List Int} (h : ¬ 1 < size) : checkF n size i x p = if p = [] then some x else none := by
  cases n with
  | zero => rfl
  | succ n => simp only [checkF]; rw [if_neg h]
theorem checkF_lone {n size i : Nat} {x : Int} {p : List Int} (h : 1 < size) (hs : ¬ sib i < size) : checkF (n + 1) size i x p = checkF n ((size + 1) / 2) (i / 2) x p := by simp only [checkF]; rw [if_pos h, if_neg hs]
theorem checkF_none {n size i : Nat} {x : Int} (h : 1 < size) (hs : sib i < size) : checkF (n + 1) size i x [] = none := by simp only [checkF]; rw [if_pos h, if_pos hs]
theorem checkF_sib {n size i : Nat} {x q : Int} {r : List Int} (h : 1 < size) (hs : sib i < size) (hq : digB q = true) : checkF (n + 1) size i x (q :: r) = checkF n ((size + 1) / 2) (i / 2) (if i < sib i then pairZ x q else pairZ q x) r := by simp only [checkF]; rw [if_pos h, if_pos hs, if_pos hq]
theorem checkF_bad {n size i : Nat} {x q : Int} {r : List Int} (h : 1 < size) (hs : sib i < size) (hq : digB q = false) : checkF (n + 1) size i x (q :: r) = none := by simp only [checkF]; rw [if_pos h, if_pos hs, if_neg (by simp [hq])]
theorem mcB_yes {root leaf : Int} {size i : Nat} {p : List Int} (h1 : 1 ≤ size) (h2 : size ≤ 16) (h3 : i < size) (h4 : digB leaf = true) : mcB root size i leaf p = decide (checkF 4 size i leaf p = some root) := by
  unfold mcB
  refine decide_eq_decide.2 ⟨fun h => h.2.2.2.2.2, fun h => ⟨by omega, by omega, by omega, by omega, h4, h⟩⟩
theorem mcB_no {root size i leaf : Int} {p : List Int} (h : ¬ (1 ≤ size ∧ size ≤ 16 ∧ 0 ≤ i ∧ i < size ∧ digB leaf = true)) : mcB root size i leaf p = false :=
  decide_eq_false fun h' => h ⟨h'.1, h'.2.1, h'.2.2.1, h'.2.2.2.1, h'.2.2.2.2.1⟩

theorem mrZ_bd (l : List Int) : -1 ≤ mrZ l ∧ mrZ l ≤ 990 := by
  by_cases h : leavesB l = true
  · rw [mrZ_yes h]
    have := digB_bd (rootF_bd 4 l (leavesB_iff h).2 (by have := (leavesB_iff h).1; omega))
    omega
  · rw [mrZ_no (by simpa using h)]; omega
theorem mpZ_len (l : List Int) (i : Int) : (mpZ l i).length ≤ 4 := by
  unfold mpZ; split
  · exact proofF_len _ _ _
  · simp

theorem htZ_yes (s : ByteArray) (h : s.size ≤ 60) : 0 ≤ htZ s ∧ htZ s ≤ 990 := by unfold htZ; rw [if_pos h]; exact txtZ_bd _
theorem htZ_no (s : ByteArray) (h : 60 < s.size) : htZ s = -1 := by unfold htZ; rw [if_neg (by omega)]
theorem htZ_empty : htZ ⟨#[]⟩ = 7 := rfl
theorem hpZ_yes {a b : Int} (h : digB a = true) (h' : digB b = true) : hpZ a b = pairZ a b := by unfold hpZ; rw [if_pos ⟨h, h'⟩]
theorem hpZ_no {a b : Int} (h : ¬ (digB a = true ∧ digB b = true)) : hpZ a b = -1 := by unfold hpZ; rw [if_neg h]

theorem str_ne {s : ByteArray} (h : ¬ s.size = 0) : s.toList.isEmpty = false := by
  rw [ByteArray.toList_eq]
  cases e : s.data.toList with
  | nil => exact absurd (by have := congrArg List.length e; simpa using this) h
  | cons _ _ => rfl
theorem str_nil {s : ByteArray} (h : s.size = 0) : s.toList.isEmpty = true := by
  have e : s.data.toList = [] := List.eq_nil_of_length_eq_zero (by simpa using h)
  rw [ByteArray.toList_eq, e]
  rfl

/-- A text with one byte changed. -/
theorem txt_change (s : ByteArray) (k : Nat) (hk : k < s.size) (c : UInt8) (hc : c ≠ s[k]) (h60 : s.size ≤ 60) (t : ByteArray) (ht : t = s.extract 0 k ++ ⟨#[c]⟩ ++ s.extract (k + 1) s.size) : t.size = s.size ∧ 0 ≤ htZ t ∧ htZ t ≤ 990 ∧ htZ t ≠ htZ s := by
  have hd : t.data.toList = s.data.toList.take k ++ [c] ++ s.data.toList.drop (k + 1) := by
    subst ht
    simp
    exact List.take_of_length_le (by simp)
  have hsd : s.data.toList = s.data.toList.take k ++ [s[k]] ++ s.data.toList.drop (k + 1) := by
    have hk' : k < s.data.toList.length := by simpa using hk
    have h := List.take_append_drop (k + 1) s.data.toList
    rw [List.take_succ_eq_append_getElem hk'] at h
    exact h.symm
  have hsz : t.size = s.size := by
    have h1 := congrArg List.length hd
    simp at h1
    have e1 : s.data.size = s.size := rfl
    have e2 : t.data.size = t.size := rfl
    omega
  have hn := txtZ_byte (s.data.toList.take k) (s.data.toList.drop (k + 1)) hc
  rw [← hd, ← hsd] at hn
  have hb := htZ_yes t (by omega)
  refine ⟨hsz, hb.1, hb.2, ?_⟩
  unfold htZ
  rw [if_pos (show t.size ≤ 60 by omega), if_pos h60]
  exact hn

/-- A byte xor 1, 2 or 3. -/
theorem xor_byte (b : UInt8) (m : Int) (h1 : 1 ≤ m) (h3 : m ≤ 3) : ∃ c : UInt8, bits .xor .u8 (b.toNat : Int) m = (c.toNat : Int) ∧ c ≠ b := by
  have key : ∀ x : Fin 256, ∀ y : Fin 3, bits .xor .u8 (x.val : Int) ((y.val : Int) + 1) = ((x.val ^^^ (y.val + 1) : Nat) : Int) ∧ x.val ^^^ (y.val + 1) ≠ x.val ∧ x.val ^^^ (y.val + 1) < 256 := by decide +kernel
  obtain ⟨hz, hne, hlt⟩ := key ⟨b.toNat, UInt8.toNat_lt b⟩ ⟨(m - 1).toNat, by omega⟩
  simp only at hz hne hlt
  rw [show (((m - 1).toNat : Nat) : Int) + 1 = m by omega] at hz
  generalize b.toNat ^^^ ((m - 1).toNat + 1) = z at hz hne hlt
  refine ⟨UInt8.ofNat z, ?_, ?_⟩
  · rw [UInt8.toNat_ofNat', Nat.mod_eq_of_lt (show z < 2 ^ 8 from hlt), hz]
  · intro e
    apply hne
    rw [← e, UInt8.toNat_ofNat', Nat.mod_eq_of_lt (show z < 2 ^ 8 from hlt)]

theorem wrap_tmod3 (n : Nat) : ∃ m : Int, 1 ≤ m ∧ m ≤ 3 ∧ IntKind.u8.wrap (IntKind.i64.wrap (1 + ((n : Int)).tmod 3)) = m := by
  have e : ((n : Int)).tmod 3 = (n : Int) % 3 := Int.tmod_eq_emod_of_nonneg (by omega)
  refine ⟨1 + (n : Int) % 3, by omega, by omega, ?_⟩
  rw [e, IntWalk.i64_in _ (by omega), IntWalk.u8_in _ (by omega)]

theorem mcB_root {root root' size i leaf : Int} {p : List Int} (h : mcB root size i leaf p = true) (hne : root' ≠ root) : mcB root' size i leaf p = false := by
  have h1 := of_decide_eq_true h
  exact decide_eq_false fun h2 => hne (by
    have := h2.2.2.2.2.2.symm.trans h1.2.2.2.2.2
    simpa using this)
theorem mcB_len {root size i leaf : Int} {p q : List Int} (h : mcB root size i leaf p = true) (hne : q.length ≠ p.length) : mcB root size i leaf q = false := by
  have h1 := of_decide_eq_true h
  exact decide_eq_false fun h2 => hne ((check_len _ _ _ _ _ _ h2.2.2.2.2.2).trans (check_len _ _ _ _ _ _ h1.2.2.2.2.2).symm)
theorem mcB_short {root size i leaf : Int} {p : List Int} (h : mcB root size i leaf p = true) : p.length ≤ 4 := by
  have h1 := of_decide_eq_true h
  rw [check_len _ _ _ _ _ _ h1.2.2.2.2.2]
  exact plen_le _ _ _
theorem leaves_get {l : List Int} (h : leavesB l = true) {i : Nat} (hi : i < l.length) : digB l[i] = true := (leavesB_iff h).2 _ (List.getElem_mem hi)
theorem getD_at {l : List Int} {i : Nat} (hi : i < l.length) : l.getD i 0 = l[i] := by simp [hi]
theorem mc_proof {l : List Int} {i : Nat} (h : leavesB l = true) (hi : i < l.length) : mcB (mrZ l) l.length i l[i] (mpZ l i) = true := by
  obtain ⟨hl, hd⟩ := leavesB_iff h
  rw [mcB_yes (by omega) (by omega) hi (leaves_get h hi), mrZ_yes h, mpZ_yes h hi, ← getD_at hi]
  exact decide_eq_true (check_proof 4 l i hd hi (by omega))
theorem mc_leaf {l : List Int} {i : Nat} {x : Int} (h : leavesB l = true) (hi : i < l.length) (hx : x ≠ l[i]) : mcB (mrZ l) l.length i x (mpZ l i) = false := by
  obtain ⟨hl, hd⟩ := leavesB_iff h
  cases hm : mcB (mrZ l) l.length i x (mpZ l i) with
  | false => rfl
  | true =>
    have h1 := (of_decide_eq_true (mc_proof h hi)).2.2.2.2.2
    have h2 := of_decide_eq_true hm
    exact absurd (check_leaf _ _ _ _ _ _ _ h2.2.2.2.2.1 (leaves_get h hi) h2.2.2.2.2.2 h1) hx

theorem mrZ_pos {l : List Int} (h : leavesB l = true) : 0 ≤ mrZ l ∧ mrZ l ≤ 990 := by
  rw [mrZ_yes h]
  obtain ⟨hl, hd⟩ := leavesB_iff h
  exact digB_bd (rootF_bd 4 l hd (by omega))

theorem mc_leaf' {l : List Int} {i : Int} {x : Int} (h : leavesB l = true) (h0 : 0 ≤ i) (hi : i < l.length) (hx : x ≠ l.getD i.toNat 0) : mcB (mrZ l) l.length i x (mpZ l i) = false := by
  obtain ⟨i, rfl⟩ := Int.eq_ofNat_of_zero_le h0
  have hi' : i < l.length := by omega
  exact mc_leaf h hi' (by rw [← getD_at hi']; exact hx)

end Go.Proofs.Ytekpapodepachaa

/- What spec's functions of digests and hash trees answer, each by a walk of its text: the answers are those of plain functions on lists; conditions: a list that is read has fewer than 2^40 elements, numbers that are paired are digests. -/
namespace Go.Proofs.Ytekpapodepachaa
open Go.RowKit

theorem TI2 : IntT Try.prog 23 3 := ⟨Try.underlying23, by kernel_rfl⟩

end Go.Proofs.Ytekpapodepachaa

/- The draws of digests, leaves and texts: what is drawn is short and lies in new memory; each by a walk of its text; condition: at most 2^40 picks. -/
namespace Go.Proofs.Ytekpapodepachaa
open Go.RowKit

/-- Numbers between -1 and 991. -/
def Digs (xs : List Int) : Prop := ∀ x ∈ xs, -1 ≤ x ∧ x ≤ 991
theorem digs_app {xs zs : List Int} (h : Digs xs) (k : Digs zs) : Digs (xs ++ zs) := fun x hx => by
  rcases List.mem_append.1 hx with hx | hx
  · exact h x hx
  · exact k x hx
theorem digs_one {z : Int} (h1 : -1 ≤ z) (h2 : z ≤ 991) : Digs [z] := fun x hx => by simp at hx; subst hx; exact ⟨h1, h2⟩
theorem digs_set {xs : List Int} (h : Digs xs) (j : Nat) {z : Int} (h1 : -1 ≤ z) (h2 : z ≤ 991) : Digs (xs.set j z) := fun x hx => by
  rcases List.mem_or_eq_of_mem_set hx with hx | rfl
  · exact h x hx
  · exact ⟨h1, h2⟩
theorem grown_row' {w a b : World} {R : Nat} {row : Option Nat} (h : w.grownBy a (some R)) (k : a.grownBy b row) (hr : ∀ g, row = some g → w.heap.size ≤ g) : w.grownBy b (some R) :=
  ⟨k.os.trans h.os, k.tape.trans h.tape, k.output.trans h.output, Nat.le_trans h.size k.size, fun i hi hne => (k.block i (Nat.lt_of_lt_of_le hi h.size) (fun e => by have := hr i e.symm; omega)).trans (h.block i hi hne)⟩
theorem below_of_row' {w w' : World} {R B : Nat} (h : w.grownBy w' (some R)) (hR : B ≤ R) (hB : B ≤ w.heap.size) : Below B w w' :=
  ⟨h.os, h.tape, h.output, h.size, fun k hk => h.block k (by omega) (fun e => by injection e with e; omega)⟩
theorem dig4_at (k : Nat) (hk : k < 4) : ∃ z : Int, (#[Value.int .i64 (-1), .int .i64 0, .int .i64 990, .int .i64 991] : Array Value)[k]? = some (.int .i64 z) ∧ -1 ≤ z ∧ z ≤ 991 := by
  match k, hk with
  | 0, _ => exact ⟨-1, rfl, by omega, by omega⟩
  | 1, _ => exact ⟨0, rfl, by omega, by omega⟩
  | 2, _ => exact ⟨990, rfl, by omega, by omega⟩
  | 3, _ => exact ⟨991, rfl, by omega, by omega⟩

end Go.Proofs.Ytekpapodepachaa

/- The draw of a deal (coefficients and a number of shares), by a walk of its text; condition: the code has at most 2^40 bytes. -/
namespace Go.Proofs.Ytekpapodepachaa
open Go.RowKit

theorem lit3P {k : Nat} (h : k < 3) : ∃ z : Int, (#[.int .i64 (-1), .int .i64 250, .int .i64 251] : Array Value)[k]? = some (.int .i64 z) := by
  match k, h with
  | 0, _ => exact ⟨_, rfl⟩
  | 1, _ => exact ⟨_, rfl⟩
  | 2, _ => exact ⟨_, rfl⟩
/-- While a list is drawn: u its slice, R the reader. -/
structure Ind (E : TypeId) (R : Nat) (w : World) (p : Nat) (W : World) (u : Value) (l : List Int) : Prop where
  own : Own E W (R + 1) u l
  rd : Rdr W R p
  bel : Below w.heap.size w W
  hR : w.heap.size ≤ R
section
variable {E : TypeId} {R : Nat} {w : World} {p : Nat} {W : World} {u : Value} {l : List Int}
theorem Ind.picked (h : Ind E R w p W u l) {w2 : World} {p2 : Nat} (hg : W.grownBy w2 (some R)) (hr : Rdr w2 R p2) : Ind E R w p2 w2 u l :=
  ⟨h.own.kept hg (.inr (fun e => by have := (h.own.lt R e).1; omega)), hr, h.bel.grown hg h.bel.size (fun g e => by cases e; exact h.hR), h.hR⟩
theorem Ind.below (h : Ind E R w p W u l) {w2 : World} (hb : Below W.heap.size W w2) : Ind E R w p w2 u l := ⟨h.own.below hb, h.rd.kept (below_grown hb) (by simp), below_step h.bel h.bel.size hb, h.hR⟩
theorem Ind.put (h : Ind E R w p W u l) {w2 : World} {u2 : Value} {l2 : List Int} (ho : Own E w2 (R + 1) u2 l2) (hg : W.grownBy w2 u.ownBlock) : Ind E R w p w2 u2 l2 :=
  ⟨ho, h.rd.kept hg (fun b e => by have := (h.own.lt b e).1; omega), h.bel.grown hg h.bel.size (fun g e => by have := (h.own.lt g e).1; have := h.hR; omega), h.hR⟩
theorem Ind.setb {g c m : Nat} (h : Ind E R w p W (.slice (some ⟨g, 0, none⟩) m c) l) (hm : m = l.length) (k : Nat) (z : Int) : Ind E R w p (W.setCell ⟨g, k, none⟩ (.int .i64 z)) (.slice (some ⟨g, 0, none⟩) m c) (l.set k z) := by
  have h1 := (h.own.lt g rfl).1
  have h2 := h.hR
  exact ⟨(h.own.store hm k z).1, h.rd.kept (grownBy_set _ g k _) (fun b e => by cases e; omega), h.bel.setCell (p := ⟨g, k, none⟩) (by simp only; omega) _, h.hR⟩
end
/-- What is drawn: coefficients and a number. -/
def CdD (E : TypeId) (w : World) (e : Ending) (w' : World) : Prop := ∃ (l : List Int) (u : Value) (n : Int), e = .returned (.tuple #[u, .int .i64 n]) ∧ Own E w' w.heap.size u l ∧ l.length ≤ 5 ∧ Below w.heap.size w w'
theorem Ind.fin {E : TypeId} {R : Nat} {w : World} {p : Nat} {W : World} {u : Value} {l : List Int} (h : Ind E R w p W u l) (hl : l.length ≤ 5) (n : Int) : CdD E w (.returned (.tuple #[u, .int .i64 n])) W := ⟨l, u, n, rfl, h.own.mono (by have := h.hR; omega), hl, h.bel⟩

theorem TIcd : IntT Try.prog 23 3 := ⟨Try.underlying23, by kernel_rfl⟩
set_option maxHeartbeats 8000000 in
theorem spec_DrawCoinDeal (a : Option Addr) (cap : Nat) (zs : List Int) (w : World) (h : CodeAt w a cap zs) :
    Calls Try.prog 7 #[.slice a zs.length cap] w (CdD 3 w) := by
  have hfin : ∀ (R p : Nat) (W : World) (u : Value) (l : List Int) (n : Int), Ind 3 R w p W u l → l.length ≤ 5 → CdD 3 w (.returned (.tuple #[u, .int .i64 n])) W := fun R p W u l n h hl => h.fin hl n
  have Hfin := Lib.hid hfin; clear hfin
  generalize CdD 3 w = POST at *
  go_enter Try.func7, Try.ntmps7
  go_wp2_with fail
  refine (open_any a cap zs _ h).mono ?_
  rintro e w1 ⟨R, rfl, hR1, hR2, hr1, hb1⟩
  have HV := Lib.hid (show Ind 3 R w 0 (w1.alloc (.cells #[] 3)) (.slice (some ⟨w1.heap.size, 0, none⟩) 0 0) [] from ⟨own_empty 3 w1 (by omega), hr1.alloc _, hb1.alloc (by omega) _, hR1⟩)
  clear hr1 hb1 h
  go_wp2
  generalize (w1.alloc (.cells #[] 3)) = wz at *
  have h00 : ([] : List Int).length = 0 := rfl
  generalize ([] : List Int) = l0 at *
  go_loopw [5, 6] (fun u i wr => ∃ (k p : Nat) (l : List Int), k ≤ 5 ∧ i = .int .i64 k ∧ p ≤ 2 * k ∧ l.length = k ∧ Ind 3 R w p wr u l) (fun _ i _ => 6 - (intOf i).toNat)
  case atStart => exact ⟨0, 0, l0, by omega, rfl, by omega, h00, HV.out⟩
  case round =>
    clear HV h00
    obtain ⟨k, p, l, hk, rfl, hpk, hlk, hv⟩ := hrel
    obtain ⟨au, cu, rfl, _, _⟩ := hv.own.ints
    have HV := Lib.hid hv; clear hv
    have Hlk := Lib.hid hlk; clear hlk
    go_wp2_with fail
    refine (pick_any R 5 (p) _ (by omega) HV.out.rd (by omega)).mono ?_
    rintro e w2 ⟨b, rfl, hb0, hb1, hr', hg'⟩
    have HV := Lib.hid (HV.out.picked hg' hr')
    clear hr' hg'
    have wb : IntKind.i64.wrap (1 + b) = 1 + b := IntWalk.i64_in _ (by omega)
    by_cases hlt : (k : Int) < 1 + b
    case pos =>
      have hlt' : decide ((k : Int) < 1 + b) = true := decide_eq_true hlt
      go_wp2_with fail
      refine (pick_any R 251 (p + 1) _ (by omega) HV.out.rd (by omega)).mono ?_
      rintro e w3 ⟨y, rfl, hy0, hy1, hr', hg'⟩
      have HV := Lib.hid (HV.out.picked hg' hr')
      clear hr' hg'
      have hol : l.length ≤ 1099511627776 := by have := Hlk.out; omega
      have hw3 : R + 1 ≤ w3.heap.size := by have := HV.out.rd.lt; omega
      go_wp2_with (at_builtin; refine wpList_push_at TIcd rfl (.tmp 17) (.tmp 20) rfl (R + 1) (.slice au l.length cu) l y rfl HV.out.own hol rfl hw3 ?_; intro v9 w9 ho9 hg9 hat9)
      have HV := Lib.hid (HV.out.put ho9 hg9)
      clear ho9 hg9 hat9
      have Hl9 := Lib.hid (show (l ++ [y]).length = k + 1 by rw [List.length_append, Hlk.out]; rfl)
      generalize l ++ [y] = l9 at *
      go_wp2
      go_roundw
      case rel => exact ⟨k + 1, _, l9, by omega, by go_num, by omega, Hl9.out, HV.out⟩
      case measure => simp [intOf]; omega
    case neg =>
      have hlt' : decide ((k : Int) < 1 + b) = false := decide_eq_false hlt
      have hk1 : 1 ≤ k := by omega
      have hle : 1 + b ≤ (k : Int) := by omega
      go_wp2_with fail
      refine (pick_any R 16 (p + 1) _ (by omega) HV.out.rd (by omega)).mono ?_
      rintro e w3 ⟨c, rfl, hc0, hc1, hr', hg'⟩
      have HV := Lib.hid (HV.out.picked hg' hr')
      clear hr' hg'
      obtain ⟨g, cu', hgc, hg1, hg2, hc6, hcc, hfz⟩ := HV.out.own.row (by have := Hlk.out; omega)
      simp only [Value.slice.injEq, true_and] at hgc
      obtain ⟨rfl, rfl⟩ := hgc
      have h15 : l.length ≤ 5 := by have := Hlk.out; omega
      have h11 : 1 ≤ l.length := by have := Hlk.out; omega
      by_cases hc9 : c = 0
      case pos =>
        have hcb : (c == 0) = true := by rw [beq_iff_eq]; exact hc9
        have hal : Below w3.heap.size w3 (w3.alloc (.cells #[.int .i64 (-1), .int .i64 250, .int .i64 251] 3)) := (Below.refl _ _).alloc (Nat.le_refl _) _
        have LS := Lib.hid (Str.new w3 3 #[.int .i64 (-1), .int .i64 250, .int .i64 251])
        have HBR := Lib.hid (show R ≠ w3.heap.size by have := HV.out.rd.lt; omega)
        have HV := Lib.hid (HV.out.below hal)
        clear hal hcc hfz hg2
        go_wp2_with fail
        generalize (w3.alloc (.cells #[.int .i64 (-1), .int .i64 250, .int .i64 251] 3)) = wl at *
        generalize w3.heap.size = LB at *
        refine (pick_any R 3 (p + 1 + 1) _ (by omega) HV.out.rd (by omega)).mono ?_
        rintro e w5 ⟨v, rfl, hv0, hv1, hr', hg'⟩
        have HV := Lib.hid (HV.out.picked hg' hr')
        have LS := Lib.hid (LS.out.kept hg' (by simp; have := HBR.out; omega))
        clear hr' hg'
        obtain ⟨m, rfl⟩ : ∃ m : Nat, v = m := ⟨v.toNat, by omega⟩
        have hm3 : m < 3 := by omega
        have hm' : (m : Int) < 3 := by omega
        obtain ⟨z, hz⟩ := lit3P hm3
        have lz := LS.out.cell m hz
        clear hz LS
        obtain ⟨g2, c2, hg2e, _, _, _, hcg, hfz⟩ := HV.out.own.row (by omega)
        simp only [Value.slice.injEq, true_and, Option.some.injEq, Addr.mk.injEq, and_true] at hg2e
        obtain ⟨rfl, rfl⟩ := hg2e
        have y0 := hfz 0
        have c0 := hcg 0 (by omega)
        clear hfz hcg
        have hl0' : (0 : Int) < (l.length : Int) := by omega
        have HV := Lib.hid (HV.out.setb rfl 0 z)
        have Hls := Lib.hid (show (l.set 0 z).length ≤ 5 by rw [List.length_set]; exact h15)
        generalize l.set 0 z = l2 at *
        go_wp2_with fail
        refine (pick_any R 20 (p + 1 + 1 + 1) _ (by omega) HV.out.rd (by omega)).mono ?_
        rintro e w7 ⟨s, rfl, hs0, hs1, hr', hg'⟩
        have HV := Lib.hid (HV.out.picked hg' hr')
        clear hr' hg'
        by_cases hs9 : s = 0
        case pos =>
          have hsb : (s == 0) = true := by rw [beq_iff_eq]; exact hs9
          have HV := Lib.hid (show Ind 3 R w _ _ (.slice (some ⟨g, 0, none⟩) 0 cu) ((l2).take 0) from ⟨HV.out.own.front 0 (Nat.zero_le _), HV.out.rd, HV.out.bel, HV.out.hR⟩)
          have hl0 : (((l2).take 0)).length ≤ 5 := by simp
          generalize (l2).take 0 = lz at *
          have hcu0 : 0 ≤ cu := Nat.zero_le _
          go_wp2_with fail
          refine (pick_any R 4 (p + 1 + 1 + 1 + 1) _ (by omega) HV.out.rd (by omega)).mono ?_
          rintro e w8 ⟨d, rfl, hd0, hd1, hr', hg'⟩
          have HV := Lib.hid (HV.out.picked hg' hr')
          clear hr' hg'
          go_wp2_with fail
          refine (pick_any R 16 (p + 1 + 1 + 1 + 1 + 1) _ (by omega) HV.out.rd (by omega)).mono ?_
          rintro e w9 ⟨q, rfl, hq0, hq1, hr', hg'⟩
          have HV := Lib.hid (HV.out.picked hg' hr')
          clear hr' hg'
          obtain ⟨t, ht⟩ : ∃ t, q.tdiv 15 = t := ⟨_, rfl⟩
          have ht9 : 0 ≤ t ∧ t ≤ 1 := by rw [← ht, Int.tdiv_eq_ediv_of_nonneg (by omega)]; omega
          have v1 : IntKind.i64.wrap ((0 : Int) + d) = (0 : Int) + d := IntWalk.i64_in _ (by omega)
          have v2 : IntKind.i64.wrap (t * 2) = t * 2 := IntWalk.i64_in _ (by omega)
          have v0 : IntKind.i64.wrap t = t := IntWalk.i64_in _ (by omega)
          have v3 : IntKind.i64.wrap ((0 : Int) + d - t * 2) = (0 : Int) + d - t * 2 := IntWalk.i64_in _ (by omega)
          go_wp2
          exact Hfin.out _ _ _ _ _ _ HV.out hl0
        have hsb : (s == 0) = false := by rw [beq_eq_false_iff_ne]; exact hs9
        go_wp2_with fail
        refine (pick_any R 4 (p + 1 + 1 + 1 + 1) _ (by omega) HV.out.rd (by omega)).mono ?_
        rintro e w8 ⟨d, rfl, hd0, hd1, hr', hg'⟩
        have HV := Lib.hid (HV.out.picked hg' hr')
        clear hr' hg'
        go_wp2_with fail
        refine (pick_any R 16 (p + 1 + 1 + 1 + 1 + 1) _ (by omega) HV.out.rd (by omega)).mono ?_
        rintro e w9 ⟨q, rfl, hq0, hq1, hr', hg'⟩
        have HV := Lib.hid (HV.out.picked hg' hr')
        clear hr' hg'
        obtain ⟨t, ht⟩ : ∃ t, q.tdiv 15 = t := ⟨_, rfl⟩
        have ht9 : 0 ≤ t ∧ t ≤ 1 := by rw [← ht, Int.tdiv_eq_ediv_of_nonneg (by omega)]; omega
        have v1 : IntKind.i64.wrap ((l.length : Int) + d) = (l.length : Int) + d := IntWalk.i64_in _ (by omega)
        have v2 : IntKind.i64.wrap (t * 2) = t * 2 := IntWalk.i64_in _ (by omega)
        have v0 : IntKind.i64.wrap t = t := IntWalk.i64_in _ (by omega)
        have v3 : IntKind.i64.wrap ((l.length : Int) + d - t * 2) = (l.length : Int) + d - t * 2 := IntWalk.i64_in _ (by omega)
        go_wp2
        exact Hfin.out _ _ _ _ _ _ HV.out Hls.out
      have hcb : (c == 0) = false := by rw [beq_eq_false_iff_ne]; exact hc9
      clear hcc hfz hg2
      go_wp2_with fail
      refine (pick_any R 20 (p + 1 + 1) _ (by omega) HV.out.rd (by omega)).mono ?_
      rintro e w7 ⟨s, rfl, hs0, hs1, hr', hg'⟩
      have HV := Lib.hid (HV.out.picked hg' hr')
      clear hr' hg'
      by_cases hs9 : s = 0
      case pos =>
        have hsb : (s == 0) = true := by rw [beq_iff_eq]; exact hs9
        have HV := Lib.hid (show Ind 3 R w _ _ (.slice (some ⟨g, 0, none⟩) 0 cu) ((l).take 0) from ⟨HV.out.own.front 0 (Nat.zero_le _), HV.out.rd, HV.out.bel, HV.out.hR⟩)
        have hl0 : (((l).take 0)).length ≤ 5 := by simp
        generalize (l).take 0 = lz at *
        have hcu0 : 0 ≤ cu := Nat.zero_le _
        go_wp2_with fail
        refine (pick_any R 4 (p + 1 + 1 + 1) _ (by omega) HV.out.rd (by omega)).mono ?_
        rintro e w8 ⟨d, rfl, hd0, hd1, hr', hg'⟩
        have HV := Lib.hid (HV.out.picked hg' hr')
        clear hr' hg'
        go_wp2_with fail
        refine (pick_any R 16 (p + 1 + 1 + 1 + 1) _ (by omega) HV.out.rd (by omega)).mono ?_
        rintro e w9 ⟨q, rfl, hq0, hq1, hr', hg'⟩
        have HV := Lib.hid (HV.out.picked hg' hr')
        clear hr' hg'
        obtain ⟨t, ht⟩ : ∃ t, q.tdiv 15 = t := ⟨_, rfl⟩
        have ht9 : 0 ≤ t ∧ t ≤ 1 := by rw [← ht, Int.tdiv_eq_ediv_of_nonneg (by omega)]; omega
        have v1 : IntKind.i64.wrap ((0 : Int) + d) = (0 : Int) + d := IntWalk.i64_in _ (by omega)
        have v2 : IntKind.i64.wrap (t * 2) = t * 2 := IntWalk.i64_in _ (by omega)
        have v0 : IntKind.i64.wrap t = t := IntWalk.i64_in _ (by omega)
        have v3 : IntKind.i64.wrap ((0 : Int) + d - t * 2) = (0 : Int) + d - t * 2 := IntWalk.i64_in _ (by omega)
        go_wp2
        exact Hfin.out _ _ _ _ _ _ HV.out hl0
      have hsb : (s == 0) = false := by rw [beq_eq_false_iff_ne]; exact hs9
      go_wp2_with fail
      refine (pick_any R 4 (p + 1 + 1 + 1) _ (by omega) HV.out.rd (by omega)).mono ?_
      rintro e w8 ⟨d, rfl, hd0, hd1, hr', hg'⟩
      have HV := Lib.hid (HV.out.picked hg' hr')
      clear hr' hg'
      go_wp2_with fail
      refine (pick_any R 16 (p + 1 + 1 + 1 + 1) _ (by omega) HV.out.rd (by omega)).mono ?_
      rintro e w9 ⟨q, rfl, hq0, hq1, hr', hg'⟩
      have HV := Lib.hid (HV.out.picked hg' hr')
      clear hr' hg'
      obtain ⟨t, ht⟩ : ∃ t, q.tdiv 15 = t := ⟨_, rfl⟩
      have ht9 : 0 ≤ t ∧ t ≤ 1 := by rw [← ht, Int.tdiv_eq_ediv_of_nonneg (by omega)]; omega
      have v1 : IntKind.i64.wrap ((l.length : Int) + d) = (l.length : Int) + d := IntWalk.i64_in _ (by omega)
      have v2 : IntKind.i64.wrap (t * 2) = t * 2 := IntWalk.i64_in _ (by omega)
      have v0 : IntKind.i64.wrap t = t := IntWalk.i64_in _ (by omega)
      have v3 : IntKind.i64.wrap ((l.length : Int) + d - t * 2) = (l.length : Int) + d - t * 2 := IntWalk.i64_in _ (by omega)
      go_wp2
      exact Hfin.out _ _ _ _ _ _ HV.out h15

end Go.Proofs.Ytekpapodepachaa

/- impl's shares of a secret, dealt by a method value, by a walk of its text; condition: a list that is read has fewer than 2^40 elements. -/
namespace Go.Proofs.Ytekpapodepachaa
open Go.RowKit

theorem polynomial_valid (a : Option Addr) (cap : Nat) (l : List Int) (w : World) (hbig : l.length ≤ 1099511627776) (hc : IntsAt w a l) :
    Calls Try.prog 16 #[.slice a l.length cap] w fun e w' => e = .returned (.bool (polyB l)) ∧ w = w' := by
  have hz := impl_isThreshold (l.length : Int) w
  have hd := impl_areSymbols a cap l w hbig hc
  by_cases h : 1 ≤ (l.length : Int) ∧ (l.length : Int) ≤ 7
  · rw [decide_eq_true h] at hz
    have Hf := Lib.hid (show polyB l = l.all symB by unfold polyB; rw [decide_eq_true (by omega), Bool.and_true])
    have Hz := Lib.hid hz; clear hz
    have Hd := Lib.hid hd; clear hd hc h
    go_enter Try.func16, Try.ntmps16
    go_wp2_with fail
    refine Hz.out.mono ?_
    rintro e w' ⟨rfl, rfl⟩
    go_wp2_with fail
    refine Hd.out.mono ?_
    rintro e w' ⟨rfl, rfl⟩
    go_wp2
    go_ret
    exact ⟨ret_bool Hf.out.symm, rfl⟩
  · rw [decide_eq_false h] at hz
    have Hf := Lib.hid (show polyB l = false by unfold polyB; rw [decide_eq_false (by omega), Bool.and_false])
    have Hz := Lib.hid hz; clear hz hd hc h
    go_enter Try.func16, Try.ntmps16
    go_wp2_with fail
    refine Hz.out.mono ?_
    rintro e w' ⟨rfl, rfl⟩
    go_wp2
    go_ret
    exact ⟨ret_bool Hf.out.symm, rfl⟩

theorem polynomial_at (a : Option Addr) (cap : Nat) (l : List Int) (x : Int) (w : World) (hbig : l.length ≤ 1000) (hd : ∀ y ∈ l, 0 ≤ y ∧ y ≤ 250) (hx0 : 0 ≤ x) (hx8 : x ≤ 8) (hc : IntsAt w a l) :
    Calls Try.prog 18 #[.slice a l.length cap, .int .i64 x] w fun e w' => e = .returned (.int .i64 (horZ l x)) ∧ Below w.heap.size w w' := by
  have H := Lib.hid (impl_valueAt a cap l x w hbig hd hx0 hx8 hc)
  clear hd hc
  go_enter Try.func18, Try.ntmps18
  go_wp2_with fail
  refine H.out.mono ?_
  rintro e w1 ⟨rfl, hb⟩
  go_wp2
  go_ret
  exact ⟨rfl, hb⟩

set_option maxHeartbeats 1000000 in
set_option maxRecDepth 8000 in
theorem impl_sharesOf (a : Option Addr) (cap : Nat) (d : List Int) (m : Nat) (w : World) (hlen : d.length ≤ 7) (hd : ∀ y ∈ d, 0 ≤ y ∧ y ≤ 250) (hm : m ≤ 7) (hc : IntsAt w a d) :
    Calls Try.prog 17 #[.func (.func 18) #[.slice a d.length cap] #[], .int .i64 m] w fun e w' => ∃ v, e = .returned v ∧ Own 3 w' w.heap.size v (cdS d m) ∧ Below w.heap.size w w' := by
  have hb0 : Below w.heap.size w (w.alloc (.cells #[] 3)) := (Below.refl _ _).alloc (Nat.le_refl _) _
  have HO := Lib.hid (own_empty 3 w (Nat.le_refl _))
  have Hb0 := Lib.hid hb0; clear hb0
  have Hc := Lib.hid hc; clear hc
  have Hd := Lib.hid hd; clear hd
  go_enter Try.func17, Try.ntmps17
  go_wp2
  go_loopw [5, 6, 9] (fun v _ i wr => ∃ k : Nat, k ≤ m ∧ i = .int .i64 k ∧ Own 3 wr w.heap.size v (cdS d k) ∧ Below w.heap.size w wr) (fun _ _ i _ => m - (intOf i).toNat)
  case atStart => exact ⟨0, by omega, rfl, HO.out, Hb0.out⟩
  case round =>
    obtain ⟨k, hk, rfl, hown, hbel⟩ := hrel
    have hB := hbel.size
    by_cases hlt : k < m
    · have hln : (cdS d k).length ≤ 100 := by rw [cdS_len]; omega
      have Hsu := Lib.hid (cdS_succ d k)
      have Hn := Lib.hid (impl_numberOf (k : Int) wr (by omega) (by omega))
      have hv := polynomial_at a cap d ((k : Int) + 1) wr (by omega) Hd.out (by omega) (by omega) (Hc.out.below hbel)
      rw [show horZ d ((k + 1 : Nat) : Int) = horZ d ((k : Int) + 1) by rw [Int.natCast_add]; rfl] at Hsu
      have HV2 := Lib.hid hv; clear hv
      generalize horZ d ((k : Int) + 1) = z at *
      go_wp2_with fail
      refine Hn.out.mono ?_
      rintro e w2 ⟨rfl, rfl⟩
      go_wp2_with fail
      refine HV2.out.mono ?_
      rintro e w2 ⟨rfl, hb2'⟩
      have ho2 := hown.below hb2'
      have hb2 := below_step hbel hB hb2'
      have hB2 := hb2.size
      clear hb2' hown hbel
      generalize cdS d k = zs at *
      go_wp2_with (at_builtin; refine wpList_push TI3 rfl (.tmp 12) (.tmp 17) rfl w.heap.size _ zs _ rfl ho2 (by omega) rfl hB2 ?_; intro v' w5 hown5 hg5)
      go_roundw
      case rel => exact ⟨k + 1, by omega, by go_num, by rw [Hsu.out]; exact hown5, hb2.grown hg5 hB2 (fun g e => (ho2.lt g e).1)⟩
      case measure => simp [intOf]; omega
    · have hkm : k = m := by omega
      have Hk := Lib.hid hkm; clear hkm
      go_wp2
      go_ret
      exact ⟨_, rfl, by rw [← Hk.out]; exact hown, hbel⟩

set_option maxHeartbeats 1000000 in
theorem impl_CoinDeal (a : Option Addr) (cap : Nat) (d : List Int) (many : Int) (w : World) (hbig : d.length ≤ 1099511627776) (hc : IntsAt w a d) :
    Calls Try.prog 8 #[.slice a d.length cap, .int .i64 many] w fun e w' => ∃ v, e = .returned v ∧ Own 3 w' w.heap.size v (cdL d many) ∧ Below w.heap.size w w' := by
  have hb0 : Below w.heap.size w (w.alloc (.cells #[] 3)) := (Below.refl _ _).alloc (Nat.le_refl _) _
  have HO := Lib.hid (own_empty 3 w (Nat.le_refl _))
  have Hb0 := Lib.hid hb0; clear hb0
  have HV := Lib.hid (polynomial_valid a cap d _ hbig hc)
  cases h1 : polyB d with
  | false =>
    rw [h1] at HV
    have Hf := Lib.hid (cdL_no (d := d) (many := many) (by unfold cdB; rw [h1]; rfl))
    clear h1 hc
    go_enter Try.func8, Try.ntmps8
    go_wp2_with fail
    refine HV.out.mono ?_
    rintro e w' ⟨rfl, rfl⟩
    go_wp2
    go_ret
    exact ⟨_, rfl, by rw [Hf.out]; exact HO.out, Hb0.out⟩
  | true =>
  rw [h1] at HV
  obtain ⟨hsym, hl1, hl2⟩ := polyB_at h1
  by_cases hm : (d.length : Int) ≤ many ∧ many ≤ 7
  · obtain ⟨hm1, hm2⟩ := hm
    obtain ⟨m, rfl⟩ := Int.eq_ofNat_of_zero_le (show 0 ≤ many by omega)
    have Hf := Lib.hid (cdL_yes (d := d) (m := m) h1 (by omega) (by omega))
    have HS := Lib.hid (impl_sharesOf a cap d m w hl2 hsym (by omega) hc)
    have hm3 : ¬ m < d.length := by omega
    clear h1 hsym hc
    go_enter Try.func8, Try.ntmps8
    go_wp2_with fail
    refine HV.out.mono ?_
    rintro e w' ⟨rfl, rfl⟩
    go_wp2_with fail
    refine HS.out.mono ?_
    rintro e w1 ⟨v, rfl, hown, hb⟩
    go_wp2
    go_ret
    exact ⟨_, rfl, by rw [Hf.out]; exact hown, hb⟩
  · have Hf := Lib.hid (cdL_no (d := d) (many := many) (by unfold cdB; rw [h1, decide_eq_false hm]; rfl))
    clear h1 hsym hc
    by_cases hm1 : many < d.length
    · clear hm
      go_enter Try.func8, Try.ntmps8
      go_wp2_with fail
      refine HV.out.mono ?_
      rintro e w' ⟨rfl, rfl⟩
      go_wp2
      go_ret
      exact ⟨_, rfl, by rw [Hf.out]; exact HO.out, Hb0.out⟩
    · have hm2 : 7 < many := by omega
      clear hm
      go_enter Try.func8, Try.ntmps8
      go_wp2_with fail
      refine HV.out.mono ?_
      rintro e w' ⟨rfl, rfl⟩
      go_wp2
      go_ret
      exact ⟨_, rfl, by rw [Hf.out]; exact HO.out, Hb0.out⟩

end Go.Proofs.Ytekpapodepachaa

/- impl's test of parts of the coin and its join of them, each by a walk of its text; condition: the list is no longer than 2^20. -/
namespace Go.Proofs.Ytekpapodepachaa
open Go.RowKit

theorem okCp_prev {l : List Cp} {k : Nat} (hk : k < l.length) (hu : Upto (okCp l) k) : -1 ≤ prevZ (cpM l) k ∧ (prevZ (cpM l) k < 7) ∧ okCp l k = (decide (prevZ (cpM l) k < l[k].1 ∧ l[k].1 < 7) && symB l[k].2) := by
  have hu2 : Upto (okAt 7 (cpM l)) k := fun j hj => by have := hu j hj; unfold okCp at this; rw [Bool.and_eq_true] at this; exact this.1
  have hl := prevZ_lo hu2 (by rw [cpM_len]; omega)
  have hh := prevZ_hi hu2 (by rw [cpM_len]; omega)
  refine ⟨hl, by omega, ?_⟩
  unfold okCp
  rw [cpV_getD hk]
  congr 1
  have hg := cpM_get (l := l) (k := k) (by rw [cpM_len]; exact hk)
  by_cases h : prevZ (cpM l) k < l[k].1 ∧ l[k].1 < 7
  · rw [decide_eq_true h]; exact okAt_prev (by rw [cpM_len]; exact hk) hl (by rw [hg]; exact h.1) (by rw [hg]; omega)
  · rw [decide_eq_false h]; exact okAt_prev_no (by rw [cpM_len]; exact hk) (by rw [hg]; omega)
theorem prevZ_cp {l : List Cp} {k : Nat} (hk : k < l.length) : prevZ (cpM l) (k + 1) = l[k].1 := by
  rw [prevZ_succ (by rw [cpM_len]; exact hk), cpM_get]

set_option maxHeartbeats 2000000 in
theorem impl_areParts (l : List Cp) (v : Value) (fp : List Nat) (w : World) (hbig : l.length ≤ 1099511627776) (hr : Cps w l v fp) :
    Calls Try.prog 24 #[v] w fun e w' => e = .returned (.bool (partsB l)) ∧ Below w.heap.size w w' := by
  obtain ⟨va, vc, rfl⟩ := hr.slice
  have Hr := Lib.hid hr; clear hr
  have Hres := Lib.hid (parts_upto l)
  go_enter Try.func24, Try.ntmps24
  go_wp2
  go_loopw [3, 5, 8] (fun p _ i wr => ∃ k : Nat, k ≤ l.length ∧ i = .int .i64 k ∧ p = .int .i64 (prevZ (cpM l) k) ∧ Upto (okCp l) k ∧ Below w.heap.size w wr) (fun _ _ i _ => l.length - (intOf i).toNat)
  case atStart => exact ⟨0, by omega, rfl, rfl, upto_zero _, Below.refl _ _⟩
  case round =>
    obtain ⟨k, hk, rfl, rfl, hup, hbel⟩ := hrel
    have hB := hbel.size
    by_cases hlt : k < l.length
    · obtain ⟨b, off, rfl, hb1, hat⟩ := Hr.out.at (by omega)
      obtain ⟨d0, d1⟩ := hat k hlt
      have c0 := (hbel.cell (p := ⟨b, off + k * 2, none⟩) hb1).trans d0
      have c1 := (hbel.cell (p := ⟨b, off + k * 2 + 1, none⟩) hb1).trans d1
      clear hat d0 d1
      obtain ⟨hp0, hp1, hok⟩ := okCp_prev hlt hup
      have Hok := Lib.hid hok; clear hok
      have Hup := Lib.hid hup; clear hup
      have Hpz := Lib.hid (prevZ_cp hlt)
      have Hbel := Lib.hid hbel; clear hbel
      generalize prevZ (cpM l) k = p at *
      generalize hx : l[k] = x at *
      obtain ⟨xm, xv⟩ := x
      dsimp only at *
      clear hx
      have hal : Below wr.heap.size wr (wr.alloc (.cells #[.int .i64 xm, .int .i64 xv] 35)) := (Below.refl _ _).alloc (Nat.le_refl _) _
      have sX := Str.new wr 35 #[.int .i64 xm, .int .i64 xv]
      have x0 := sX.cell 0 (v := .int .i64 xm) rfl
      have x1 := sX.cell 1 (v := .int .i64 xv) rfl
      have Hbel := Lib.hid (below_step Hbel.out hB hal)
      have HS := Lib.hid (fun W => impl_isSymbol xv W)
      clear sX hal
      by_cases h1 : xm ≤ p
      · have Hz := Lib.hid (allB_no hlt (show okCp l k = false by rw [Hok.out, decide_eq_false (by omega)]; rfl))
        go_wp2
        go_ret
        exact ⟨ret_bool (by rw [← Hres.out, Hz.out]), Hbel.out⟩
      · by_cases h2 : 7 ≤ xm
        · have Hz := Lib.hid (allB_no hlt (show okCp l k = false by rw [Hok.out, decide_eq_false (by omega)]; rfl))
          go_wp2
          go_ret
          exact ⟨ret_bool (by rw [← Hres.out, Hz.out]), Hbel.out⟩
        · have hok := Hok.out
          rw [decide_eq_true (show p < xm ∧ xm < 7 by omega), Bool.true_and] at hok
          cases h3 : symB xv with
          | false =>
            rw [h3] at HS hok
            have Hz := Lib.hid (allB_no hlt hok); clear hok
            go_wp2_with fail
            refine (HS.out _).mono ?_
            rintro e w' ⟨rfl, rfl⟩
            go_wp2
            go_ret
            exact ⟨ret_bool (by rw [← Hres.out, Hz.out]), Hbel.out⟩
          | true =>
            rw [h3] at HS hok
            have Hs := Lib.hid (upto_step Hup.out hok); clear hok
            go_wp2_with fail
            refine (HS.out _).mono ?_
            rintro e w' ⟨rfl, rfl⟩
            go_wp2
            go_roundw
            case rel => exact ⟨k + 1, by omega, by go_num, by rw [Hpz.out], Hs.out, Hbel.out⟩
            case measure => simp [intOf]; omega
    · have Hz := Lib.hid (allB_yes hup (show l.length ≤ k by omega)); clear hup
      have Hbel := Lib.hid hbel; clear hbel
      go_wp2
      go_ret
      exact ⟨ret_bool (by rw [← Hres.out, Hz.out]), Hbel.out⟩

set_option maxHeartbeats 1000000 in
theorem CoinPart_shard (m v : Int) (w : World) (h0 : 0 ≤ m) (h6 : m ≤ 6) :
    Calls Try.prog 25 #[.agg #[.int .i64 m, .int .i64 v]] w fun e w' => ∃ g, e = .returned (.agg #[.int .i64 (m + 1), .slice (some ⟨g, 0, none⟩) 1 1]) ∧ w.heap.size ≤ g ∧ g < w'.heap.size ∧ w'.cell? ⟨g, 0, none⟩ = some (.int .i64 v) ∧ Below w.heap.size w w' := by
  have hbW : Below w.heap.size w ((w.alloc (.cells #[.int .i64 m, .int .i64 v] 35)).alloc (.cells #[.int .i64 0, .slice none 0 0] 49)) := ((Below.refl _ w).alloc (Nat.le_refl _) _).alloc (by simp) _
  have s0 := (Str.new w 35 #[.int .i64 m, .int .i64 v]).alloc (.cells #[.int .i64 0, .slice none 0 0] 49)
  have s1 := Str.new (w.alloc (.cells #[.int .i64 m, .int .i64 v] 35)) 49 #[.int .i64 0, .slice none 0 0]
  simp only [World.size_alloc] at s1
  have hz : ((w.alloc (.cells #[.int .i64 m, .int .i64 v] 35)).alloc (.cells #[.int .i64 0, .slice none 0 0] 49)).heap.size = w.heap.size + 2 := by simp
  have Hz := Lib.hid hz; clear hz
  have HbW := Lib.hid hbW; clear hbW
  have S0 := Lib.hid s0; have S1 := Lib.hid s1; clear s1
  have k0 := s0.cell 0 (v := .int .i64 m) rfl
  have k1 := s0.cell 1 (v := .int .i64 v) rfl
  have HN := Lib.hid (fun W => impl_numberOf m W (by omega) (by omega))
  clear s0
  go_enter Try.func25, Try.ntmps25
  go_wp2_with fail
  generalize ((w.alloc (.cells #[.int .i64 m, .int .i64 v] 35)).alloc (.cells #[.int .i64 0, .slice none 0 0] 49)) = W0 at *
  refine wp_region_held_drew (S := fun w' => w'.cell? ⟨w.heap.size, 0, none⟩ = some (.int .i64 m) ∧ w'.cell? ⟨w.heap.size, 1, none⟩ = some (.int .i64 v)) (by kernel_rfl) ⟨k0, k1⟩ (fun hH => ?_)
  have S0 := Lib.hid (show Str W0.drew w.heap.size 35 #[.int .i64 m, .int .i64 v] from S0.out)
  have S1 := Lib.hid (show Str W0.drew (w.heap.size + 1) 49 #[.int .i64 0, .slice none 0 0] from S1.out)
  have HbW := Lib.hid HbW.out.drew
  have Hz := Lib.hid (show W0.drew.heap.size = w.heap.size + 2 from Hz.out)
  clear k0 k1
  generalize W0.drew = wd at *
  refine takeH 0 (v := ?vva1) rfl (by kernel_rfl) (by kernel_rfl) (by kernel_rfl) (fun _ _ _ h => h) hH rfl ?yva1 ?rva1
  case yva1 => intro W hSw; go_simp; try with_reducible rfl
  try simp only [Act.put, List.setIfInBounds_toArray, List.set_cons_zero, List.set_cons_succ]
  refine takeH 1 (v := ?vva2) rfl (by kernel_rfl) (by kernel_rfl) (by kernel_rfl) (fun _ _ _ h => h) hH rfl ?yva2 ?rva2
  case yva2 => intro W hSw; go_simp; try with_reducible rfl
  try simp only [Act.put, List.setIfInBounds_toArray, List.set_cons_zero, List.set_cons_succ]
  refine takeH 3 (v := ?vva3) rfl (by kernel_rfl) (by kernel_rfl) (by kernel_rfl) (fun _ _ _ h => h) hH rfl ?yva3 ?rva3
  case yva3 => intro W hSw; go_simp; try with_reducible rfl
  try simp only [Act.put, List.setIfInBounds_toArray, List.set_cons_zero, List.set_cons_succ]
  refine takeH 4 (v := ?vva4) rfl (by kernel_rfl) (by kernel_rfl) (by kernel_rfl) (fun _ _ _ h => h) hH rfl ?yva4 ?rva4
  case yva4 => intro W hSw; go_simp; try with_reducible rfl
  try simp only [Act.put, List.setIfInBounds_toArray, List.set_cons_zero, List.set_cons_succ]
  refine twoH 2 5 rfl rfl (by kernel_rfl) rfl rfl (fun K hK => ?_) (fun K hK => ?_)
  · go_simp
    go_at_call 28
    refine (HN.out _).mono ?_
    rintro e wx ⟨rfl, rfl⟩
    refine hK.out _ _ hH (fun hH => ?_)
    clear hK K
    try simp only [Act.put, List.setIfInBounds_toArray, List.set_cons_zero, List.set_cons_succ]
    refine callH 5 rfl (by kernel_rfl) rfl (fun K hK => ?_)
    go_simp
    refine hK.out _ _ ⟨(World.grownBy_alloc wd _ none).cell hH.1 (by simp), (World.grownBy_alloc wd _ none).cell hH.2 (by simp)⟩ (fun hH => ?_)
    clear hK K
    try simp only [Act.put, List.setIfInBounds_toArray, List.set_cons_zero, List.set_cons_succ]
    have T1 := S1.out.alloc (.cells #[.int .i64 v] 3)
    have T2 := Str.new wd 3 #[.int .i64 v]
    have hzz : (wd.alloc (.cells #[.int .i64 v] 3)).heap.size = wd.heap.size + 1 := by simp
    have HbX := Lib.hid (HbW.out.alloc (by have := Hz.out; omega) (.cells #[.int .i64 v] 3))
    have Hzz := Lib.hid hzz; clear hzz
    generalize (wd.alloc (.cells #[.int .i64 v] 3)) = we at *
    have j0 := T1.cell 0 (v := .int .i64 0) rfl
    have j1 := T1.cell 1 (v := .slice none 0 0) rfl
    have f0 := T1.frozen 0
    have f1 := T1.frozen 1
    refine takeH 6 (v := ?vvb1) rfl (by kernel_rfl) (by kernel_rfl) (by kernel_rfl) (fun _ _ _ h => h) hH rfl ?yvb1 ?rvb1
    case yvb1 => intro W hSw; go_simp; try with_reducible rfl
    try simp only [Act.put, List.setIfInBounds_toArray, List.set_cons_zero, List.set_cons_succ]
    refine callH 7 rfl (by kernel_rfl) rfl (fun K hK => ?_)
    go_simp
    have U := (T1.set 0 (.int .i64 (m + 1))).set 1 (.slice (some ⟨wd.heap.size, 0, none⟩) 1 1)
    have hgd : w.heap.size + 1 < wd.heap.size := by have := Hz.out; omega
    have V := (T2.other (show wd.heap.size ≠ w.heap.size + 1 by omega) 0 (.int .i64 (m + 1))).other (show wd.heap.size ≠ w.heap.size + 1 by omega) 1 (.slice (some ⟨wd.heap.size, 0, none⟩) 1 1)
    have HbY := Lib.hid ((HbX.out.setCell (p := ⟨w.heap.size + 1, 0, none⟩) (by simp) (.int .i64 (m + 1))).setCell (p := ⟨w.heap.size + 1, 1, none⟩) (by simp) (.slice (some ⟨wd.heap.size, 0, none⟩) 1 1))
    have e0 := U.cell 0 (v := .int .i64 (m + 1)) rfl
    have e1 := U.cell 1 (v := .slice (some ⟨wd.heap.size, 0, none⟩) 1 1) rfl
    have v0 := V.cell 0 (v := .int .i64 v) rfl
    have hlt := V.lt
    clear U V j0 j1 f0 f1 T1 T2
    refine hK.out _ _ ⟨(grownBy_set _ (w.heap.size + 1) 1 _).cell ((grownBy_set _ (w.heap.size + 1) 0 _).cell hH.1 (by simp)) (by simp), (grownBy_set _ (w.heap.size + 1) 1 _).cell ((grownBy_set _ (w.heap.size + 1) 0 _).cell hH.2 (by simp)) (by simp)⟩ (fun hH => ?_)
    clear hK K
    generalize ((we.setCell ⟨w.heap.size + 1, 0, none⟩ (.int .i64 (m + 1))).setCell ⟨w.heap.size + 1, 1, none⟩ (.slice (some ⟨wd.heap.size, 0, none⟩) 1 1)) = wf at *
    try simp only [Act.put]
    refine wpAnyH_done (by kernel_rfl) ?_ _
    try simp only [Act.put]
    go_wp2
    refine bodyPost_ret (v := .agg #[.int .i64 (m + 1), .slice (some ⟨wd.heap.size, 0, none⟩) 1 1]) (by simp [results, Try.f25, go_sem, e0, e1]) rfl ?_
    exact ⟨wd.heap.size, rfl, by omega, hlt, v0, HbY.out⟩
  · go_simp
    refine hK.out _ _ ⟨(World.grownBy_alloc wd _ none).cell hH.1 (by simp), (World.grownBy_alloc wd _ none).cell hH.2 (by simp)⟩ (fun hH => ?_)
    clear hK K
    try simp only [Act.put, List.setIfInBounds_toArray, List.set_cons_zero, List.set_cons_succ]
    refine callH 2 rfl (by kernel_rfl) rfl (fun K hK => ?_)
    go_simp
    go_at_call 28
    refine (HN.out _).mono ?_
    rintro e wx ⟨rfl, rfl⟩
    refine hK.out _ _ hH (fun hH => ?_)
    clear hK K
    try simp only [Act.put, List.setIfInBounds_toArray, List.set_cons_zero, List.set_cons_succ]
    have T1 := S1.out.alloc (.cells #[.int .i64 v] 3)
    have T2 := Str.new wd 3 #[.int .i64 v]
    have hzz : (wd.alloc (.cells #[.int .i64 v] 3)).heap.size = wd.heap.size + 1 := by simp
    have HbX := Lib.hid (HbW.out.alloc (by have := Hz.out; omega) (.cells #[.int .i64 v] 3))
    have Hzz := Lib.hid hzz; clear hzz
    generalize (wd.alloc (.cells #[.int .i64 v] 3)) = we at *
    have j0 := T1.cell 0 (v := .int .i64 0) rfl
    have j1 := T1.cell 1 (v := .slice none 0 0) rfl
    have f0 := T1.frozen 0
    have f1 := T1.frozen 1
    refine takeH 6 (v := ?vvc1) rfl (by kernel_rfl) (by kernel_rfl) (by kernel_rfl) (fun _ _ _ h => h) hH rfl ?yvc1 ?rvc1
    case yvc1 => intro W hSw; go_simp; try with_reducible rfl
    try simp only [Act.put, List.setIfInBounds_toArray, List.set_cons_zero, List.set_cons_succ]
    refine callH 7 rfl (by kernel_rfl) rfl (fun K hK => ?_)
    go_simp
    have U := (T1.set 0 (.int .i64 (m + 1))).set 1 (.slice (some ⟨wd.heap.size, 0, none⟩) 1 1)
    have hgd : w.heap.size + 1 < wd.heap.size := by have := Hz.out; omega
    have V := (T2.other (show wd.heap.size ≠ w.heap.size + 1 by omega) 0 (.int .i64 (m + 1))).other (show wd.heap.size ≠ w.heap.size + 1 by omega) 1 (.slice (some ⟨wd.heap.size, 0, none⟩) 1 1)
    have HbY := Lib.hid ((HbX.out.setCell (p := ⟨w.heap.size + 1, 0, none⟩) (by simp) (.int .i64 (m + 1))).setCell (p := ⟨w.heap.size + 1, 1, none⟩) (by simp) (.slice (some ⟨wd.heap.size, 0, none⟩) 1 1))
    have e0 := U.cell 0 (v := .int .i64 (m + 1)) rfl
    have e1 := U.cell 1 (v := .slice (some ⟨wd.heap.size, 0, none⟩) 1 1) rfl
    have v0 := V.cell 0 (v := .int .i64 v) rfl
    have hlt := V.lt
    clear U V j0 j1 f0 f1 T1 T2
    refine hK.out _ _ ⟨(grownBy_set _ (w.heap.size + 1) 1 _).cell ((grownBy_set _ (w.heap.size + 1) 0 _).cell hH.1 (by simp)) (by simp), (grownBy_set _ (w.heap.size + 1) 1 _).cell ((grownBy_set _ (w.heap.size + 1) 0 _).cell hH.2 (by simp)) (by simp)⟩ (fun hH => ?_)
    clear hK K
    generalize ((we.setCell ⟨w.heap.size + 1, 0, none⟩ (.int .i64 (m + 1))).setCell ⟨w.heap.size + 1, 1, none⟩ (.slice (some ⟨wd.heap.size, 0, none⟩) 1 1)) = wf at *
    try simp only [Act.put]
    refine wpAnyH_done (by kernel_rfl) ?_ _
    try simp only [Act.put]
    go_wp2
    refine bodyPost_ret (v := .agg #[.int .i64 (m + 1), .slice (some ⟨wd.heap.size, 0, none⟩) 1 1]) (by simp [results, Try.f25, go_sem, e0, e1]) rfl ?_
    exact ⟨wd.heap.size, rfl, by omega, hlt, v0, HbY.out⟩

set_option maxHeartbeats 1000000 in
set_option maxRecDepth 8000 in
theorem impl_CoinJoin (need : Int) (l : List Cp) (v : Value) (fp : List Nat) (w : World) (hbig : l.length ≤ 1048576) (hr : Cps w l v fp) :
    Calls Try.prog 12 #[.int .i64 need, v] w fun e w' => e = .returned (.tuple #[.int .i64 (cjV need l), .bool (cjB need l)]) ∧ Below w.heap.size w w' := by
  have HT := Lib.hid (impl_isThreshold need w)
  have HP := Lib.hid (impl_areParts l v fp w (by omega) hr)
  obtain ⟨va, vc, rfl⟩ := hr.slice
  have Hr := Lib.hid hr; clear hr
  by_cases hn : 1 ≤ need ∧ need ≤ 7
  case neg =>
    rw [decide_eq_false hn] at HT
    have hz : cjB need l = false := cjB_no (by unfold cjOk; rw [decide_eq_false hn]; rfl)
    have Hz := Lib.hid hz; have Hy := Lib.hid (cj_no hz); clear hz hn
    go_enter Try.func12, Try.ntmps12
    go_wp2_with fail
    refine HT.out.mono ?_
    rintro e w1 ⟨rfl, rfl⟩
    go_wp2
    go_ret2
    exact ⟨by rw [Hz.out, Hy.out]; rfl, Below.refl _ _⟩
  rw [decide_eq_true hn] at HT
  cases hpb : partsB l with
  | false =>
    rw [hpb] at HP
    have hz : cjB need l = false := cjB_no (by unfold cjOk; rw [hpb, Bool.and_false])
    have Hz := Lib.hid hz; have Hy := Lib.hid (cj_no hz); clear hz hpb
    go_enter Try.func12, Try.ntmps12
    go_wp2_with fail
    refine HT.out.mono ?_
    rintro e w1 ⟨rfl, rfl⟩
    go_wp2_with fail
    refine HP.out.mono ?_
    rintro e w1 ⟨rfl, hb1⟩
    go_wp2
    go_ret2
    exact ⟨by rw [Hz.out, Hy.out]; rfl, hb1⟩
  | true =>
  rw [hpb] at HP
  have hok : cjOk need l = true := by unfold cjOk; rw [decide_eq_true hn, hpb]; rfl
  have Hmem := Lib.hid (fun (p : Cp) (hp : p ∈ l) => parts_mem hpb hp)
  have hl7 := parts_len hpb
  have HB := Lib.hid (cjB_ok hok)
  have Hno := Lib.hid (fun h => cj_no (need := need) (l := l) h)
  have Hyes := Lib.hid (fun h => cj_yes (need := need) (l := l) h)
  have Hjl := Lib.hid (fun h => join_len (need := need) (L := shL l) h)
  have Hin := Lib.hid (show ∀ s ∈ shL l, s.2.length ≤ 1048576 from fun s hs => by obtain ⟨p, _, rfl⟩ := List.mem_map.1 hs; simp)
  clear hok hpb
  go_enter Try.func12, Try.ntmps12
  go_wp2_with fail
  refine HT.out.mono ?_
  rintro e w1 ⟨rfl, rfl⟩
  go_wp2_with fail
  refine HP.out.mono ?_
  rintro e w1 ⟨rfl, hb1⟩
  have hz1 := hb1.size
  have Hr1 := Lib.hid (Hr.out.under hb1)
  have Hb1 := Lib.hid hb1; clear hb1
  have hal : Below w1.heap.size w1 (w1.alloc (.cells #[] 49)) := (Below.refl _ _).alloc (Nat.le_refl _) _
  have Hal := Lib.hid hal; clear hal
  have HO := Lib.hid (show Bld 49 2 (w1.alloc (.cells #[] 49)) w1.heap.size (.slice (some ⟨w1.heap.size, 0, none⟩) 0 0) [] from Bld.nil (World.ownsRow_made w1 #[] 0 (Nat.le_refl _) (by simp) (by simp)))
  go_wp2
  go_loopw [6, 8, 22] (fun u _ i wr => ∃ k : Nat, k ≤ l.length ∧ i = .int .i64 k ∧ Bld 49 2 wr w1.heap.size u (((shL l).take k).map shardD) ∧ Below w1.heap.size w1 wr) (fun _ _ i _ => l.length - (intOf i).toNat)
  case atStart => exact ⟨0, by omega, rfl, HO.out, Hal.out⟩
  case round =>
    obtain ⟨k, hk, rfl, hbl, hbel⟩ := hrel
    clear HO Hal
    have hB := hbel.size
    by_cases hlt : k < l.length
    · obtain ⟨b, off, rfl, hb1, hat⟩ := Hr1.out.at (by omega)
      obtain ⟨d0, d1⟩ := hat k hlt
      have c0 := (hbel.cell (p := ⟨b, off + k * 2, none⟩) hb1).trans d0
      have c1 := (hbel.cell (p := ⟨b, off + k * 2 + 1, none⟩) hb1).trans d1
      have hb : b < wr.heap.size := by omega
      clear hat d0 d1
      have hs := shL_succ hlt
      obtain ⟨⟨hm0, hm1⟩, hv0, hv1⟩ := Hmem.out _ (List.getElem_mem hlt)
      have hln : (((shL l).take k).map shardD).length ≤ 7 := by rw [List.length_map, List.length_take]; omega
      have Hsu := Lib.hid (show ((shL l).take (k + 1)).map shardD = ((shL l).take k).map shardD ++ [shardD (l[k].1 + 1, [l[k].2])] by rw [hs, List.map_append]; rfl)
      clear hs
      generalize ((shL l).take k).map shardD = es at *
      generalize hx : l[k] = x at *
      obtain ⟨xm, xv⟩ := x
      dsimp only at *
      clear hx
      obtain ⟨ua, uc, rfl, _⟩ := hbl.slice
      have hal : Below wr.heap.size wr (wr.alloc (.cells #[.int .i64 xm, .int .i64 xv] 35)) := (Below.refl _ _).alloc (Nat.le_refl _) _
      have sX := Str.new wr 35 #[.int .i64 xm, .int .i64 xv]
      have x0 := sX.cell 0 (v := .int .i64 xm) rfl
      have x1 := sX.cell 1 (v := .int .i64 xv) rfl
      have Hbl := Lib.hid (hbl.under hal); clear hbl
      have Hbel := Lib.hid (below_step hbel hB hal)
      have Hln := Lib.hid hln; clear hln
      have HS := Lib.hid (fun W => CoinPart_shard xm xv W hm0 hm1)
      have hB1 : w1.heap.size ≤ (wr.alloc (.cells #[.int .i64 xm, .int .i64 xv] 35)).heap.size := Nat.le_trans hB hal.size
      have HB1 := Lib.hid hB1
      clear sX hal hbel hB1
      go_wp2_with fail
      generalize wr.alloc (.cells #[.int .i64 xm, .int .i64 xv] 35) = wa at *
      refine (HS.out _).mono ?_
      rintro e w2 ⟨g, rfl, hg0, hg1, hcg, hb2⟩
      have hB1 := HB1.out
      have Hbk := Lib.hid (show (Value.slice ua es.length uc).ownBlock ≠ some g from fun e => by have := (Hbl.out.lt _ e).2; omega)
      have Hbl := Lib.hid (Hbl.out.under hb2)
      have hB2 : w1.heap.size ≤ w2.heap.size := by have := hb2.size; omega
      have Hbel := Lib.hid (below_step Hbel.out HB1.out hb2)
      have Hone := Lib.hid (one_cells (w := w2) (B := w1.heap.size) (m := xm + 1) (z := xv) (by omega) Hbk.out hg1 hcg)
      have hbb : ∀ r, (Value.slice ua es.length uc).ownBlock = some r → w1.heap.size ≤ r := fun r e => (Hbl.out.lt r e).1
      have Hbb := Lib.hid hbb
      clear hb2 hcg hbb x0 x1 c0 c1
      go_wp2_with (at_builtin; refine wpList_push_row Try.underlying47 sh_info rfl (by decide) (by decide) rfl (.tmp 26) (.tmp 29) rfl w1.heap.size _ es (shardD (xm + 1, [xv])) [.int .i64 (xm + 1), .slice (some ⟨g, 0, none⟩) 1 1] _ rfl rfl (by intro u hu; simp at hu; rcases hu with rfl | rfl <;> rfl) rfl Hbl.out rfl Hone.out (by have := Hln.out; omega) rfl hB2 ?_; intro v8 w8 hbl8 hg8 hat8)
      go_roundw
      case rel => exact ⟨k + 1, by omega, by go_num, by rw [Hsu.out]; exact hbl8, Hbel.out.grown hg8 hB2 Hbb.out⟩
      case measure => simp [intOf]; omega
    · have hkl : k = l.length := by omega
      have htk : (shL l).take k = shL l := List.take_of_length_le (by rw [shL_len]; omega)
      rw [htk] at hbl
      clear htk
      obtain ⟨fq, hrd, _⟩ := hbl.rd
      obtain ⟨ua, uc, rfl, _⟩ := hbl.slice
      have HJ := Lib.hid (impl_ShardJoin need need (shL l) _ fq wr (by rw [shL_len]; omega) Hin.out hrd)
      clear hbl hrd hkl
      have Hbel := Lib.hid hbel; clear hbel
      generalize hLm : (List.map shardD (shL l)).length = mm at *
      clear hLm
      go_wp2_with fail
      (with_reducible refine HJ.out.mono ?_)
      rintro e w5 ⟨z, rfl, hown, hb5⟩
      have Hb5 := Lib.hid (below_step Hb1.out hz1 (below_step Hbel.out hB hb5)); clear hb5
      obtain ⟨az, cz, rfl, hiz, _⟩ := hown.ints
      clear hown
      cases hj : joinB need need (shL l) with
      | false =>
        have Hj := Lib.hid (HB.out.trans hj); clear hj hiz
        go_wp2
        go_ret2
        exact ⟨by rw [Hj.out, Hno.out Hj.out]; rfl, Hb5.out⟩
      | true =>
        have hjl := Hjl.out hj
        have Hj := Lib.hid (HB.out.trans hj); clear hj
        have hv := Hyes.out Hj.out
        rw [getD_get (by omega)] at hv
        obtain ⟨bz, oz, rfl, hbz, hcz⟩ := hiz.cell (by omega)
        have hc0 := hcz 0 (by omega)
        clear hcz hiz
        rw [← hv, Nat.add_zero] at hc0
        clear hv Hyes Hjl
        generalize hD : (joinD need need (shL l)).length = dl at *
        clear hD
        have hl0 : (0 : Int) < dl := by omega
        have hl1 : 0 < dl := by omega
        go_wp2
        go_ret2
        exact ⟨by rw [Hj.out]; rfl, Hb5.out⟩

end Go.Proofs.Ytekpapodepachaa

/- One number of a row of a list of rows of numbers is set; a general step, nothing here speaks of the program. -/
namespace Go.Proofs.Ytekpapodepachaa
open Go.RowKit

theorem OwnN.setI {E : TypeId} {sz : Nat} {w : World} {B g n cap : Nat} {es : List (List Int)} (h : OwnN E sz w B (.slice (some ⟨g, 0, none⟩) n cap) es) (hn : n = es.length) {k j : Nat} (hk : k < es.length) (hj : j < sz) (z : Int) :
    OwnN E sz (w.setCell ⟨g, k * sz + j, none⟩ (.int .i64 z)) B (.slice (some ⟨g, 0, none⟩) n cap) (es.set k ((es[k]).set j z)) := by
  subst hn
  have hsz := h.szs _ (List.getElem_mem hk)
  have hst := (World.ownsRow.stored (w := w) (base := B) (e := E) (size := sz) (g := g) (n := es.length) (cap := cap) h.row (k * sz + j) (.int .i64 z)).1
  have hszs : ∀ e ∈ es.set k ((es[k]).set j z), e.length = sz := fun e he => by
    rcases List.mem_or_eq_of_mem_set he with he | rfl
    · exact h.szs e he
    · rw [List.length_set]; exact hsz
  have hfl : (flN es).set (k * sz + j) (.int .i64 z) = flN (es.set k ((es[k]).set j z)) := by
    have hl1 := flN_len h.szs
    have hl2 := flN_len hszs
    rw [List.length_set] at hl2
    have hpos : 0 < sz := by omega
    refine List.ext_getElem? fun p => ?_
    by_cases hp : p < es.length * sz
    · have e1 : p = p / sz * sz + p % sz := by rw [Nat.mul_comm]; exact (Nat.div_add_mod p sz).symm
      have hk1 : p / sz < es.length := (Nat.div_lt_iff_lt_mul hpos).2 hp
      have hj1 : p % sz < sz := Nat.mod_lt _ hpos
      have hk2 : p / sz < (es.set k ((es[k]).set j z)).length := by rw [List.length_set]; exact hk1
      have r1 := flN_at h.szs (p / sz) (p % sz) hk1 hj1
      have r2 := flN_at hszs (p / sz) (p % sz) hk2 hj1
      rw [← e1] at r1 r2
      rw [r2]
      by_cases e : p = k * sz + j
      · have hkk : p / sz = k := by rw [e, Nat.add_comm, Nat.add_mul_div_right _ _ hpos, Nat.div_eq_of_lt hj, Nat.zero_add]
        have hjj : p % sz = j := by rw [e, Nat.add_comm, Nat.add_mul_mod_self_right, Nat.mod_eq_of_lt hj]
        have hg : (es.set k ((es[k]).set j z))[p / sz] = (es[k]).set j z := by simp only [hkk]; rw [List.getElem_set_self]
        rw [hg, hjj, ← e, List.getElem?_set_self (by rw [hl1]; exact hp)]
        have hj' : j < es[k].length := by omega
        simp [rwN, hj']
      · rw [List.getElem?_set_ne (fun e2 => e e2.symm), r1]
        by_cases e2 : p / sz = k
        · have hj2 : p % sz ≠ j := fun e3 => e (by rw [e1, e2, e3])
          have hg : (es.set k ((es[k]).set j z))[p / sz] = (es[k]).set j z := by simp only [e2]; rw [List.getElem_set_self]
          have hg2 : es[p / sz] = es[k] := by simp only [e2]
          rw [hg, hg2]
          unfold rwN
          rw [List.map_set, List.getElem?_set_ne (fun e3 => hj2 e3.symm)]
        · have hg : (es.set k ((es[k]).set j z))[p / sz] = es[p / sz] := List.getElem_set_ne (fun e3 => e2 e3.symm) _
          rw [hg]
    · rw [List.getElem?_eq_none (by rw [List.length_set, hl1]; omega), List.getElem?_eq_none (by rw [hl2]; omega)]
  refine ⟨hszs, ?_⟩
  rw [← hfl, List.length_set]
  exact hst

end Go.Proofs.Ytekpapodepachaa
