/- Lists of shards read, cut and joined; plain steps on lists and memory, no walk and no condition of our own. -/
import Derived.Test.YtejpoeejhmgphacV3
import Derived.Test.YtejpoeejhmgphacL3
namespace Go.Proofs.Ytejpoeejhmgphac
open Go.RowKit

theorem shsB_of {cols : Nat} {L : List Sh} (h : ∀ k (hk : k < L.length), (1 ≤ L[k].1 ∧ L[k].1 ≤ 8) ∧ L[k].2.length = cols ∧ ∀ y ∈ L[k].2, 0 ≤ y ∧ y ≤ 250) (hd : ∀ j k (hj : j < L.length) (hk : k < L.length), j < k → L[j].1 ≠ L[k].1) : shsB cols L = true := by
  refine allB_yes (k := L.length) (fun k hk => ?_) (Nat.le_refl _)
  obtain ⟨h1, h2, h3⟩ := h k hk
  unfold shAt okS newAt
  rw [getS hk, decide_eq_true h1, decide_eq_true h2, show L[k].2.all symB = true from List.all_eq_true.2 fun y hy => symB_yes (h3 y hy)]
  rw [Bool.true_and, Bool.true_and, Bool.true_and]
  refine allB_yes (k := k) (fun j hj => ?_) (Nat.le_refl _)
  have e1 : xsOf L j = L[j].1 := by unfold xsOf; rw [getS (by omega)]
  have e2 : xsOf L k = L[k].1 := by unfold xsOf; rw [getS hk]
  rw [e1, e2]
  exact decide_eq_true (hd j k (by omega) hk hj)
theorem shardV_bd {d : List Int} {need : Nat} {x : Int} : ∀ y ∈ shardV d need x, 0 ≤ y ∧ y ≤ 250 := by
  intro y hy
  obtain ⟨j, hj, rfl⟩ := List.mem_iff_getElem.1 hy
  rw [shardV_get]; exact valZ_bd _ _ _ _
/-- Shards of data, with different numbers, are joined to the data. -/
theorem join_of {d : List Int} {need : Nat} {L : List Sh} (hd : dataB d need = true) (hn : need ≤ L.length) (h8 : L.length ≤ 8) (hv : ∀ k (hk : k < L.length), (1 ≤ L[k].1 ∧ L[k].1 ≤ 8) ∧ L[k].2 = shardV d need L[k].1) (hne : ∀ j k (hj : j < L.length) (hk : k < L.length), j < k → L[j].1 ≠ L[k].1) :
    joinB d.length need L = true ∧ joinD d.length need L = d := by
  have hs : shsB (colsN d need) L = true := shsB_of (fun k hk => ⟨(hv k hk).1, by rw [(hv k hk).2, shardV_len], by rw [(hv k hk).2]; exact shardV_bd⟩) hne
  have hm : ∀ s ∈ L, s.2 = shardV d need s.1 := by
    intro s h
    obtain ⟨k, hk, rfl⟩ := List.mem_iff_getElem.1 h
    exact (hv k hk).2
  have hD := dataI_eq hd hn hs hm
  obtain ⟨_, ⟨hl1, hl2⟩, hn1, hn8⟩ := dataB_iff hd
  have hJ : joinOk d.length need L = true := by
    unfold joinOk lenB
    simp only [Int.toNat_natCast]
    rw [decide_eq_true (by omega), decide_eq_true (by omega), decide_eq_true (by omega)]
    exact hs
  have hall : L.all (matB (dataI (d.length : Int).toNat (need : Int).toNat L) need) = true := by
    simp only [Int.toNat_natCast]
    rw [hD, List.all_eq_true]
    intro s h
    obtain ⟨k, hk, rfl⟩ := List.mem_iff_getElem.1 h
    rw [matB_yes hd (hv k hk).1]
    exact decide_eq_true (hv k hk).2.symm
  have := join_yes hJ hall
  simp only [Int.toNat_natCast] at this
  rw [hD] at this
  exact this
/-- What is joined has all the shards. -/
theorem join_has {size need : Nat} {L : List Sh} (h : joinB size need L = true) : ∃ D : List Int, D.length = size ∧ dataB D need = true ∧ ∀ k (hk : k < L.length), (1 ≤ L[k].1 ∧ L[k].1 ≤ 8) ∧ shardV D need L[k].1 = L[k].2 := by
  unfold joinB at h
  rw [Bool.and_eq_true] at h
  simp only [Int.toNat_natCast] at h
  obtain ⟨hJ, hall⟩ := h
  obtain ⟨_, _, ⟨hn, _⟩, _⟩ := joinOk_iff hJ
  rw [List.all_eq_true] at hall
  have hJ' := joinOk_iff hJ
  have h0 : 0 < L.length := by omega
  have hd : dataB (dataI size need L) need = true := by
    have := hall _ (List.getElem_mem h0)
    unfold matB at this
    simp only [Bool.and_eq_true] at this
    exact this.1.1
  refine ⟨dataI size need L, dataI_len _ _ _, hd, fun k hk => ?_⟩
  have := hall _ (List.getElem_mem hk)
  unfold matB at this
  simp only [Bool.and_eq_true, decide_eq_true_eq, Int.toNat_natCast] at this
  exact ⟨this.1.2, this.2⟩
theorem mod_ne {i j m many : Nat} (h1 : j < i) (h2 : i < many) : (j + m) % many ≠ (i + m) % many := by
  intro e
  have h := Nat.sub_mod_eq_zero_of_mod_eq e.symm
  rw [show i + m - (j + m) = i - j by omega, Nat.mod_eq_of_lt (by omega)] at h
  omega

/-! memory -/
theorem Rd.take {w : World} {L : List Sh} {a : Option Addr} {n cap : Nat} {fp : List Nat} (h : Rd w (.l (L.map shardD)) (.slice a n cap) fp) (k : Nat) (hk : k ≤ L.length) : ∃ fp', Rd w (.l ((L.take k).map shardD)) (.slice a k cap) fp' ∧ ∀ r ∈ fp', r ∈ fp := by
  rcases Nat.eq_zero_or_pos k with h0 | h0
  · subst h0; exact ⟨[], .nil _ _ (fun e => by subst e; exact h.nilcap), by simp⟩
  · have hpos : 0 < (L.map shardD).length := by rw [List.length_map]; omega
    obtain ⟨g, off, rfl, hg, hgf, hn, hcap, hc⟩ := Rd.at h hpos (sz := 2) (by intro e he; obtain ⟨s, _, rfl⟩ := List.mem_map.1 he; rfl)
    have hex : ∀ i j, ∃ p : Value × List Nat, ∀ (_ : i < (L.map shardD).length) (_ : j < 2), w.cell? ⟨g, off + (i * 2 + j), none⟩ = some p.1 ∧ (∀ (hi : i < (L.map shardD).length) (hj : j < ((L.map shardD)[i]).length), Rd w (((L.map shardD)[i])[j]) p.1 p.2) ∧ ∀ r ∈ p.2, r ∈ fp := by
      intro i j
      by_cases hi : i < (L.map shardD).length
      · by_cases hj : j < 2
        · obtain ⟨v, fp', h1, h2, h3⟩ := hc i j hi (by rw [List.getElem_map]; exact hj)
          exact ⟨(v, fp'), fun _ _ => ⟨h1, fun _ _ => h2, h3⟩⟩
        · exact ⟨(undef, []), fun _ h => absurd h hj⟩
      · exact ⟨(undef, []), fun h _ => absurd h hi⟩
    obtain ⟨F, hF⟩ : ∃ F : Nat → Nat → Value × List Nat, ∀ i j (_ : i < (L.map shardD).length) (_ : j < 2), w.cell? ⟨g, off + (i * 2 + j), none⟩ = some (F i j).1 ∧ (∀ (hi : i < (L.map shardD).length) (hj : j < ((L.map shardD)[i]).length), Rd w (((L.map shardD)[i])[j]) (F i j).1 (F i j).2) ∧ ∀ r ∈ (F i j).2, r ∈ fp :=
      ⟨fun i j => Classical.choose (hex i j), fun i j => Classical.choose_spec (hex i j)⟩
    have hlt : ((L.take k).map shardD).length = k := by simp; omega
    have hr := Rd.l (w := w) 2 ((L.take k).map shardD) g off cap (fun i j => (F i j).1) (fun i j => (F i j).2) (by rw [hlt]; exact h0) (by intro e he; obtain ⟨s, _, rfl⟩ := List.mem_map.1 he; rfl)
      (by rw [hlt]; rw [List.length_map] at hn; omega) hg (fun i j hi hj => (hF i j (by rw [hlt] at hi; rw [List.length_map]; omega) hj).1)
      (fun i j hi hj => by
        have hi' : i < (L.map shardD).length := by rw [hlt] at hi; rw [List.length_map]; omega
        have hj2 : j < 2 := by rw [List.getElem_map] at hj; exact hj
        have := (hF i j hi' hj2).2.1 hi' (by rw [List.getElem_map]; exact hj2)
        simp only [List.getElem_map, List.getElem_take] at this ⊢
        exact this)
    rw [hlt] at hr
    refine ⟨_, hr, fun r hm => ?_⟩
    rcases List.mem_cons.1 hm with rfl | hm
    · exact hgf
    · obtain ⟨i, hi, hm⟩ := List.mem_flatMap.1 hm
      obtain ⟨j, hj, hm⟩ := List.mem_flatMap.1 hm
      rw [List.mem_range] at hi hj
      exact (hF i j (by rw [List.length_map]; omega) hj).2.2 r hm
/-- An element of a list of shards: its cells, and what its values read as. -/
theorem row_of_list {w : World} {L : List Sh} {a : Option Addr} {n cap : Nat} {fp : List Nat} (h : Rd w (.l (L.map shardD)) (.slice a n cap) fp) (hne : 0 < L.length) :
    ∃ g off, a = some ⟨g, off, none⟩ ∧ g < w.heap.size ∧ ∀ k (hk : k < L.length), ∃ av cv fp', w.cell? ⟨g, off + k * 2, none⟩ = some (.int .i64 L[k].1) ∧ w.cell? ⟨g, off + k * 2 + 1, none⟩ = some (.slice av L[k].2.length cv) ∧ IntsAt w av L[k].2 ∧
      Rd w (intsD L[k].2) (.slice av L[k].2.length cv) fp' ∧ ∀ r ∈ fp', r ∈ fp := by
  obtain ⟨g, off, rfl, hg, hgf, hn, hcap, hc⟩ := Rd.at h (by rw [List.length_map]; exact hne) (sz := 2) (by intro e he; obtain ⟨s, _, rfl⟩ := List.mem_map.1 he; rfl)
  refine ⟨g, off, rfl, hg, fun k hk => ?_⟩
  have hk' : k < (L.map shardD).length := by rw [List.length_map]; exact hk
  obtain ⟨v0, f0, c0, r0, _⟩ := hc k 0 hk' (by rw [List.getElem_map]; show 0 < 2; omega)
  obtain ⟨v1, f1, c1, r1, s1⟩ := hc k 1 hk' (by rw [List.getElem_map]; show 1 < 2; omega)
  have r0' : Rd w (.i L[k].1) v0 f0 := by simpa [shardD] using r0
  have r1' : Rd w (intsD L[k].2) v1 f1 := by simpa [shardD] using r1
  obtain ⟨rfl, _⟩ := r0'.int
  obtain ⟨av, cv, rfl, _, hi⟩ := r1'.ints
  exact ⟨av, cv, f1, by simpa using c0, by simpa [Nat.add_assoc] using c1, hi, r1', s1⟩
/-- The element's cells, for a list that is built of it. -/
theorem cells_of_row {w : World} {B : Nat} {blk : Option Nat} {x : Int} {av : Option Addr} {cv : Nat} {vs : List Int} {fp : List Nat} (h : Rd w (intsD vs) (.slice av vs.length cv) fp) (hf : ∀ r ∈ fp, B ≤ r ∧ blk ≠ some r) :
    CellsRd w B blk [.int .i64 x, .slice av vs.length cv] [.i x, intsD vs] := by
  intro j hj
  match j, hj with
  | 0, _ => exact ⟨_, [], rfl, .i _, by simp⟩
  | 1, _ => exact ⟨_, fp, rfl, h, hf⟩

/-- 'append(s, rest...)', elements of a struct type, s empty. -/
theorem wpList_spread {P : Program} {T E : TypeId} {z0 : Value} {sz bytes : Nat} (hsl : P.underlying T = some (.slice E)) (hinf : (P.info? E).map (fun i => (i.zero, i.size, i.bytes)) = some (some z0, sz, bytes)) (hz0 : z0.cells.size = sz) (hpos : 0 < sz) (hby : bytes ≤ 1000)
    {w : World} {ops : Array Oper} {rest : List Oper} {o : Oper} {a : Act} {Q : Exit → Act → World → Prop} (hgd : o.guard = none) (s x : Operand) (ho : o.op = .call { callee := .builtin .append, args := #[s, x], argTypes := #[T, T] }) (B : Nat) (v : Value) (hs : a.eval s = v) (hown : w.ownsRow B E sz v 0 [])
    (ad : Addr) (n c : Nat) (hx : a.eval x = .slice (some ad) n c) (vals : List Value) (hvl : vals.length = n * sz) (hcell : ∀ j u, vals[j]? = some u → w.cell? (ad.add j) = some u) (h1c : ∀ u ∈ vals, u.oneCell' = true) (hlen : n ≤ 1000000) (hB : B ≤ w.heap.size)
    (h : ∀ v' w', w'.ownsRow B E sz v' n vals → w.grownBy w' v.ownBlock → (v'.ownBlock = v.ownBlock ∨ v'.ownBlock = some w.heap.size) → wpList P ops Q rest (a.put o.dst v') w') : wpList P ops Q (o :: rest) a w := by
  refine wpList_want (by unfold Region.wanted; rw [hgd]) fun K hK => ?_
  obtain ⟨i, hi, hz, hsz, hbb⟩ := info_parts hinf
  obtain ⟨v', w', hrun, h1, h2, _, h4⟩ := run_append_own_at (P := P) w B T o.type E i z0 sz bytes hsl hi hz hsz hbb hz0 hpos v 0 [] hown ad n c vals hvl hcell h1c (by unfold maxLen; omega) (by
    have := Nat.mul_le_mul (show 0 + n ≤ 1000000 by omega) hby; omega) hB
  unfold Oper.wp execOp
  simp only [ho, resolve, invoke, builtin, Sem.run_bind, Sem.run_pure, Result.andThen_ok, List.map_toArray, List.map_cons, List.map_nil, hs, hx, hrun]
  refine hK _ _ (h v' w' ?_ h2 h4)
  simpa using h1
/-- A row of shards' cells reads as the shards. -/
theorem rd_of_row {E : TypeId} {w : World} {B g n cap : Nat} {cs : List Value} {L : List Sh} (h : w.ownsRow B E 2 (.slice (some ⟨g, 0, none⟩) n cap) n cs) (hn : n = L.length) (hpos : 0 < n) (hcap : n ≤ cap)
    (hc : ∀ k (hk : k < L.length), cs[k * 2]? = some (.int .i64 L[k].1) ∧ ∃ c fp, cs[k * 2 + 1]? = some c ∧ Rd w (intsD L[k].2) c fp) : ∃ fp, Rd w (.l (L.map shardD)) (.slice (some ⟨g, 0, none⟩) L.length cap) fp := by
  subst hn
  have hex : ∀ k j, ∃ p : Value × List Nat, ∀ (hk : k < L.length) (_ : j < 2), cs[k * 2 + j]? = some p.1 ∧ ∀ (hj : j < (shardD L[k]).length), Rd w ((shardD L[k])[j]) p.1 p.2 := by
    intro k j
    by_cases hk : k < L.length
    · obtain ⟨h0, c, fp, h1, h2⟩ := hc k hk
      match j with
      | 0 => exact ⟨(.int .i64 L[k].1, []), fun _ _ => ⟨h0, fun _ => .i _⟩⟩
      | 1 => exact ⟨(c, fp), fun _ _ => ⟨h1, fun _ => h2⟩⟩
      | j + 2 => exact ⟨(undef, []), fun _ h => by omega⟩
    · exact ⟨(undef, []), fun h => absurd h hk⟩
  obtain ⟨F, hF⟩ : ∃ F : Nat → Nat → Value × List Nat, ∀ k j (hk : k < L.length) (_ : j < 2), cs[k * 2 + j]? = some (F k j).1 ∧ ∀ (hj : j < (shardD L[k]).length), Rd w ((shardD L[k])[j]) (F k j).1 (F k j).2 :=
    ⟨fun k j => Classical.choose (hex k j), fun k j => Classical.choose_spec (hex k j)⟩
  have hml : (L.map shardD).length = L.length := List.length_map _
  have := Rd.l (w := w) 2 (L.map shardD) g 0 cap (fun k j => (F k j).1) (fun k j => (F k j).2) (by omega) (by intro e he; obtain ⟨s, _, rfl⟩ := List.mem_map.1 he; rfl) (by omega) (h.lt g rfl).2
    (fun k j hk hj => by
      have := World.ownsRow.cells h (g := g) rfl _ _ (hF k j (by omega) hj).1
      rw [addr_add] at this
      rw [Nat.zero_add]; exact this)
    (fun k j hk hj => by
      have hk' : k < L.length := by omega
      simp only [List.getElem_map] at hj ⊢
      exact (hF k j hk' hj).2 hj)
  rw [hml] at this
  exact ⟨_, this⟩
/-- A shard that was changed is found out. -/
theorem wrong_shard {d : List Int} {need many kk : Nat} {ys : List Int} (hd : dataB d need = true) (hm : need + 1 ≤ many) (h8 : many ≤ 8) (hk : kk < need + 1) (h : joinB d.length need (((List.range (need + 1)).map (shardZ d need)).set kk ((kk : Int) + 1, ys)) = true) : ys = shardV d need ((kk : Int) + 1) := by
  obtain ⟨D, hDl, hDd, hall⟩ := join_has h
  obtain ⟨hd0, ⟨_, hd2⟩, hn1, hn8⟩ := dataB_iff hd
  obtain ⟨hD0, _, _, _⟩ := dataB_iff hDd
  have hget : ∀ j, j < need + 1 → j ≠ kk → shardV D need ((j : Int) + 1) = shardV d need ((j : Int) + 1) := by
    intro j hj hne
    have := (hall j (by simp; omega)).2
    rw [List.getElem_set_ne (fun h => hne h.symm)] at this
    simpa [shardZ] using this
  have hsame : D = d := uniq_data (need := need) (by omega) (by omega) hD0 hd0 (by omega) hDl (xs := fun j => if j < kk then (j : Int) + 1 else (j : Int) + 2) (fun i j hi hj => by
      rintro ⟨q, e⟩
      by_cases h1 : i < kk
      · simp only [if_pos h1, if_pos (show j < kk by omega)] at e; omega
      · by_cases h2 : j < kk
        · simp only [if_neg h1, if_pos h2] at e; omega
        · simp only [if_neg h1, if_neg h2] at e; omega)
    (fun j hj => by
      by_cases h1 : j < kk
      · simp only [if_pos h1]; exact hget j (by omega) (by omega)
      · simp only [if_neg h1]
        have := hget (j + 1) (by omega) (by omega)
        rwa [show (((j + 1 : Nat) : Int) + 1) = (j : Int) + 2 by omega] at this)
  have := (hall kk (by simp; omega)).2
  simp only [List.getElem_set_self] at this
  rw [← this, hsame]

theorem row_form {E : TypeId} {sz : Nat} {w : World} {B n : Nat} {v : Value} {cs : List Value} (h : w.ownsRow B E sz v n cs) (hn : 0 < n) : ∃ g cap, v = .slice (some ⟨g, 0, none⟩) n cap ∧ B ≤ g ∧ g < w.heap.size ∧ n ≤ cap := by
  rcases h.2 with ⟨_, h0⟩ | ⟨g, cap, cur, rfl, hb, hg, hc, _⟩
  · omega
  · exact ⟨g, cap, rfl, hb, (h.lt g rfl).2, hc⟩

end Go.Proofs.Ytejpoeejhmgphac
