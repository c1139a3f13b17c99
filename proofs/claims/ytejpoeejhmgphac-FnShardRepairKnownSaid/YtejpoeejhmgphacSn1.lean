/- Lists of shards in memory that are written over: a number in place of a number, a list in place of a list, and a head of the list; general steps, nothing here speaks of the program. -/
import Derived.Test.YtejpoeejhmgphacRows
import Derived.Test.YtejpoeejhmgphacDt
import Derived.Test.YtejpoeejhmgphacBld
import Derived.Test.YtejpoeejhmgphacC3
namespace Go.Proofs.Ytejpoeejhmgphac
open Go.RowKit

/-- Data of one shape. -/
inductive Same : Dt → Dt → Prop
  | i (n m : Int) : Same (.i n) (.i m)
  | b (x y : Bool) : Same (.b x) (.b y)
  | s (t : ByteArray) : Same (.s t) (.s t)
  | l (es es' : List (List Dt)) (hl : es.length = es'.length) (he : ∀ k (h : k < es.length) (h' : k < es'.length), es[k].length = es'[k].length)
      (hs : ∀ k (h : k < es.length) (h' : k < es'.length) j (hj : j < es[k].length) (hj' : j < es'[k].length), Same es[k][j] es'[k][j]) : Same (.l es) (.l es')
theorem Same.refl (d : Dt) {w : World} {v : Value} {fp : List Nat} (h : Rd w d v fp) : Same d d := by
  induction h with
  | i n => exact .i n n
  | b x => exact .b x x
  | s t => exact .s t
  | nil a cap hn => exact .l [] [] rfl (fun k h => by simp at h) (fun k h => by simp at h)
  | l sz es g off cap V F hne hsz hcap hgl hc hrd ih => exact .l es es rfl (fun _ _ _ => rfl) (fun k hk _ j hj _ => ih k j hk hj)
/-- A number is stored where a number was: what read as data reads as data of the same shape. -/
theorem Rd.poke {w : World} {p : Addr} {x0 y : Int} (hp : w.cell? p = some (.int .i64 x0)) {d : Dt} {v : Value} {fp : List Nat} (h : Rd w d v fp) : ∃ d', Same d d' ∧ Rd (w.setCell p (.int .i64 y)) d' v fp := by
  induction h with
  | i n => exact ⟨_, .i n n, .i n⟩
  | b x => exact ⟨_, .b x x, .b x⟩
  | s t => exact ⟨_, .s t, .s t⟩
  | nil a cap hn => exact ⟨.l [], .l [] [] rfl (fun k h => by simp at h) (fun k h => by simp at h), .nil a cap hn⟩
  | l sz es g off cap V F hne hsz hcap hgl hc hrd ih =>
    have hex : ∀ k j, ∃ (q : Dt × Value), ∀ (hk : k < es.length) (hj : j < (es[k]).length), Same (es[k][j]) q.1 ∧ Rd (w.setCell p (.int .i64 y)) q.1 q.2 (F k j) ∧ (w.setCell p (.int .i64 y)).cell? ⟨g, off + (k * sz + j), none⟩ = some q.2 := by
      intro k j
      by_cases hk : k < es.length
      · by_cases hj : j < (es[k]).length
        · have hcj := hc k j hk (by rw [← hsz _ (List.getElem_mem hk)]; exact hj)
          by_cases e : p = ⟨g, off + (k * sz + j), none⟩
          · have hv : V k j = .int .i64 x0 := by rw [e, hcj] at hp; exact Option.some.inj hp
            have hr := hrd k j hk hj
            rw [hv] at hr
            have hd : ∃ n, es[k][j] = .i n ∧ F k j = [] := by
              generalize es[k][j] = dd at hr
              generalize F k j = ff at hr
              cases hr with
              | i n => exact ⟨_, rfl, rfl⟩
            obtain ⟨n, hn, hf⟩ := hd
            refine ⟨(.i y, .int .i64 y), fun _ _ => ⟨by rw [hn]; exact .i _ _, by rw [hf]; exact .i y, ?_⟩⟩
            rw [← e]
            exact World.cell?_setCell_same' _ _ _ (by rw [hp]; rfl)
          · obtain ⟨d', hs, hr'⟩ := ih k j hk hj
            exact ⟨(d', V k j), fun _ _ => ⟨hs, hr', (World.cell?_setCell_other _ _ _ _ e).trans hcj⟩⟩
        · exact ⟨(.i 0, undef), fun _ h => absurd h hj⟩
      · exact ⟨(.i 0, undef), fun h => absurd h hk⟩
    let D : Nat → Nat → Dt × Value := fun k j => (hex k j).choose
    have hD : ∀ k j (hk : k < es.length) (hj : j < (es[k]).length), Same (es[k][j]) (D k j).1 ∧ Rd (w.setCell p (.int .i64 y)) (D k j).1 (D k j).2 (F k j) ∧ (w.setCell p (.int .i64 y)).cell? ⟨g, off + (k * sz + j), none⟩ = some (D k j).2 := fun k j => (hex k j).choose_spec
    have hes : ∀ (es2 : List (List Dt)), es2 = (List.range es.length).map (fun k => (List.range sz).map fun j => (D k j).1) → Rd (w.setCell p (.int .i64 y)) (.l es2) (.slice (some ⟨g, off, none⟩) es2.length cap) (g :: (List.range es2.length).flatMap fun k => (List.range sz).flatMap (F k)) := by
      intro es2 h2
      have hl2 : es2.length = es.length := by rw [h2]; simp
      refine .l sz es2 g off cap (fun k j => (D k j).2) F (by omega) (fun e he => ?_) (by omega) (by rw [World.size_setCell]; exact hgl) (fun k j hk hj => ?_) (fun k j hk hj => ?_)
      · rw [h2] at he
        obtain ⟨k, _, rfl⟩ := List.mem_map.1 he
        simp
      · have hk' : k < es.length := by omega
        exact (hD k j hk' (by rw [hsz _ (List.getElem_mem hk')]; exact hj)).2.2
      · have hk' : k < es.length := by omega
        subst h2
        have hj' : j < sz := by simpa using hj
        have := (hD k j hk' (by rw [hsz _ (List.getElem_mem hk')]; exact hj')).2.1
        simpa using this
    have hfin := hes _ rfl
    simp only [List.length_map, List.length_range] at hfin
    refine ⟨_, .l es _ (by simp) (fun k h h' => by simp [hsz _ (List.getElem_mem h)]) (fun k h h' j hj hj' => ?_), hfin⟩
    have := (hD k j h hj).1
    simpa using this
theorem same_i {n : Int} {d : Dt} (h : Same (.i n) d) : ∃ m, d = .i m := by cases h; exact ⟨_, rfl⟩
theorem same_ints {xs : List Int} {d : Dt} (h : Same (intsD xs) d) : ∃ ys : List Int, d = intsD ys ∧ ys.length = xs.length := by
  unfold intsD at h
  cases h with
  | l _ es' hl he hs =>
    rw [List.length_map] at hl
    have hall : ∀ k (hk : k < es'.length), ∃ m, es'[k] = [.i m] := fun k hk => by
      have hk' : k < (xs.map fun x => [Dt.i x]).length := by simp; omega
      have h1 := he k hk' hk
      rw [List.getElem_map] at h1
      simp at h1
      have h2 := hs k hk' hk 0 (by simp) (by omega)
      simp only [List.getElem_map, List.getElem_cons_zero] at h2
      obtain ⟨m, hm⟩ := same_i h2
      match he' : es'[k], h1 with
      | [e0], _ => simp only [he', List.getElem_cons_zero] at hm; exact ⟨m, by rw [hm]⟩
    have hex : ∀ l : List (List Dt), (∀ k (hk : k < l.length), ∃ m, l[k] = [.i m]) → ∃ ys : List Int, l = ys.map fun x => [.i x] := by
      intro l
      induction l with
      | nil => intro _; exact ⟨[], rfl⟩
      | cons e l ih =>
        intro h
        obtain ⟨m, hm⟩ := h 0 (by simp)
        obtain ⟨ys, rfl⟩ := ih fun k hk => by have := h (k + 1) (by simp; omega); simpa using this
        simp at hm
        subst hm
        exact ⟨m :: ys, rfl⟩
    obtain ⟨ys, rfl⟩ := hex es' hall
    refine ⟨ys, rfl, ?_⟩
    rw [List.length_map] at hl
    omega
theorem same_shards {m : Nat} : ∀ {L : List (Int × List Int)} {es : List (List Dt)}, Same (.l (L.map shardD)) (.l es) → (∀ s ∈ L, s.2.length ≤ m) → ∃ L' : List (Int × List Int), es = L'.map shardD ∧ L'.length = L.length ∧ ∀ s ∈ L', s.2.length ≤ m := by
  intro L es h hm
  cases h with
  | l _ _ hl he hs =>
    rw [List.length_map] at hl
    have hall : ∀ k (hk : k < es.length), ∃ s : Int × List Int, es[k] = shardD s ∧ s.2.length ≤ m := fun k hk => by
      have hkL : k < L.length := by omega
      have hk' : k < (L.map shardD).length := by simp; omega
      have h1 := he k hk' hk
      rw [List.getElem_map] at h1
      have h0 := hs k hk' hk 0 (by simp [shardD]) (by rw [← h1]; simp [shardD])
      have h2 := hs k hk' hk 1 (by simp [shardD]) (by rw [← h1]; simp [shardD])
      simp only [List.getElem_map, shardD, List.getElem_cons_zero, List.getElem_cons_succ] at h0 h2
      obtain ⟨n, hn⟩ := same_i h0
      obtain ⟨ys, hy, hyl⟩ := same_ints h2
      refine ⟨(n, ys), ?_, by have := hm _ (List.getElem_mem hkL); simp only; omega⟩
      have hl2 : es[k].length = 2 := by rw [← h1]; rfl
      match he' : es[k], hl2 with
      | [e0, e1], _ =>
        simp only [he', List.getElem_cons_zero, List.getElem_cons_succ] at hn hy
        rw [hn, hy]; rfl
    have hex : ∀ l : List (List Dt), (∀ k (hk : k < l.length), ∃ s : Int × List Int, l[k] = shardD s ∧ s.2.length ≤ m) → ∃ L' : List (Int × List Int), l = L'.map shardD ∧ ∀ s ∈ L', s.2.length ≤ m := by
      intro l
      induction l with
      | nil => intro _; exact ⟨[], rfl, by simp⟩
      | cons e l ih =>
        intro h
        obtain ⟨s, hs, hsm⟩ := h 0 (by simp)
        obtain ⟨L', rfl, hL⟩ := ih fun k hk => by have := h (k + 1) (by simp; omega); simpa using this
        simp at hs
        subst hs
        refine ⟨s :: L', rfl, fun x hx => ?_⟩
        rcases List.mem_cons.1 hx with rfl | hx
        · exact hsm
        · exact hL x hx
    obtain ⟨L', rfl, hL⟩ := hex es hall
    exact ⟨L', rfl, by rw [List.length_map] at hl; omega, hL⟩
theorem shards_poke {w : World} {p : Addr} {x0 : Int} (y : Int) (hp : w.cell? p = some (.int .i64 x0)) {L : List (Int × List Int)} {v : Value} {fp : List Nat} {m : Nat} (h : Rd w (.l (L.map shardD)) v fp) (hm : ∀ s ∈ L, s.2.length ≤ m) :
    ∃ L' : List (Int × List Int), L'.length = L.length ∧ (∀ s ∈ L', s.2.length ≤ m) ∧ Rd (w.setCell p (.int .i64 y)) (.l (L'.map shardD)) v fp := by
  obtain ⟨d', hs, hr⟩ := h.poke hp (y := y)
  have hd : ∃ es, d' = .l es := by cases hs with | l _ es' _ _ _ => exact ⟨es', rfl⟩
  obtain ⟨es, rfl⟩ := hd
  obtain ⟨L', rfl, hl, hm'⟩ := same_shards hs hm
  exact ⟨L', hl, hm', hr⟩
/-- A list is stored in place of a row's list. -/
theorem Bld.setL {E Ei : TypeId} {w : World} {B g n cap : Nat} {L : List (Int × List Int)} (h : Bld E 2 w B (.slice (some ⟨g, 0, none⟩) n cap) (L.map shardD)) (hn : n = L.length) {k : Nat} (hk : k < L.length) {u : Value} {xs : List Int} {lo : Nat} (hu : Own Ei w lo u xs) (hlo : B ≤ lo) (hgu : u.ownBlock ≠ some g) :
    Bld E 2 (w.setCell ⟨g, k * 2 + 1, none⟩ u) B (.slice (some ⟨g, 0, none⟩) n cap) ((L.set k (L[k].1, xs)).map shardD) := by
  subst hn
  obtain ⟨cs, ho, hc⟩ := h.row
  have hlen : (L.map shardD).length = L.length := by simp
  rw [hlen] at ho
  have hst := World.ownsRow.stored ho (k * 2 + 1) u
  have hcl : cs.length = L.length * 2 := ho.1
  obtain ⟨fu, hru, hfu⟩ := Rd.of_own hu
  refine ⟨fun e he => ?_, cs.set (k * 2 + 1) u, ?_, fun k' hk' => ?_⟩
  · obtain ⟨s, _, rfl⟩ := List.mem_map.1 he; rfl
  · have : ((L.set k (L[k].1, xs)).map shardD).length = L.length := by simp
    rw [this]; exact hst.1
  · have hkL : k' < L.length := by simpa using hk'
    have hk0 : k' < (L.map shardD).length := by simpa using hkL
    intro j hj
    have h22 : (((L.set k (L[k].1, xs)).map shardD)[k']).length = 2 := by rw [List.getElem_map]; rfl
    have hj2 : j < 2 := by omega
    by_cases e : k' = k ∧ j = 1
    · obtain ⟨rfl, rfl⟩ := e
      refine ⟨u, fu, ?_, ?_, fun r hr => ?_⟩
      · rw [List.getElem?_drop, List.getElem?_set_self (by rw [hcl]; omega)]
      · have : ((L.set k' (L[k'].1, xs)).map shardD)[k'][1] = intsD xs := by simp [shardD]
        rw [this]
        exact hru.grown (grownBy_set w g _ u) fun r e hm => by cases e; exact hgu (hfu g hm).2
      · have := hfu r hr
        exact ⟨by omega, fun e => by cases e; exact hgu this.2⟩
    · have hj0 : j < ((L.map shardD)[k']).length := by simp [shardD]; exact hj2
      obtain ⟨c, fp, hcc, hr, hf⟩ := hc k' hk0 j hj0
      refine ⟨c, fp, ?_, ?_, hf⟩
      · rw [List.getElem?_drop] at hcc ⊢
        rw [List.getElem?_set_ne (by intro h1; apply e; omega)]
        exact hcc
      · have he : ((L.set k (L[k].1, xs)).map shardD)[k'][j] = (L.map shardD)[k'][j] := by
          by_cases ek : k' = k
          · subst ek
            have : j = 0 := by have : ¬ j = 1 := fun h => e ⟨rfl, h⟩; omega
            subst this
            simp [shardD]
          · simp only [List.getElem_map, List.getElem_set_ne (fun h => ek h.symm)]
        rw [he]
        exact hr.grown (grownBy_set w g _ u) fun r e hm => by cases e; exact (hf g hm).2 rfl

end Go.Proofs.Ytejpoeejhmgphac
