/- The reference's adding of a vertex to a graph: l11Add and GraphAdd, each by a walk of its text; conditions: lists are shorter than 2^40 (a graph: 2^20), and where the text asks it, the committee, the graph and the vertex are valid. -/
import Derived.Test.YtejpoeejhmgphaaRows
import Derived.Test.YtejpoeejhmgphaaGv4
namespace Go.Proofs.Ytejpoeejhmgphaa
open Go.RowKit

/-- Where a vertex belongs. -/
def insN (g : List Vx) (x : Vx) : Nat := g.findIdx fun y => !befB y x
def insG (g : List Vx) (x : Vx) : List Vx := (g.take (insN g x) ++ [x]) ++ g.drop (insN g x)
/-- The code of an addition. -/
def addN (g : List Vx) (x : Vx) : Int := if 0 ≤ findZ g x.r x.a then (if sameB (g.getD (findZ g x.r x.a).toNat vx0) x = true then 1 else 2) else if parB g x = true then 0 else 3
def addG (g : List Vx) (x : Vx) : List Vx := if addN g x = 0 then insG g x else g
def befAt (g : List Vx) (x : Vx) (k : Nat) : Bool := befB (g.getD k vx0) x
theorem insN_end {g : List Vx} {x : Vx} {n : Nat} (h : Upto (befAt g x) n) (hn : g.length = n) : insN g x = n := by
  subst hn
  refine List.findIdx_eq_length.2 fun y hy => ?_
  obtain ⟨k, hk, rfl⟩ := List.mem_iff_getElem.1 hy
  have := h k hk
  unfold befAt at this
  rw [getV hk] at this
  simp [this]
theorem insN_at {g : List Vx} {x : Vx} {k : Nat} (hk : k < g.length) (h : Upto (befAt g x) k) (hb : befAt g x k = false) : insN g x = k := by
  refine (List.findIdx_eq hk).2 ⟨?_, fun j hj => ?_⟩
  · unfold befAt at hb; rw [getV hk] at hb; simp [hb]
  · have := h j hj
    unfold befAt at this
    rw [getV (by omega)] at this
    simp [this]
theorem addN_same {g : List Vx} {x : Vx} {k : Nat} (hk : k < g.length) (h : findZ g x.r x.a = k) (hs : sameB g[k] x = true) : addN g x = 1 ∧ addG g x = g := by
  have : addN g x = 1 := by unfold addN; rw [h, if_pos (by omega), Int.toNat_natCast, getV hk, if_pos hs]
  exact ⟨this, by unfold addG; rw [this]; rfl⟩
theorem addN_twice {g : List Vx} {x : Vx} {k : Nat} (hk : k < g.length) (h : findZ g x.r x.a = k) (hs : sameB g[k] x = false) : addN g x = 2 ∧ addG g x = g := by
  have : addN g x = 2 := by unfold addN; rw [h, if_pos (by omega), Int.toNat_natCast, getV hk, if_neg (by simp [hs])]
  exact ⟨this, by unfold addG; rw [this]; rfl⟩
theorem addN_miss {g : List Vx} {x : Vx} (h : findZ g x.r x.a = -1) (hp : parB g x = false) : addN g x = 3 ∧ addG g x = g := by
  have : addN g x = 3 := by unfold addN; rw [h, if_neg (by omega), if_neg (by simp [hp])]
  exact ⟨this, by unfold addG; rw [this]; rfl⟩
theorem addN_done {g : List Vx} {x : Vx} (h : findZ g x.r x.a = -1) (hp : parB g x = true) : addN g x = 0 ∧ addG g x = insG g x := by
  have : addN g x = 0 := by unfold addN; rw [h, if_neg (by omega), if_pos hp]
  exact ⟨this, by unfold addG; rw [this]; rfl⟩

/-- The tail of a graph, and where it lies. -/
theorem Gr.tail {w : World} {g : List Vx} {va : Option Addr} {vc : Nat} {fp : List Nat} (h : Gr w g (.slice va g.length vc) fp) (k : Nat) (hk : k ≤ g.length) :
    ∃ fp2, Gr w (g.drop k) (.slice (if vc = k then va else va.map fun x => x.add (k * 4)) (g.length - k) (vc - k)) fp2 := by
  cases va with
  | none =>
    have hc0 := Rd.nilcap h
    have hg0 : g.length = 0 := by
      rcases Nat.eq_zero_or_pos g.length with h0 | h0
      · exact h0
      · obtain ⟨_, _, e, _⟩ := h.at h0; cases e
    have hk0 : k = 0 := by omega
    have hgn : g = [] := List.eq_nil_of_length_eq_zero hg0
    subst hgn hk0
    exact ⟨[], .nil _ _ (fun _ => by omega)⟩
  | some av =>
    rcases Nat.eq_zero_or_pos g.length with h0 | h0
    · have hgn : g = [] := List.eq_nil_of_length_eq_zero h0
      subst hgn
      have hk0 : k = 0 := by simp at hk; omega
      subst hk0
      exact ⟨[], .nil _ _ (fun e => by split at e <;> cases e)⟩
    · obtain ⟨b, off, e, _⟩ := h.at h0
      cases e
      obtain ⟨o2, hif, fp2, hr2, _⟩ := Rd.tail h (sz := 4) (by intro e he; obtain ⟨e', he', rfl⟩ := List.mem_map.1 he; obtain ⟨y, _, rfl⟩ := List.mem_map.1 he'; rfl) k (by simp; omega)
      refine ⟨fp2, ?_⟩
      have e2 : (if vc = k then some (⟨b, off, none⟩ : Addr) else (some (⟨b, off, none⟩ : Addr)).map fun x => x.add (k * 4)) = some ⟨b, o2, none⟩ := by
        rw [← hif, Option.map_some, addr_add']
      rw [e2]
      unfold Gr rowsD
      rw [List.map_drop, List.map_drop]
      simpa using hr2

set_option maxHeartbeats 2000000 in
theorem spec_l11Add (g : List Vx) (v : Value) (fp : List Nat) (x : Vx) (pa : Option Addr) (pc : Nat) (w : World) (hbig : g.length ≤ 1048576) (hps : ∀ y ∈ g, y.ps.length ≤ 1099511627776) (hbp : x.ps.length ≤ 1099511627776) (hr0 : 0 ≤ x.r) (hr1 : x.r ≤ 1099511627776) (hg : Gr w g v fp) (hs : SrcAt w pa pc x.ps) (hi : IntsAt w pa x.ps) :
    Calls Try.prog 43 #[v, .agg #[.int .i64 x.r, .int .i64 x.a, .slice pa x.ps.length pc, .int .i64 x.d]] w fun e w' => ∃ u, e = .returned (.tuple #[u, .int .i64 (addN g x)]) ∧ OwnR 30 3 4 w' w.heap.size w'.heap.size u ((addG g x).map Vx.fd) ∧ Below w.heap.size w w' := by
  have hb0 : Below w.heap.size w (w.alloc (.cells #[.int .i64 x.r, .int .i64 x.a, .slice pa x.ps.length pc, .int .i64 x.d] 30)) := (Below.refl _ _).alloc (Nat.le_refl _) _
  have s0 := Str.new w 30 #[.int .i64 x.r, .int .i64 x.a, .slice pa x.ps.length pc, .int .i64 x.d]
  have hsz0 : (w.alloc (.cells #[.int .i64 x.r, .int .i64 x.a, .slice pa x.ps.length pc, .int .i64 x.d] 30)).heap.size = w.heap.size + 1 := by simp
  have hsrc : ∀ W, Below (w.alloc (.cells #[.int .i64 x.r, .int .i64 x.a, .slice pa x.ps.length pc, .int .i64 x.d] 30)).heap.size (w.alloc (.cells #[.int .i64 x.r, .int .i64 x.a, .slice pa x.ps.length pc, .int .i64 x.d] 30)) W → SrcAt W pa pc x.ps ∧ IntsAt W pa x.ps := by
    intro W hW
    have hbW := hb0.trans (hW.mono (by omega))
    exact ⟨hs.under hi hbW, hi.below hbW⟩
  have Hg := Lib.hid (hg.under hb0); clear hg
  have Hsrc := Lib.hid hsrc; clear hsrc hs hi
  have Hb0 := Lib.hid hb0; clear hb0
  have Hs0 := Lib.hid s0; clear s0
  have HP := Lib.hid hps; clear hps
  have HF := Lib.hid (fun W (h : Gr W g v fp) => spec_l11Find g v fp x.r x.a W (by omega) h)
  have HC := Lib.hid (fun W (h : Gr W g v fp) => spec_l11Copy g v fp W (by omega) HP.out h)
  have hin : ∀ (n : Nat), (∀ y ∈ g.drop n, y.ps.length ≤ 1099511627776) := fun n y hy => HP.out y (List.mem_of_mem_drop hy)
  have HD := Lib.hid (fun n u fp' W (h : Gr W (g.drop n) u fp') => spec_l11Copy (g.drop n) u fp' W (by rw [List.length_drop]; omega) (hin n) h)
  clear hin
  have HQ := Lib.hid (fun W (h : Gr W g v fp) (h' : IntsAt W pa x.ps) => spec_l11Parents g v fp x.r x.a x.d pa pc x.ps W (by omega) hbp hr0 hr1 h h')
  have HS := Lib.hid (fun (y : Vx) (pa' : Option Addr) (pc' : Nat) W (hy : y.ps.length ≤ 1099511627776) (h : IntsAt W pa' y.ps) (h' : IntsAt W pa x.ps) => spec_l11Same y x pa' pa pc' pc W hy hbp h h')
  have HO := Lib.hid (fun (y : Vx) (pa' : Option Addr) (pc' : Nat) W (hy : y.ps.length ≤ 1099511627776) (h : SrcAt W pa' pc' y.ps) (h' : IntsAt W pa' y.ps) => spec_l11One y.r y.a y.d pa' pc' y.ps W hy h h')
  have HB := Lib.hid (fun (y : Vx) (pa' : Option Addr) (pc' : Nat) W => spec_l11Before y x pa' pa pc' pc W)
  obtain ⟨va, vc, rfl⟩ := Hg.out.slice
  have k0 := Hs0.out.cell 0 (v := .int .i64 x.r) rfl
  have k1 := Hs0.out.cell 1 (v := .int .i64 x.a) rfl
  have k2 := Hs0.out.cell 2 (v := .slice pa x.ps.length pc) rfl
  have k3 := Hs0.out.cell 3 (v := .int .i64 x.d) rfl
  have Hfc := Lib.hid (findZ_cases g x.r x.a)
  have HA1 := Lib.hid (fun k hk => addN_same (g := g) (x := x) (k := k) hk)
  have HA2 := Lib.hid (fun k hk => addN_twice (g := g) (x := x) (k := k) hk)
  have HA3 := Lib.hid (addN_miss (g := g) (x := x))
  have HA4 := Lib.hid (addN_done (g := g) (x := x))
  go_enter Try.func43, Try.ntmps43
  go_wp2_with fail
  generalize w.alloc (.cells #[.int .i64 x.r, .int .i64 x.a, .slice pa x.ps.length pc, .int .i64 x.d] 30) = W0 at *
  refine (HF.out W0 Hg.out).mono ?_
  rintro e w1 ⟨rfl, rfl⟩
  rcases Hfc.out with ⟨hz, hno⟩ | ⟨k, hlt, hz, hsame, hbef⟩
  case inr =>
    clear hsame hbef
    have Hz := Lib.hid hz; clear hz
    rw [Hz.out]
    obtain ⟨b, off, rfl, hb, hat⟩ := Hg.out.at (by omega)
    obtain ⟨c0, c1, ⟨pa', pc', c2, i2, _⟩, c3⟩ := hat k hlt
    have hpy := HP.out _ (List.getElem_mem hlt)
    have HS1 := Lib.hid (fun W => HS.out (g[k]'hlt) pa' pc' W hpy)
    have HA1 := Lib.hid (fun h => HA1.out k hlt Hz.out h)
    have HA2 := Lib.hid (fun h => HA2.out k hlt Hz.out h)
    clear hat hpy HS HO HB HD HQ HA3 HA4
    generalize g[k] = y at *
    have hb0 : Below W0.heap.size W0 W0.drew := (Below.refl _ _).drew
    have Hbs := Lib.hid (fun w' (h : Below W0.heap.size W0 w') => (⟨Nat.lt_of_lt_of_le hb h.size, Nat.lt_of_lt_of_le Hs0.out.lt h.size⟩ : b < w'.heap.size ∧ w.heap.size < w'.heap.size))
    have Hi2 := Lib.hid i2; clear i2
    have hge : decide ((0 : Int) ≤ (k : Int)) = true := decide_eq_true (by omega)
    cases hsb : sameB y x with
    | true =>
      rw [hsb] at HS1
      obtain ⟨hz1, hz2⟩ := HA1.out hsb
      have Hz1 := Lib.hid hz1
      have Hz2 := Lib.hid hz2
      clear HA1 HA2 hz1 hz2
      go_wp2_with fail
      refine wp_region_held_drew (S := fun w' => Below W0.heap.size W0 w' ∧ w'.cell? ⟨b, off + k * 4, none⟩ = some (.int .i64 y.r) ∧ w'.cell? ⟨b, off + k * 4 + 1, none⟩ = some (.int .i64 y.a) ∧ w'.cell? ⟨b, off + k * 4 + 2, none⟩ = some (.slice pa' y.ps.length pc') ∧ w'.cell? ⟨b, off + k * 4 + 3, none⟩ = some (.int .i64 y.d) ∧ w'.cell? ⟨w.heap.size, 0, none⟩ = some (.int .i64 x.r) ∧ w'.cell? ⟨w.heap.size, 1, none⟩ = some (.int .i64 x.a) ∧ w'.cell? ⟨w.heap.size, 2, none⟩ = some (.slice pa x.ps.length pc) ∧ w'.cell? ⟨w.heap.size, 3, none⟩ = some (.int .i64 x.d)) (by kernel_rfl) ⟨hb0, c0, c1, c2, c3, k0, k1, k2, k3⟩ (fun hH => ?_)
      refine takeH 0 (v := ?va0) rfl (by kernel_rfl) (by kernel_rfl) (by kernel_rfl) (fun _ _ _ h => h) hH rfl ?ya0 ?ra0
      case ya0 => intro W hSw; go_simp; try with_reducible rfl
      try simp only [Act.put, List.setIfInBounds_toArray, List.set_cons_zero, List.set_cons_succ]
      refine takeH 1 (v := .bool true) rfl (by kernel_rfl) (by kernel_rfl) (by kernel_rfl) (fun _ _ _ h => h) hH rfl ?ya1 ?ra1
      case ya1 => intro W hSw; go_simp; first | done | simp only [hge] | omega | (simp; omega)
      try simp only [Act.put, List.setIfInBounds_toArray, List.set_cons_zero, List.set_cons_succ]
      refine takeH 2 (v := ?va2) rfl (by kernel_rfl) (by kernel_rfl) (by kernel_rfl) (fun _ _ _ h => h) hH rfl ?ya2 ?ra2
      case ya2 => intro W hSw; go_simp; try with_reducible rfl
      try simp only [Act.put, List.setIfInBounds_toArray, List.set_cons_zero, List.set_cons_succ]
      refine takeH 3 (v := ?va3) rfl (by kernel_rfl) (by kernel_rfl) (by kernel_rfl) (fun _ _ _ h => h) hH rfl ?ya3 ?ra3
      case ya3 => intro W hSw; go_simp; try with_reducible rfl
      try simp only [Act.put, List.setIfInBounds_toArray, List.set_cons_zero, List.set_cons_succ]
      refine takeH 4 (v := ?va4) rfl (by kernel_rfl) (by kernel_rfl) (by kernel_rfl) (fun _ _ _ h => h) hH rfl ?ya4 ?ra4
      case ya4 => intro W hSw; go_simp; try with_reducible rfl
      try simp only [Act.put, List.setIfInBounds_toArray, List.set_cons_zero, List.set_cons_succ]
      refine takeH 5 (v := ?va5) rfl (by kernel_rfl) (by kernel_rfl) (by kernel_rfl) (fun _ _ _ h => h) hH rfl ?ya5 ?ra5
      case ya5 => intro W hSw; go_simp; try with_reducible rfl
      try simp only [Act.put, List.setIfInBounds_toArray, List.set_cons_zero, List.set_cons_succ]
      refine takeH 6 (v := ?va6) rfl (by kernel_rfl) (by kernel_rfl) (by kernel_rfl) (fun _ _ _ h => h) hH rfl ?ya6 ?ra6
      case ya6 => intro W hSw; go_simp; try with_reducible rfl
      try simp only [Act.put, List.setIfInBounds_toArray, List.set_cons_zero, List.set_cons_succ]
      refine takeH 7 (v := ?va7) rfl (by kernel_rfl) (by kernel_rfl) (by kernel_rfl) (fun _ _ _ h => h) hH rfl ?ya7 ?ra7
      case ya7 => intro W hSw; go_simp; try with_reducible rfl
      try simp only [Act.put, List.setIfInBounds_toArray, List.set_cons_zero, List.set_cons_succ]
      refine callH 8 rfl (by kernel_rfl) rfl (fun K hK => ?_)
      go_simp
      go_at_call 67
      refine (HS1.out _ (Hi2.out.below hH.1) (Hsrc.out _ hH.1).2).mono ?_
      rintro e wx ⟨rfl, hbx⟩
      refine hK.out _ _ ⟨hH.1.trans (hbx.mono hH.1.size), (hbx.cell (p := ⟨b, off + k * 4, none⟩) (Hbs.out _ hH.1).1).trans hH.2.1, (hbx.cell (p := ⟨b, off + k * 4 + 1, none⟩) (Hbs.out _ hH.1).1).trans hH.2.2.1, (hbx.cell (p := ⟨b, off + k * 4 + 2, none⟩) (Hbs.out _ hH.1).1).trans hH.2.2.2.1, (hbx.cell (p := ⟨b, off + k * 4 + 3, none⟩) (Hbs.out _ hH.1).1).trans hH.2.2.2.2.1, (hbx.cell (p := ⟨w.heap.size, 0, none⟩) (Hbs.out _ hH.1).2).trans hH.2.2.2.2.2.1, (hbx.cell (p := ⟨w.heap.size, 1, none⟩) (Hbs.out _ hH.1).2).trans hH.2.2.2.2.2.2.1, (hbx.cell (p := ⟨w.heap.size, 2, none⟩) (Hbs.out _ hH.1).2).trans hH.2.2.2.2.2.2.2.1, (hbx.cell (p := ⟨w.heap.size, 3, none⟩) (Hbs.out _ hH.1).2).trans hH.2.2.2.2.2.2.2.2⟩ (fun hH => ?_)
      clear hK K
      try simp only [Act.put, List.setIfInBounds_toArray, List.set_cons_zero, List.set_cons_succ]
      refine takeH 9 (v := ?va9) rfl (by kernel_rfl) (by kernel_rfl) (by kernel_rfl) (fun _ _ _ h => h) hH rfl ?ya9 ?ra9
      case ya9 => intro W hSw; go_simp; try with_reducible rfl
      try simp only [Act.put, List.setIfInBounds_toArray, List.set_cons_zero, List.set_cons_succ]
      refine takeH 10 (v := ?va10) rfl (by kernel_rfl) (by kernel_rfl) (by kernel_rfl) (fun _ _ _ h => h) hH rfl ?ya10 ?ra10
      case ya10 => intro W hSw; go_simp; try with_reducible rfl
      try simp only [Act.put, List.setIfInBounds_toArray, List.set_cons_zero, List.set_cons_succ]
      refine wpAnyH_done (by kernel_rfl) ?_ _
      try simp only [Act.put]
      obtain ⟨hbw, _⟩ := hH
      have Hbw := Lib.hid hbw; clear hbw
      go_wp2_with fail
      refine (HC.out _ (Hg.out.under Hbw.out)).mono ?_
      rintro e w2 ⟨u, rfl, ho, hb2⟩
      have Ho := Lib.hid ho; clear ho
      have Hb2 := Lib.hid (below_step (Hb0.out.trans (Hbw.out.mono (by omega))) (by have := Hbw.out.size; omega) hb2)
      have Hle := Lib.hid (show w.heap.size ≤ _ from Nat.le_trans Hb0.out.size Hbw.out.size)
      clear hb2
      go_wp2
      go_ret2
      exact ⟨_, by rw [Hz1.out]; rfl, by rw [Hz2.out]; exact Ho.out.from Hle.out, Hb2.out⟩
    | false =>
      rw [hsb] at HS1
      obtain ⟨hz1, hz2⟩ := HA2.out hsb
      have Hz1 := Lib.hid hz1
      have Hz2 := Lib.hid hz2
      clear HA1 HA2 hz1 hz2
      go_wp2_with fail
      refine wp_region_held_drew (S := fun w' => Below W0.heap.size W0 w' ∧ w'.cell? ⟨b, off + k * 4, none⟩ = some (.int .i64 y.r) ∧ w'.cell? ⟨b, off + k * 4 + 1, none⟩ = some (.int .i64 y.a) ∧ w'.cell? ⟨b, off + k * 4 + 2, none⟩ = some (.slice pa' y.ps.length pc') ∧ w'.cell? ⟨b, off + k * 4 + 3, none⟩ = some (.int .i64 y.d) ∧ w'.cell? ⟨w.heap.size, 0, none⟩ = some (.int .i64 x.r) ∧ w'.cell? ⟨w.heap.size, 1, none⟩ = some (.int .i64 x.a) ∧ w'.cell? ⟨w.heap.size, 2, none⟩ = some (.slice pa x.ps.length pc) ∧ w'.cell? ⟨w.heap.size, 3, none⟩ = some (.int .i64 x.d)) (by kernel_rfl) ⟨hb0, c0, c1, c2, c3, k0, k1, k2, k3⟩ (fun hH => ?_)
      refine takeH 0 (v := ?vb0) rfl (by kernel_rfl) (by kernel_rfl) (by kernel_rfl) (fun _ _ _ h => h) hH rfl ?yb0 ?rb0
      case yb0 => intro W hSw; go_simp; try with_reducible rfl
      try simp only [Act.put, List.setIfInBounds_toArray, List.set_cons_zero, List.set_cons_succ]
      refine takeH 1 (v := .bool true) rfl (by kernel_rfl) (by kernel_rfl) (by kernel_rfl) (fun _ _ _ h => h) hH rfl ?yb1 ?rb1
      case yb1 => intro W hSw; go_simp; first | done | simp only [hge] | omega | (simp; omega)
      try simp only [Act.put, List.setIfInBounds_toArray, List.set_cons_zero, List.set_cons_succ]
      refine takeH 2 (v := ?vb2) rfl (by kernel_rfl) (by kernel_rfl) (by kernel_rfl) (fun _ _ _ h => h) hH rfl ?yb2 ?rb2
      case yb2 => intro W hSw; go_simp; try with_reducible rfl
      try simp only [Act.put, List.setIfInBounds_toArray, List.set_cons_zero, List.set_cons_succ]
      refine takeH 3 (v := ?vb3) rfl (by kernel_rfl) (by kernel_rfl) (by kernel_rfl) (fun _ _ _ h => h) hH rfl ?yb3 ?rb3
      case yb3 => intro W hSw; go_simp; try with_reducible rfl
      try simp only [Act.put, List.setIfInBounds_toArray, List.set_cons_zero, List.set_cons_succ]
      refine takeH 4 (v := ?vb4) rfl (by kernel_rfl) (by kernel_rfl) (by kernel_rfl) (fun _ _ _ h => h) hH rfl ?yb4 ?rb4
      case yb4 => intro W hSw; go_simp; try with_reducible rfl
      try simp only [Act.put, List.setIfInBounds_toArray, List.set_cons_zero, List.set_cons_succ]
      refine takeH 5 (v := ?vb5) rfl (by kernel_rfl) (by kernel_rfl) (by kernel_rfl) (fun _ _ _ h => h) hH rfl ?yb5 ?rb5
      case yb5 => intro W hSw; go_simp; try with_reducible rfl
      try simp only [Act.put, List.setIfInBounds_toArray, List.set_cons_zero, List.set_cons_succ]
      refine takeH 6 (v := ?vb6) rfl (by kernel_rfl) (by kernel_rfl) (by kernel_rfl) (fun _ _ _ h => h) hH rfl ?yb6 ?rb6
      case yb6 => intro W hSw; go_simp; try with_reducible rfl
      try simp only [Act.put, List.setIfInBounds_toArray, List.set_cons_zero, List.set_cons_succ]
      refine takeH 7 (v := ?vb7) rfl (by kernel_rfl) (by kernel_rfl) (by kernel_rfl) (fun _ _ _ h => h) hH rfl ?yb7 ?rb7
      case yb7 => intro W hSw; go_simp; try with_reducible rfl
      try simp only [Act.put, List.setIfInBounds_toArray, List.set_cons_zero, List.set_cons_succ]
      refine callH 8 rfl (by kernel_rfl) rfl (fun K hK => ?_)
      go_simp
      go_at_call 67
      refine (HS1.out _ (Hi2.out.below hH.1) (Hsrc.out _ hH.1).2).mono ?_
      rintro e wx ⟨rfl, hbx⟩
      refine hK.out _ _ ⟨hH.1.trans (hbx.mono hH.1.size), (hbx.cell (p := ⟨b, off + k * 4, none⟩) (Hbs.out _ hH.1).1).trans hH.2.1, (hbx.cell (p := ⟨b, off + k * 4 + 1, none⟩) (Hbs.out _ hH.1).1).trans hH.2.2.1, (hbx.cell (p := ⟨b, off + k * 4 + 2, none⟩) (Hbs.out _ hH.1).1).trans hH.2.2.2.1, (hbx.cell (p := ⟨b, off + k * 4 + 3, none⟩) (Hbs.out _ hH.1).1).trans hH.2.2.2.2.1, (hbx.cell (p := ⟨w.heap.size, 0, none⟩) (Hbs.out _ hH.1).2).trans hH.2.2.2.2.2.1, (hbx.cell (p := ⟨w.heap.size, 1, none⟩) (Hbs.out _ hH.1).2).trans hH.2.2.2.2.2.2.1, (hbx.cell (p := ⟨w.heap.size, 2, none⟩) (Hbs.out _ hH.1).2).trans hH.2.2.2.2.2.2.2.1, (hbx.cell (p := ⟨w.heap.size, 3, none⟩) (Hbs.out _ hH.1).2).trans hH.2.2.2.2.2.2.2.2⟩ (fun hH => ?_)
      clear hK K
      try simp only [Act.put, List.setIfInBounds_toArray, List.set_cons_zero, List.set_cons_succ]
      refine takeH 9 (v := ?vb9) rfl (by kernel_rfl) (by kernel_rfl) (by kernel_rfl) (fun _ _ _ h => h) hH rfl ?yb9 ?rb9
      case yb9 => intro W hSw; go_simp; try with_reducible rfl
      try simp only [Act.put, List.setIfInBounds_toArray, List.set_cons_zero, List.set_cons_succ]
      refine takeH 10 (v := ?vb10) rfl (by kernel_rfl) (by kernel_rfl) (by kernel_rfl) (fun _ _ _ h => h) hH rfl ?yb10 ?rb10
      case yb10 => intro W hSw; go_simp; try with_reducible rfl
      try simp only [Act.put, List.setIfInBounds_toArray, List.set_cons_zero, List.set_cons_succ]
      refine wpAnyH_done (by kernel_rfl) ?_ _
      try simp only [Act.put]
      obtain ⟨hbw, _⟩ := hH
      have Hbw := Lib.hid hbw; clear hbw
      have hge' : (0 : Int) ≤ (k : Int) := by omega
      go_wp2_with fail
      refine (HC.out _ (Hg.out.under Hbw.out)).mono ?_
      rintro e w2 ⟨u, rfl, ho, hb2⟩
      have Ho := Lib.hid ho; clear ho
      have Hb2 := Lib.hid (below_step (Hb0.out.trans (Hbw.out.mono (by omega))) (by have := Hbw.out.size; omega) hb2)
      have Hle := Lib.hid (show w.heap.size ≤ _ from Nat.le_trans Hb0.out.size Hbw.out.size)
      clear hb2
      go_wp2
      go_ret2
      exact ⟨_, by rw [Hz1.out]; rfl, by rw [Hz2.out]; exact Ho.out.from Hle.out, Hb2.out⟩
  case inl =>
    clear hno HA1 HA2 HS
    have Hz := Lib.hid hz; clear hz
    rw [Hz.out]
    have hge : decide ((0 : Int) ≤ (-1 : Int)) = false := rfl
    have hb0 : Below W0.heap.size W0 W0.drew := (Below.refl _ _).drew
    go_wp2_with fail
    refine wp_region_held_drew (S := fun w' => Below W0.heap.size W0 w' ∧ w'.cell? ⟨w.heap.size, 0, none⟩ = some (.int .i64 x.r) ∧ w'.cell? ⟨w.heap.size, 1, none⟩ = some (.int .i64 x.a) ∧ w'.cell? ⟨w.heap.size, 2, none⟩ = some (.slice pa x.ps.length pc) ∧ w'.cell? ⟨w.heap.size, 3, none⟩ = some (.int .i64 x.d)) (by kernel_rfl) ⟨hb0, k0, k1, k2, k3⟩ (fun hH => ?_)
    refine takeH 0 (v := ?vc0) rfl (by kernel_rfl) (by kernel_rfl) (by kernel_rfl) (fun _ _ _ h => h) hH rfl ?yc0 ?rc0
    case yc0 => intro W hSw; go_simp; try with_reducible rfl
    try simp only [Act.put, List.setIfInBounds_toArray, List.set_cons_zero, List.set_cons_succ]
    refine takeH 1 (v := .bool false) rfl (by kernel_rfl) (by kernel_rfl) (by kernel_rfl) (fun _ _ _ h => h) hH rfl ?yc1 ?rc1
    case yc1 => intro W hSw; go_simp; first | done | simp only [hge] | omega | (simp; omega)
    try simp only [Act.put, List.setIfInBounds_toArray, List.set_cons_zero, List.set_cons_succ]
    refine takeH 2 (v := ?vc2) rfl (by kernel_rfl) (by kernel_rfl) (by kernel_rfl) (fun _ _ _ h => h) hH rfl ?yc2 ?rc2
    case yc2 => intro W hSw; go_simp; try with_reducible rfl
    try simp only [Act.put, List.setIfInBounds_toArray, List.set_cons_zero, List.set_cons_succ]
    refine skipH 3 rfl (by kernel_rfl) (by kernel_rfl) (by kernel_rfl) (fun _ _ _ h => h) hH rfl ?_
    try simp only [Act.put, List.setIfInBounds_toArray, List.set_cons_zero, List.set_cons_succ]
    refine skipH 4 rfl (by kernel_rfl) (by kernel_rfl) (by kernel_rfl) (fun _ _ _ h => h) hH rfl ?_
    try simp only [Act.put, List.setIfInBounds_toArray, List.set_cons_zero, List.set_cons_succ]
    refine skipH 5 rfl (by kernel_rfl) (by kernel_rfl) (by kernel_rfl) (fun _ _ _ h => h) hH rfl ?_
    try simp only [Act.put, List.setIfInBounds_toArray, List.set_cons_zero, List.set_cons_succ]
    refine skipH 6 rfl (by kernel_rfl) (by kernel_rfl) (by kernel_rfl) (fun _ _ _ h => h) hH rfl ?_
    try simp only [Act.put, List.setIfInBounds_toArray, List.set_cons_zero, List.set_cons_succ]
    refine skipH 7 rfl (by kernel_rfl) (by kernel_rfl) (by kernel_rfl) (fun _ _ _ h => h) hH rfl ?_
    try simp only [Act.put, List.setIfInBounds_toArray, List.set_cons_zero, List.set_cons_succ]
    refine skipH 8 rfl (by kernel_rfl) (by kernel_rfl) (by kernel_rfl) (fun _ _ _ h => h) hH rfl ?_
    try simp only [Act.put, List.setIfInBounds_toArray, List.set_cons_zero, List.set_cons_succ]
    refine takeH 9 (v := ?vc9) rfl (by kernel_rfl) (by kernel_rfl) (by kernel_rfl) (fun _ _ _ h => h) hH rfl ?yc9 ?rc9
    case yc9 => intro W hSw; go_simp; try with_reducible rfl
    try simp only [Act.put, List.setIfInBounds_toArray, List.set_cons_zero, List.set_cons_succ]
    refine takeH 10 (v := ?vc10) rfl (by kernel_rfl) (by kernel_rfl) (by kernel_rfl) (fun _ _ _ h => h) hH rfl ?yc10 ?rc10
    case yc10 => intro W hSw; go_simp; try with_reducible rfl
    try simp only [Act.put, List.setIfInBounds_toArray, List.set_cons_zero, List.set_cons_succ]
    refine wpAnyH_done (by kernel_rfl) ?_ _
    try simp only [Act.put]
    obtain ⟨hbw, k0, k1, k2, k3⟩ := hH
    generalize W0.drew = W1 at *
    have Hbw := Lib.hid hbw; clear hbw
    go_wp2_with fail
    refine (HQ.out W1 (Hg.out.under Hbw.out) (Hsrc.out W1 Hbw.out).2).mono ?_
    rintro e w2 ⟨rfl, hb2⟩
    have Hb2 := Lib.hid (below_step Hbw.out Hbw.out.size hb2)
    have j0 := (hb2.cell (p := ⟨w.heap.size, 0, none⟩) (by have := Hbw.out.size; simp only; omega)).trans k0
    have j1 := (hb2.cell (p := ⟨w.heap.size, 1, none⟩) (by have := Hbw.out.size; simp only; omega)).trans k1
    have j2 := (hb2.cell (p := ⟨w.heap.size, 2, none⟩) (by have := Hbw.out.size; simp only; omega)).trans k2
    have j3 := (hb2.cell (p := ⟨w.heap.size, 3, none⟩) (by have := Hbw.out.size; simp only; omega)).trans k3
    clear hb2 k0 k1 k2 k3 hb0 hge
    have hle2 : w.heap.size ≤ w2.heap.size := by have := Hb2.out.size; omega
    have Hle2 := Lib.hid hle2
    cases hq : parB g ⟨x.r, x.a, x.ps, x.d⟩ with
    | false =>
      obtain ⟨hz1, hz2⟩ := HA3.out Hz.out hq
      have Hz1 := Lib.hid hz1
      have Hz2 := Lib.hid hz2
      clear HA3 HA4 hz1 hz2 HO HD HB
      go_wp2_with fail
      refine (HC.out w2 (Hg.out.under Hb2.out)).mono ?_
      rintro e w3 ⟨u, rfl, ho, hb3⟩
      have Ho := Lib.hid ho; clear ho
      have Hb3 := Lib.hid (below_step (Hb0.out.trans (Hb2.out.mono (by omega))) hle2 hb3)
      clear hb3
      go_wp2
      go_ret2
      exact ⟨_, by rw [Hz1.out]; rfl, by rw [Hz2.out]; exact Ho.out.from Hle2.out, Hb3.out⟩
    | true =>
      obtain ⟨hz1, hz2⟩ := HA4.out Hz.out hq
      have Hz1 := Lib.hid hz1
      have Hz2 := Lib.hid hz2
      clear HA3 HA4 hz1 hz2 HC HQ
      have hbE : Below w2.heap.size w2 (w2.alloc (.cells #[] 30)) := (Below.refl _ _).alloc (Nat.le_refl _) _
      have hv0 : OwnR 30 3 4 (w2.alloc (.cells #[] 30)) w2.heap.size (w2.alloc (.cells #[] 30)).heap.size (.slice (some ⟨w2.heap.size, 0, none⟩) 0 0) [] := .nil (World.ownsRow_made w2 #[] 0 (Nat.le_refl _) (by simp) (by simp)) (fun g e => by cases e; simp)
      have Hv0 := Lib.hid hv0; clear hv0
      have HbE := Lib.hid hbE; clear hbE
      have hX : ∀ W, Below w2.heap.size w2 W → Str W w.heap.size 30 #[.int .i64 x.r, .int .i64 x.a, .slice pa x.ps.length pc, .int .i64 x.d] := fun W hW => ((Hb2.out.trans (hW.mono Hb2.out.size)).block _ (by omega)).trans Hs0.out
      have HX := Lib.hid hX; clear hX
      have Hins := Lib.hid (fun k (hk : k < g.length) => insN_at (g := g) (x := x) (k := k) hk)
      have Hend := Lib.hid (fun n => insN_end (g := g) (x := x) (n := n))
      clear j0 j1 j2 j3
      go_wp2
      go_loopw [7, 8] (fun u i wr => ∃ k : Nat, k ≤ g.length ∧ i = .int .i64 k ∧ Upto (befAt g x) k ∧ OwnR 30 3 4 wr w2.heap.size wr.heap.size u ((g.take k).map Vx.fd) ∧ Below w2.heap.size w2 wr) (fun _ i _ => g.length - (intOf i).toNat)
      case atStart => exact ⟨0, Nat.zero_le _, rfl, upto_zero _, by simpa using Hv0.out, HbE.out⟩
      case round =>
        obtain ⟨k, hk, rfl, hup, hbld, hbel⟩ := hrel
        have Hbld := Lib.hid hbld; clear hbld
        have Hbel := Lib.hid hbel; clear hbel
        have Hup := Lib.hid hup; clear hup
        have sx := HX.out wr Hbel.out
        have k0 := sx.cell 0 (v := .int .i64 x.r) rfl
        have k1 := sx.cell 1 (v := .int .i64 x.a) rfl
        have k2 := sx.cell 2 (v := .slice pa x.ps.length pc) rfl
        have k3 := sx.cell 3 (v := .int .i64 x.d) rfl
        have hwx := sx.lt
        clear sx
        by_cases hlt : k < g.length
        · obtain ⟨b, off, rfl, hb, hat⟩ := (Hg.out.under (Hb2.out.trans (Hbel.out.mono Hb2.out.size))).at (by omega)
          obtain ⟨c0, c1, ⟨pa', pc', c2, i2, s2⟩, c3⟩ := hat k hlt
          have Hi2 := Lib.hid i2
          have Hs2 := Lib.hid s2
          clear i2 s2
          have hpy := HP.out _ (List.getElem_mem hlt)
          have hba : befAt g x k = befB g[k] x := by unfold befAt; rw [getV hlt]
          have HBk := Lib.hid (HB.out (g[k]'hlt) pa' pc')
          have Hex := Lib.hid (show (g.take (k + 1)).map Vx.fd = (g.take k).map Vx.fd ++ [[.i g[k].r, .i g[k].a, .l g[k].ps, .i g[k].d]] by rw [List.take_succ_eq_append_getElem hlt, List.map_append]; rfl)
          have hb0 : Below wr.heap.size wr wr.drew := (Below.refl _ _).drew
          have Hbs := Lib.hid (fun w' (h : Below wr.heap.size wr w') => (⟨Nat.lt_of_lt_of_le hb h.size, Nat.lt_of_lt_of_le hwx h.size⟩ : b < w'.heap.size ∧ w.heap.size < w'.heap.size))
          clear hat hb hwx
          have hll : decide ((k : Int) < (g.length : Int)) = true := decide_eq_true (by omega)
          have Hba := Lib.hid hba; clear hba
          generalize hy : g[k] = y at *
          have Hy := Lib.hid hy; clear hy
          cases hbf : befB y x with
          | true =>
            rw [hbf] at HBk
            have Hup1 := Lib.hid (upto_step Hup.out (by rw [Hba.out, hbf]))
            clear Hins Hend HD
            go_wp2_with fail
            refine wp_region_held_drew (S := fun w' => Below wr.heap.size wr w' ∧ w'.cell? ⟨b, off + k * 4, none⟩ = some (.int .i64 y.r) ∧ w'.cell? ⟨b, off + k * 4 + 1, none⟩ = some (.int .i64 y.a) ∧ w'.cell? ⟨b, off + k * 4 + 2, none⟩ = some (.slice pa' y.ps.length pc') ∧ w'.cell? ⟨b, off + k * 4 + 3, none⟩ = some (.int .i64 y.d) ∧ w'.cell? ⟨w.heap.size, 0, none⟩ = some (.int .i64 x.r) ∧ w'.cell? ⟨w.heap.size, 1, none⟩ = some (.int .i64 x.a) ∧ w'.cell? ⟨w.heap.size, 2, none⟩ = some (.slice pa x.ps.length pc) ∧ w'.cell? ⟨w.heap.size, 3, none⟩ = some (.int .i64 x.d)) (by kernel_rfl) ⟨hb0, c0, c1, c2, c3, k0, k1, k2, k3⟩ (fun hH => ?_)
            refine takeH 0 (v := ?vd0) rfl (by kernel_rfl) (by kernel_rfl) (by kernel_rfl) (fun _ _ _ h => h) hH rfl ?yd0 ?rd0
            case yd0 => intro W hSw; go_simp; try with_reducible rfl
            try simp only [Act.put, List.setIfInBounds_toArray, List.set_cons_zero, List.set_cons_succ]
            refine takeH 1 (v := ?vd1) rfl (by kernel_rfl) (by kernel_rfl) (by kernel_rfl) (fun _ _ _ h => h) hH rfl ?yd1 ?rd1
            case yd1 => intro W hSw; go_simp; try with_reducible rfl
            try simp only [Act.put, List.setIfInBounds_toArray, List.set_cons_zero, List.set_cons_succ]
            refine takeH 2 (v := ?vd2) rfl (by kernel_rfl) (by kernel_rfl) (by kernel_rfl) (fun _ _ _ h => h) hH rfl ?yd2 ?rd2
            case yd2 => intro W hSw; go_simp; try with_reducible rfl
            try simp only [Act.put, List.setIfInBounds_toArray, List.set_cons_zero, List.set_cons_succ]
            refine takeH 3 (v := .bool true) rfl (by kernel_rfl) (by kernel_rfl) (by kernel_rfl) (fun _ _ _ h => h) hH rfl ?yd3 ?rd3
            case yd3 => intro W hSw; go_simp; first | done | simp only [hll] | omega | (simp; omega)
            try simp only [Act.put, List.setIfInBounds_toArray, List.set_cons_zero, List.set_cons_succ]
            refine takeH 4 (v := ?vd4) rfl (by kernel_rfl) (by kernel_rfl) (by kernel_rfl) (fun _ _ _ h => h) hH rfl ?yd4 ?rd4
            case yd4 => intro W hSw; go_simp; try with_reducible rfl
            try simp only [Act.put, List.setIfInBounds_toArray, List.set_cons_zero, List.set_cons_succ]
            refine takeH 5 (v := ?vd5) rfl (by kernel_rfl) (by kernel_rfl) (by kernel_rfl) (fun _ _ _ h => h) hH rfl ?yd5 ?rd5
            case yd5 => intro W hSw; go_simp; try with_reducible rfl
            try simp only [Act.put, List.setIfInBounds_toArray, List.set_cons_zero, List.set_cons_succ]
            refine takeH 6 (v := ?vd6) rfl (by kernel_rfl) (by kernel_rfl) (by kernel_rfl) (fun _ _ _ h => h) hH rfl ?yd6 ?rd6
            case yd6 => intro W hSw; go_simp; try with_reducible rfl
            try simp only [Act.put, List.setIfInBounds_toArray, List.set_cons_zero, List.set_cons_succ]
            refine takeH 7 (v := ?vd7) rfl (by kernel_rfl) (by kernel_rfl) (by kernel_rfl) (fun _ _ _ h => h) hH rfl ?yd7 ?rd7
            case yd7 => intro W hSw; go_simp; try with_reducible rfl
            try simp only [Act.put, List.setIfInBounds_toArray, List.set_cons_zero, List.set_cons_succ]
            refine takeH 8 (v := ?vd8) rfl (by kernel_rfl) (by kernel_rfl) (by kernel_rfl) (fun _ _ _ h => h) hH rfl ?yd8 ?rd8
            case yd8 => intro W hSw; go_simp; try with_reducible rfl
            try simp only [Act.put, List.setIfInBounds_toArray, List.set_cons_zero, List.set_cons_succ]
            refine takeH 9 (v := ?vd9) rfl (by kernel_rfl) (by kernel_rfl) (by kernel_rfl) (fun _ _ _ h => h) hH rfl ?yd9 ?rd9
            case yd9 => intro W hSw; go_simp; try with_reducible rfl
            try simp only [Act.put, List.setIfInBounds_toArray, List.set_cons_zero, List.set_cons_succ]
            refine callH 10 rfl (by kernel_rfl) rfl (fun K hK => ?_)
            go_simp
            go_at_call 36
            refine (HBk.out _).mono ?_
            rintro e wz ⟨rfl, hbx⟩
            refine hK.out _ _ ⟨hH.1.trans (hbx.mono hH.1.size), (hbx.cell (p := ⟨b, off + k * 4, none⟩) (Hbs.out _ hH.1).1).trans hH.2.1, (hbx.cell (p := ⟨b, off + k * 4 + 1, none⟩) (Hbs.out _ hH.1).1).trans hH.2.2.1, (hbx.cell (p := ⟨b, off + k * 4 + 2, none⟩) (Hbs.out _ hH.1).1).trans hH.2.2.2.1, (hbx.cell (p := ⟨b, off + k * 4 + 3, none⟩) (Hbs.out _ hH.1).1).trans hH.2.2.2.2.1, (hbx.cell (p := ⟨w.heap.size, 0, none⟩) (Hbs.out _ hH.1).2).trans hH.2.2.2.2.2.1, (hbx.cell (p := ⟨w.heap.size, 1, none⟩) (Hbs.out _ hH.1).2).trans hH.2.2.2.2.2.2.1, (hbx.cell (p := ⟨w.heap.size, 2, none⟩) (Hbs.out _ hH.1).2).trans hH.2.2.2.2.2.2.2.1, (hbx.cell (p := ⟨w.heap.size, 3, none⟩) (Hbs.out _ hH.1).2).trans hH.2.2.2.2.2.2.2.2⟩ (fun hH => ?_)
            clear hK K
            try simp only [Act.put, List.setIfInBounds_toArray, List.set_cons_zero, List.set_cons_succ]
            refine takeH 11 (v := ?vd11) rfl (by kernel_rfl) (by kernel_rfl) (by kernel_rfl) (fun _ _ _ h => h) hH rfl ?yd11 ?rd11
            case yd11 => intro W hSw; go_simp; try with_reducible rfl
            try simp only [Act.put, List.setIfInBounds_toArray, List.set_cons_zero, List.set_cons_succ]
            refine wpAnyH_done (by kernel_rfl) ?_ _
            try simp only [Act.put]
            obtain ⟨hbw, c0, c1, c2, c3, _⟩ := hH
            have Hbw := Lib.hid hbw
            have Hone := Lib.hid (HO.out y pa' pc' _ hpy (Hs2.out.under Hi2.out hbw) (Hi2.out.below hbw))
            have hbz := below_step Hbel.out Hbel.out.size hbw
            have hel : ((g.take k).map Vx.fd).length ≤ 1048576 := by simp; omega
            have Hbld := Lib.hid (Hbld.out.below hbw (Nat.le_refl _))
            have hsw := hbw.size
            clear hbw
            generalize (g.take k).map Vx.fd = es at *
            go_wp2_with fail
            refine Hone.out.mono ?_
            rintro e w6 ⟨v2, rfl, hown2, hb6⟩
            obtain ⟨a2, c2', rfl, _, _⟩ := hown2.ints
            have hs6 := hb6.size
            have Hbld6 := Lib.hid (Hbld.out.below hb6 hsw)
            have hbz2 := hbz.size
            obtain ⟨hfd, hap, hnew⟩ := vertex_new (B := w2.heap.size) y.r y.a y.d hown2 hbz2
            have Hfd := Lib.hid hfd; clear hfd
            have Hap := Lib.hid hap; clear hap
            have Hnew := Lib.hid (fun c hc g e => Nat.le_trans hsw (hnew c hc g e)); clear hnew hown2 c0 c1 c2 c3
            have hbz6 := below_step hbz hbz2 hb6
            have hB6 := hbz6.size
            have Hbz6 := Lib.hid hbz6; clear hbz6 hbz hb6
            go_wp2_with (at_builtin; refine wpList_push_own (Ei := 3) Try.underlying24 vertex_inf rfl (by decide) (by decide) rfl (.tmp 56) (.tmp 62) rfl w2.heap.size _ es _ _ _ rfl rfl (by intro u hu; simp at hu; rcases hu with rfl | rfl | rfl | rfl <;> rfl) rfl rfl Hfd.out Hap.out wr.heap.size Hbld6.out (by omega) Hnew.out hel rfl hB6 ?_; intro v8 w8 hbld8 hg8 hat8)
            go_roundw
            case rel => exact ⟨k + 1, by omega, by go_num, Hup1.out, by rw [Hex.out]; exact hbld8, Hbz6.out.grown hg8 hB6 (fun g e => (Hbld6.out.lt g e).1)⟩
            case measure => simp [intOf]; omega
          | false =>
            rw [hbf] at HBk
            have hnk := Hins.out k hlt Hup.out (by rw [Hba.out, hbf])
            clear Hins Hend
            go_wp2_with fail
            refine wp_region_held_drew (S := fun w' => Below wr.heap.size wr w' ∧ w'.cell? ⟨b, off + k * 4, none⟩ = some (.int .i64 y.r) ∧ w'.cell? ⟨b, off + k * 4 + 1, none⟩ = some (.int .i64 y.a) ∧ w'.cell? ⟨b, off + k * 4 + 2, none⟩ = some (.slice pa' y.ps.length pc') ∧ w'.cell? ⟨b, off + k * 4 + 3, none⟩ = some (.int .i64 y.d) ∧ w'.cell? ⟨w.heap.size, 0, none⟩ = some (.int .i64 x.r) ∧ w'.cell? ⟨w.heap.size, 1, none⟩ = some (.int .i64 x.a) ∧ w'.cell? ⟨w.heap.size, 2, none⟩ = some (.slice pa x.ps.length pc) ∧ w'.cell? ⟨w.heap.size, 3, none⟩ = some (.int .i64 x.d)) (by kernel_rfl) ⟨hb0, c0, c1, c2, c3, k0, k1, k2, k3⟩ (fun hH => ?_)
            refine takeH 0 (v := ?ve0) rfl (by kernel_rfl) (by kernel_rfl) (by kernel_rfl) (fun _ _ _ h => h) hH rfl ?ye0 ?re0
            case ye0 => intro W hSw; go_simp; try with_reducible rfl
            try simp only [Act.put, List.setIfInBounds_toArray, List.set_cons_zero, List.set_cons_succ]
            refine takeH 1 (v := ?ve1) rfl (by kernel_rfl) (by kernel_rfl) (by kernel_rfl) (fun _ _ _ h => h) hH rfl ?ye1 ?re1
            case ye1 => intro W hSw; go_simp; try with_reducible rfl
            try simp only [Act.put, List.setIfInBounds_toArray, List.set_cons_zero, List.set_cons_succ]
            refine takeH 2 (v := ?ve2) rfl (by kernel_rfl) (by kernel_rfl) (by kernel_rfl) (fun _ _ _ h => h) hH rfl ?ye2 ?re2
            case ye2 => intro W hSw; go_simp; try with_reducible rfl
            try simp only [Act.put, List.setIfInBounds_toArray, List.set_cons_zero, List.set_cons_succ]
            refine takeH 3 (v := .bool true) rfl (by kernel_rfl) (by kernel_rfl) (by kernel_rfl) (fun _ _ _ h => h) hH rfl ?ye3 ?re3
            case ye3 => intro W hSw; go_simp; first | done | simp only [hll] | omega | (simp; omega)
            try simp only [Act.put, List.setIfInBounds_toArray, List.set_cons_zero, List.set_cons_succ]
            refine takeH 4 (v := ?ve4) rfl (by kernel_rfl) (by kernel_rfl) (by kernel_rfl) (fun _ _ _ h => h) hH rfl ?ye4 ?re4
            case ye4 => intro W hSw; go_simp; try with_reducible rfl
            try simp only [Act.put, List.setIfInBounds_toArray, List.set_cons_zero, List.set_cons_succ]
            refine takeH 5 (v := ?ve5) rfl (by kernel_rfl) (by kernel_rfl) (by kernel_rfl) (fun _ _ _ h => h) hH rfl ?ye5 ?re5
            case ye5 => intro W hSw; go_simp; try with_reducible rfl
            try simp only [Act.put, List.setIfInBounds_toArray, List.set_cons_zero, List.set_cons_succ]
            refine takeH 6 (v := ?ve6) rfl (by kernel_rfl) (by kernel_rfl) (by kernel_rfl) (fun _ _ _ h => h) hH rfl ?ye6 ?re6
            case ye6 => intro W hSw; go_simp; try with_reducible rfl
            try simp only [Act.put, List.setIfInBounds_toArray, List.set_cons_zero, List.set_cons_succ]
            refine takeH 7 (v := ?ve7) rfl (by kernel_rfl) (by kernel_rfl) (by kernel_rfl) (fun _ _ _ h => h) hH rfl ?ye7 ?re7
            case ye7 => intro W hSw; go_simp; try with_reducible rfl
            try simp only [Act.put, List.setIfInBounds_toArray, List.set_cons_zero, List.set_cons_succ]
            refine takeH 8 (v := ?ve8) rfl (by kernel_rfl) (by kernel_rfl) (by kernel_rfl) (fun _ _ _ h => h) hH rfl ?ye8 ?re8
            case ye8 => intro W hSw; go_simp; try with_reducible rfl
            try simp only [Act.put, List.setIfInBounds_toArray, List.set_cons_zero, List.set_cons_succ]
            refine takeH 9 (v := ?ve9) rfl (by kernel_rfl) (by kernel_rfl) (by kernel_rfl) (fun _ _ _ h => h) hH rfl ?ye9 ?re9
            case ye9 => intro W hSw; go_simp; try with_reducible rfl
            try simp only [Act.put, List.setIfInBounds_toArray, List.set_cons_zero, List.set_cons_succ]
            refine callH 10 rfl (by kernel_rfl) rfl (fun K hK => ?_)
            go_simp
            go_at_call 36
            refine (HBk.out _).mono ?_
            rintro e wz ⟨rfl, hbx⟩
            refine hK.out _ _ ⟨hH.1.trans (hbx.mono hH.1.size), (hbx.cell (p := ⟨b, off + k * 4, none⟩) (Hbs.out _ hH.1).1).trans hH.2.1, (hbx.cell (p := ⟨b, off + k * 4 + 1, none⟩) (Hbs.out _ hH.1).1).trans hH.2.2.1, (hbx.cell (p := ⟨b, off + k * 4 + 2, none⟩) (Hbs.out _ hH.1).1).trans hH.2.2.2.1, (hbx.cell (p := ⟨b, off + k * 4 + 3, none⟩) (Hbs.out _ hH.1).1).trans hH.2.2.2.2.1, (hbx.cell (p := ⟨w.heap.size, 0, none⟩) (Hbs.out _ hH.1).2).trans hH.2.2.2.2.2.1, (hbx.cell (p := ⟨w.heap.size, 1, none⟩) (Hbs.out _ hH.1).2).trans hH.2.2.2.2.2.2.1, (hbx.cell (p := ⟨w.heap.size, 2, none⟩) (Hbs.out _ hH.1).2).trans hH.2.2.2.2.2.2.2.1, (hbx.cell (p := ⟨w.heap.size, 3, none⟩) (Hbs.out _ hH.1).2).trans hH.2.2.2.2.2.2.2.2⟩ (fun hH => ?_)
            clear hK K
            try simp only [Act.put, List.setIfInBounds_toArray, List.set_cons_zero, List.set_cons_succ]
            refine takeH 11 (v := ?ve11) rfl (by kernel_rfl) (by kernel_rfl) (by kernel_rfl) (fun _ _ _ h => h) hH rfl ?ye11 ?re11
            case ye11 => intro W hSw; go_simp; try with_reducible rfl
            try simp only [Act.put, List.setIfInBounds_toArray, List.set_cons_zero, List.set_cons_succ]
            refine wpAnyH_done (by kernel_rfl) ?_ _
            try simp only [Act.put]
            have hbw := hH.1
            clear hH
            have Hbz := Lib.hid (below_step Hbel.out Hbel.out.size hbw)
            have Hbldz := Lib.hid (Hbld.out.below hbw (Nat.le_refl _))
            have hrz := hbw.size
            clear hbw c0 c1 c2 c3 HBk Hbs Hex Hbld
            have Hbld := Hbldz
            generalize (some (⟨b, off, none⟩ : Addr)) = va at *
            have hlk : ((g.take k).map Vx.fd).length = k := by simp; omega
            have hel : ((g.take k).map Vx.fd).length ≤ 1048576 := by omega
            obtain ⟨au, cu, rfl, _⟩ := Hbld.out.slice
            have Hlk := Lib.hid hlk
            rw [hlk] at Hbldz
            clear hlk hel Hbld
            have sx := HX.out wz Hbz.out
            have k0 := sx.cell 0 (v := .int .i64 x.r) rfl
            have k1 := sx.cell 1 (v := .int .i64 x.a) rfl
            have k2 := sx.cell 2 (v := .slice pa x.ps.length pc) rfl
            have k3 := sx.cell 3 (v := .int .i64 x.d) rfl
            clear sx
            have hbz0 := Hb2.out.trans (Hbz.out.mono Hb2.out.size)
            have Hbz0 := Lib.hid hbz0; clear hbz0
            obtain ⟨hsz1, hsz2⟩ := Hsrc.out wz Hbz0.out
            have Hone := Lib.hid (HO.out x pa pc wz hbp hsz1 hsz2); clear hsz1 hsz2
            have Hex := Lib.hid (show (insG g x).map Vx.fd = ((g.take k).map Vx.fd ++ [[.i x.r, .i x.a, .l x.ps, .i x.d]]) ++ (g.drop k).map Vx.fd by unfold insG; rw [hnk, List.map_append, List.map_append]; rfl)
            have hdl : (g.drop k).length = g.length - k := List.length_drop
            rw [Hlk.out]
            generalize (g.take k).map Vx.fd = es at *
            go_wp2_with fail
            refine Hone.out.mono ?_
            rintro e w7 ⟨v7, rfl, hown7, hb7⟩
            obtain ⟨a7, c7, rfl, _, _⟩ := hown7.ints
            have hs7 := hb7.size
            have hbz2 := Hbz.out.size
            have Hbld7 := Lib.hid ((Hbldz.out.below hb7 hrz))
            obtain ⟨hfd, hap, hnew⟩ := vertex_new (B := w2.heap.size) x.r x.a x.d hown7 hbz2
            have Hfd := Lib.hid hfd; clear hfd
            have Hap := Lib.hid hap; clear hap
            have Hnew := Lib.hid (fun c hc g e => Nat.le_trans hrz (hnew c hc g e)); clear hnew hown7 k0 k1 k2 k3
            have Hbz7 := Lib.hid (below_step Hbz.out Hbz.out.size hb7); clear hb7
            have hB7 : w2.heap.size ≤ w7.heap.size := by omega
            have hlk := Hlk.out
            have hel : es.length ≤ 1048576 := by omega
            clear hlk
            obtain ⟨ad2, hif⟩ : ∃ ad2, (if vc = k then va else va.map fun x => x.add (k * 4)) = ad2 := ⟨_, rfl⟩
            go_wp2_with (at_builtin; refine wpList_push_own (Ei := 3) Try.underlying24 vertex_inf rfl (by decide) (by decide) rfl (.tmp 66) (.tmp 69) rfl w2.heap.size _ es _ _ _ rfl rfl (by intro u hu; simp at hu; rcases hu with rfl | rfl | rfl | rfl <;> rfl) rfl rfl Hfd.out Hap.out wr.heap.size Hbld7.out (by omega) Hnew.out hel rfl hB7 ?_; intro v8 w8 hbld8 hg8 hat8)
            have hown8 := hbld8
            obtain ⟨a8, c8, rfl, hm8⟩ := hown8.slice
            have hl8 : (es ++ [[Fd.i x.r, .i x.a, .l x.ps, .i x.d]]).length = k + 1 := by rw [List.length_append, Hlk.out]; rfl
            rw [hl8] at hbld8 ⊢
            clear hm8 hl8
            have Hbz8 := Lib.hid (Hbz7.out.grown hg8 hB7 (fun g e => (Hbld7.out.lt g e).1))
            have Hbld8 := Lib.hid hbld8; clear hbld8 hown8 hg8 hat8 Hfd Hap Hnew
            have hgr := Hg.out.under (Hb2.out.trans (Hbz8.out.mono Hb2.out.size))
            have hB8 := Hbz8.out.size
            obtain ⟨fp2, hgr2⟩ := hgr.tail k hk
            rw [hif] at hgr2
            have Hcopy := Lib.hid (HD.out k _ fp2 w8 hgr2); clear hgr2 hgr HD hif
            refine Hcopy.out.mono ?_
            rintro e w9 ⟨u9, rfl, ho9, hb9⟩
            have Hbld9 := Lib.hid (Hbld8.out.below hb9 (Nat.le_refl _))
            have Ho9 := Lib.hid ho9; clear ho9
            have hs9 := hb9.size
            have Hbz9 := Lib.hid (below_step Hbz8.out hB8 hb9); clear hb9
            have hB9 : w2.heap.size ≤ w9.heap.size := by omega
            have hmm : (es ++ [[Fd.i x.r, .i x.a, .l x.ps, .i x.d]]).length + ((g.drop k).map Vx.fd).length ≤ 2097152 := by rw [List.length_append, List.length_map, hdl, Hlk.out]; simp; omega
            go_wp2_with (at_builtin; refine wpList_app_own (Ei := 3) Try.underlying24 vertex_inf rfl (by decide) (by decide) rfl (.tmp 71) (.tmp 75) rfl w2.heap.size _ u9 _ _ rfl w8.heap.size w8.heap.size w9.heap.size Hbld9.out Ho9.out (Nat.le_refl _) (Nat.le_refl _) hB8 hmm rfl hB9 ?_; intro v10 w10 hbld10 hg10)
            go_ret2
            exact ⟨_, by rw [Hz1.out]; rfl, by rw [Hz2.out, Hex.out]; exact hbld10.from (by omega), Hb0.out.trans ((Hb2.out.trans ((Hbz9.out.grown hg10 hB9 (fun g e => (Hbld9.out.lt g e).1)).mono Hb2.out.size)).mono (by omega))⟩
        · have hnk := Hend.out k Hup.out (by omega)
          have hll : decide ((k : Int) < (g.length : Int)) = false := decide_eq_false (by omega)
          have hb0 : Below wr.heap.size wr wr.drew := (Below.refl _ _).drew
          clear Hins Hend
          go_wp2_with fail
          refine wp_region_held_drew (S := fun w' => Below wr.heap.size wr w' ∧ w'.cell? ⟨w.heap.size, 0, none⟩ = some (.int .i64 x.r) ∧ w'.cell? ⟨w.heap.size, 1, none⟩ = some (.int .i64 x.a) ∧ w'.cell? ⟨w.heap.size, 2, none⟩ = some (.slice pa x.ps.length pc) ∧ w'.cell? ⟨w.heap.size, 3, none⟩ = some (.int .i64 x.d)) (by kernel_rfl) ⟨hb0, k0, k1, k2, k3⟩ (fun hH => ?_)
          refine takeH 0 (v := ?vf0) rfl (by kernel_rfl) (by kernel_rfl) (by kernel_rfl) (fun _ _ _ h => h) hH rfl ?yf0 ?rf0
          case yf0 => intro W hSw; go_simp; try with_reducible rfl
          try simp only [Act.put, List.setIfInBounds_toArray, List.set_cons_zero, List.set_cons_succ]
          refine takeH 1 (v := ?vf1) rfl (by kernel_rfl) (by kernel_rfl) (by kernel_rfl) (fun _ _ _ h => h) hH rfl ?yf1 ?rf1
          case yf1 => intro W hSw; go_simp; try with_reducible rfl
          try simp only [Act.put, List.setIfInBounds_toArray, List.set_cons_zero, List.set_cons_succ]
          refine takeH 2 (v := ?vf2) rfl (by kernel_rfl) (by kernel_rfl) (by kernel_rfl) (fun _ _ _ h => h) hH rfl ?yf2 ?rf2
          case yf2 => intro W hSw; go_simp; try with_reducible rfl
          try simp only [Act.put, List.setIfInBounds_toArray, List.set_cons_zero, List.set_cons_succ]
          refine takeH 3 (v := .bool false) rfl (by kernel_rfl) (by kernel_rfl) (by kernel_rfl) (fun _ _ _ h => h) hH rfl ?yf3 ?rf3
          case yf3 => intro W hSw; go_simp; first | done | simp only [hll] | omega | (simp; omega)
          try simp only [Act.put, List.setIfInBounds_toArray, List.set_cons_zero, List.set_cons_succ]
          refine takeH 4 (v := ?vf4) rfl (by kernel_rfl) (by kernel_rfl) (by kernel_rfl) (fun _ _ _ h => h) hH rfl ?yf4 ?rf4
          case yf4 => intro W hSw; go_simp; try with_reducible rfl
          try simp only [Act.put, List.setIfInBounds_toArray, List.set_cons_zero, List.set_cons_succ]
          refine skipH 5 rfl (by kernel_rfl) (by kernel_rfl) (by kernel_rfl) (fun _ _ _ h => h) hH rfl ?_
          try simp only [Act.put, List.setIfInBounds_toArray, List.set_cons_zero, List.set_cons_succ]
          refine skipH 6 rfl (by kernel_rfl) (by kernel_rfl) (by kernel_rfl) (fun _ _ _ h => h) hH rfl ?_
          try simp only [Act.put, List.setIfInBounds_toArray, List.set_cons_zero, List.set_cons_succ]
          refine skipH 7 rfl (by kernel_rfl) (by kernel_rfl) (by kernel_rfl) (fun _ _ _ h => h) hH rfl ?_
          try simp only [Act.put, List.setIfInBounds_toArray, List.set_cons_zero, List.set_cons_succ]
          refine skipH 8 rfl (by kernel_rfl) (by kernel_rfl) (by kernel_rfl) (fun _ _ _ h => h) hH rfl ?_
          try simp only [Act.put, List.setIfInBounds_toArray, List.set_cons_zero, List.set_cons_succ]
          refine skipH 9 rfl (by kernel_rfl) (by kernel_rfl) (by kernel_rfl) (fun _ _ _ h => h) hH rfl ?_
          try simp only [Act.put, List.setIfInBounds_toArray, List.set_cons_zero, List.set_cons_succ]
          refine skipH 10 rfl (by kernel_rfl) (by kernel_rfl) (by kernel_rfl) (fun _ _ _ h => h) hH rfl ?_
          try simp only [Act.put, List.setIfInBounds_toArray, List.set_cons_zero, List.set_cons_succ]
          refine takeH 11 (v := ?vf11) rfl (by kernel_rfl) (by kernel_rfl) (by kernel_rfl) (fun _ _ _ h => h) hH rfl ?yf11 ?rf11
          case yf11 => intro W hSw; go_simp; try with_reducible rfl
          try simp only [Act.put, List.setIfInBounds_toArray, List.set_cons_zero, List.set_cons_succ]
          refine wpAnyH_done (by kernel_rfl) ?_ _
          try simp only [Act.put]
          have hbw := hH.1
          clear hH hb0 k0 k1 k2 k3
          generalize wr.drew = wz at *
          have Hbz := Lib.hid (below_step Hbel.out Hbel.out.size hbw)
          have Hbldz := Lib.hid (Hbld.out.below hbw (Nat.le_refl _))
          have hrz := hbw.size
          clear hbw Hbld
          have Hbld := Hbldz
          have hlk : ((g.take k).map Vx.fd).length = k := by simp; omega
          have hel : ((g.take k).map Vx.fd).length ≤ 1048576 := by omega
          obtain ⟨au, cu, rfl, _⟩ := Hbld.out.slice
          have Hlk := Lib.hid hlk
          rw [hlk] at Hbldz
          clear hlk hel Hbld
          have sx := HX.out wz Hbz.out
          have k0 := sx.cell 0 (v := .int .i64 x.r) rfl
          have k1 := sx.cell 1 (v := .int .i64 x.a) rfl
          have k2 := sx.cell 2 (v := .slice pa x.ps.length pc) rfl
          have k3 := sx.cell 3 (v := .int .i64 x.d) rfl
          clear sx
          have hbz0 := Hb2.out.trans (Hbz.out.mono Hb2.out.size)
          have Hbz0 := Lib.hid hbz0; clear hbz0
          obtain ⟨hsz1, hsz2⟩ := Hsrc.out wz Hbz0.out
          have Hone := Lib.hid (HO.out x pa pc wz hbp hsz1 hsz2); clear hsz1 hsz2
          have Hex := Lib.hid (show (insG g x).map Vx.fd = ((g.take k).map Vx.fd ++ [[.i x.r, .i x.a, .l x.ps, .i x.d]]) ++ (g.drop k).map Vx.fd by unfold insG; rw [hnk, List.map_append, List.map_append]; rfl)
          have hdl : (g.drop k).length = g.length - k := List.length_drop
          rw [Hlk.out]
          generalize (g.take k).map Vx.fd = es at *
          go_wp2_with fail
          refine Hone.out.mono ?_
          rintro e w7 ⟨v7, rfl, hown7, hb7⟩
          obtain ⟨a7, c7, rfl, _, _⟩ := hown7.ints
          have hs7 := hb7.size
          have hbz2 := Hbz.out.size
          have Hbld7 := Lib.hid ((Hbldz.out.below hb7 hrz))
          obtain ⟨hfd, hap, hnew⟩ := vertex_new (B := w2.heap.size) x.r x.a x.d hown7 hbz2
          have Hfd := Lib.hid hfd; clear hfd
          have Hap := Lib.hid hap; clear hap
          have Hnew := Lib.hid (fun c hc g e => Nat.le_trans hrz (hnew c hc g e)); clear hnew hown7 k0 k1 k2 k3
          have Hbz7 := Lib.hid (below_step Hbz.out Hbz.out.size hb7); clear hb7
          have hB7 : w2.heap.size ≤ w7.heap.size := by omega
          have hlk := Hlk.out
          have hel : es.length ≤ 1048576 := by omega
          clear hlk
          obtain ⟨ad2, hif⟩ : ∃ ad2, (if vc = k then va else va.map fun x => x.add (k * 4)) = ad2 := ⟨_, rfl⟩
          go_wp2_with (at_builtin; refine wpList_push_own (Ei := 3) Try.underlying24 vertex_inf rfl (by decide) (by decide) rfl (.tmp 66) (.tmp 69) rfl w2.heap.size _ es _ _ _ rfl rfl (by intro u hu; simp at hu; rcases hu with rfl | rfl | rfl | rfl <;> rfl) rfl rfl Hfd.out Hap.out wr.heap.size Hbld7.out (by omega) Hnew.out hel rfl hB7 ?_; intro v8 w8 hbld8 hg8 hat8)
          have hown8 := hbld8
          obtain ⟨a8, c8, rfl, hm8⟩ := hown8.slice
          have hl8 : (es ++ [[Fd.i x.r, .i x.a, .l x.ps, .i x.d]]).length = k + 1 := by rw [List.length_append, Hlk.out]; rfl
          rw [hl8] at hbld8 ⊢
          clear hm8 hl8
          have Hbz8 := Lib.hid (Hbz7.out.grown hg8 hB7 (fun g e => (Hbld7.out.lt g e).1))
          have Hbld8 := Lib.hid hbld8; clear hbld8 hown8 hg8 hat8 Hfd Hap Hnew
          have hgr := Hg.out.under (Hb2.out.trans (Hbz8.out.mono Hb2.out.size))
          have hB8 := Hbz8.out.size
          obtain ⟨fp2, hgr2⟩ := hgr.tail k hk
          rw [hif] at hgr2
          have Hcopy := Lib.hid (HD.out k _ fp2 w8 hgr2); clear hgr2 hgr HD hif
          refine Hcopy.out.mono ?_
          rintro e w9 ⟨u9, rfl, ho9, hb9⟩
          have Hbld9 := Lib.hid (Hbld8.out.below hb9 (Nat.le_refl _))
          have Ho9 := Lib.hid ho9; clear ho9
          have hs9 := hb9.size
          have Hbz9 := Lib.hid (below_step Hbz8.out hB8 hb9); clear hb9
          have hB9 : w2.heap.size ≤ w9.heap.size := by omega
          have hmm : (es ++ [[Fd.i x.r, .i x.a, .l x.ps, .i x.d]]).length + ((g.drop k).map Vx.fd).length ≤ 2097152 := by rw [List.length_append, List.length_map, hdl, Hlk.out]; simp; omega
          go_wp2_with (at_builtin; refine wpList_app_own (Ei := 3) Try.underlying24 vertex_inf rfl (by decide) (by decide) rfl (.tmp 71) (.tmp 75) rfl w2.heap.size _ u9 _ _ rfl w8.heap.size w8.heap.size w9.heap.size Hbld9.out Ho9.out (Nat.le_refl _) (Nat.le_refl _) hB8 hmm rfl hB9 ?_; intro v10 w10 hbld10 hg10)
          go_ret2
          exact ⟨_, by rw [Hz1.out]; rfl, by rw [Hz2.out, Hex.out]; exact hbld10.from (by omega), Hb0.out.trans ((Hb2.out.trans ((Hbz9.out.grown hg10 hB9 (fun g e => (Hbld9.out.lt g e).1)).mono Hb2.out.size)).mono (by omega))⟩

end Go.Proofs.Ytejpoeejhmgphaa
