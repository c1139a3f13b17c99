/- Texts that the laws of this folder share, one behind another; no conditions. -/
import Derived.Test.YthnbjdijcpcafaaRows
import Derived.Test.YthnbjdijcpcafaaBu1
import Derived.Test.YthnbjdijcpcafaaBu0
import Derived.Deep.RegionHeld3
import Derived.Deep.QuietTactic
import Derived.BigQuiet
import Derived.WalkSpells

/- The reference's adding of a vertex to a graph: l11Add and GraphAdd, each by a walk of its text; conditions: lists are shorter than 2^40 (a graph: 2^20), and where the text asks it, the committee, the graph and the vertex are valid. -/
namespace Go.Proofs.Ythnbjdijcpcafaa
open Go.RowKit

/-- Where a vertex belongs. -/
def insN (g : List Vx) (x : Vx) : Nat := g.findIdx fun y => !befB y x
def insG (g : List Vx) (x : Vx) : List Vx := (g.take (insN g x) ++ [x]) ++ g.drop (insN g x)
/-- The code of an addition. -/
def addN (g : List Vx) (x : Vx) : Int := if 0 ≤ findZ g x.r x.a then (if sameB (g.getD (findZ g x.r x.a).toNat vx0) x = true then 1 else 2) else if parB g x = true then 0 else 3
def addG (g : List Vx) (x : Vx) : List Vx := if addN g x = 0 then insG g x else g
def befAt (g : List Vx) (x : Vx) (k : Nat) : Bool := befB (g.getD k vx0) x
theorem insN_end {g : List Vx} {x : Vx} {n : Nat} (h : Upto (befAt g x) n) (hn : g.length = n) : insN g x = n := by
  subst hn
  refine List.findIdx_eq_length.2 fun y hy => ?_
  obtain ⟨k, hk, rfl⟩ := List.mem_iff_getElem.1 hy
  have := h k hk
  unfold befAt at this
  rw [getV hk] at this
  simp [this]
theorem insN_at {g : List Vx} {x : Vx} {k : Nat} (hk : k < g.length) (h : Upto (befAt g x) k) (hb : befAt g x k = false) : insN g x = k := by
  refine (List.findIdx_eq hk).2 ⟨?_, fun j hj => ?_⟩
  · unfold befAt at hb; rw [getV hk] at hb; simp [hb]
  · have := h j hj
    unfold befAt at this
    rw [getV (by omega)] at this
    simp [this]
theorem addN_same {g : List Vx} {x : Vx} {k : Nat} (hk : k < g.length) (h : findZ g x.r x.a = k) (hs : sameB g[k] x = true) : addN g x = 1 ∧ addG g x = g := by
  have : addN g x = 1 := by unfold addN; rw [h, if_pos (by omega), Int.toNat_natCast, getV hk, if_pos hs]
  exact ⟨this, by unfold addG; rw [this]; rfl⟩
theorem addN_twice {g : List Vx} {x : Vx} {k : Nat} (hk : k < g.length) (h : findZ g x.r x.a = k) (hs : sameB g[k] x = false) : addN g x = 2 ∧ addG g x = g := by
  have : addN g x = 2 := by unfold addN; rw [h, if_pos (by omega), Int.toNat_natCast, getV hk, if_neg (by simp [hs])]
  exact ⟨this, by unfold addG; rw [this]; rfl⟩
theorem addN_miss {g : List Vx} {x : Vx} (h : findZ g x.r x.a = -1) (hp : parB g x = false) : addN g x = 3 ∧ addG g x = g := by
  have : addN g x = 3 := by unfold addN; rw [h, if_neg (by omega), if_neg (by simp [hp])]
  exact ⟨this, by unfold addG; rw [this]; rfl⟩
theorem addN_done {g : List Vx} {x : Vx} (h : findZ g x.r x.a = -1) (hp : parB g x = true) : addN g x = 0 ∧ addG g x = insG g x := by
  have : addN g x = 0 := by unfold addN; rw [h, if_neg (by omega), if_pos hp]
  exact ⟨this, by unfold addG; rw [this]; rfl⟩

/-- The tail of a graph, and where it lies. -/
theorem Gr.tail {w : World} {g : List Vx} {va : Option Addr} {vc : Nat} {fp : List Nat} (h : Gr w g (.slice va g.length vc) fp) (k : Nat) (hk : k ≤ g.length) :
    ∃ fp2, Gr w (g.drop k) (.slice (if vc = k then va else va.map fun x => x.add (k * 4)) (g.length - k) (vc - k)) fp2 := by
  cases va with
  | none =>
    have hc0 := Rd.nilcap h
    have hg0 : g.length = 0 := by
      rcases Nat.eq_zero_or_pos g.length with h0 | h0
      · exact h0
      · obtain ⟨_, _, e, _⟩ := h.at h0; cases e
    have hk0 : k = 0 := by omega
    have hgn : g = [] := List.eq_nil_of_length_eq_zero hg0
    subst hgn hk0
    exact ⟨[], .nil _ _ (fun _ => by omega)⟩
  | some av =>
    rcases Nat.eq_zero_or_pos g.length with h0 | h0
    · have hgn : g = [] := List.eq_nil_of_length_eq_zero h0
      subst hgn
      have hk0 : k = 0 := by simp at hk; omega
      subst hk0
      exact ⟨[], .nil _ _ (fun e => by split at e <;> cases e)⟩
    · obtain ⟨b, off, e, _⟩ := h.at h0
      cases e
      obtain ⟨o2, hif, fp2, hr2, _⟩ := Rd.tail h (sz := 4) (by intro e he; obtain ⟨e', he', rfl⟩ := List.mem_map.1 he; obtain ⟨y, _, rfl⟩ := List.mem_map.1 he'; rfl) k (by simp; omega)
      refine ⟨fp2, ?_⟩
      have e2 : (if vc = k then some (⟨b, off, none⟩ : Addr) else (some (⟨b, off, none⟩ : Addr)).map fun x => x.add (k * 4)) = some ⟨b, o2, none⟩ := by
        rw [← hif, Option.map_some, addr_add']
      rw [e2]
      unfold Gr rowsD
      rw [List.map_drop, List.map_drop]
      simpa using hr2

set_option maxHeartbeats 2000000 in
theorem spec_l11Add (g : List Vx) (v : Value) (fp : List Nat) (x : Vx) (pa : Option Addr) (pc : Nat) (w : World) (hbig : g.length ≤ 1048576) (hps : ∀ y ∈ g, y.ps.length ≤ 1099511627776) (hbp : x.ps.length ≤ 1099511627776) (hr0 : 0 ≤ x.r) (hr1 : x.r ≤ 1099511627776) (hg : Gr w g v fp) (hs : SrcAt w pa pc x.ps) (hi : IntsAt w pa x.ps) :
    Calls Try.prog 39 #[v, .agg #[.int .i64 x.r, .int .i64 x.a, .slice pa x.ps.length pc, .int .i64 x.d]] w fun e w' => ∃ u, e = .returned (.tuple #[u, .int .i64 (addN g x)]) ∧ OwnR 25 3 4 w' w.heap.size w'.heap.size u ((addG g x).map Vx.fd) ∧ Below w.heap.size w w' := by
  have hb0 : Below w.heap.size w (w.alloc (.cells #[.int .i64 x.r, .int .i64 x.a, .slice pa x.ps.length pc, .int .i64 x.d] 25)) := (Below.refl _ _).alloc (Nat.le_refl _) _
  have s0 := Str.new w 25 #[.int .i64 x.r, .int .i64 x.a, .slice pa x.ps.length pc, .int .i64 x.d]
  have hsz0 : (w.alloc (.cells #[.int .i64 x.r, .int .i64 x.a, .slice pa x.ps.length pc, .int .i64 x.d] 25)).heap.size = w.heap.size + 1 := by simp
  have hsrc : ∀ W, Below (w.alloc (.cells #[.int .i64 x.r, .int .i64 x.a, .slice pa x.ps.length pc, .int .i64 x.d] 25)).heap.size (w.alloc (.cells #[.int .i64 x.r, .int .i64 x.a, .slice pa x.ps.length pc, .int .i64 x.d] 25)) W → SrcAt W pa pc x.ps ∧ IntsAt W pa x.ps := by
    intro W hW
    have hbW := hb0.trans (hW.mono (by omega))
    exact ⟨hs.under hi hbW, hi.below hbW⟩
  have Hg := Lib.hid (hg.under hb0); clear hg
  have Hsrc := Lib.hid hsrc; clear hsrc hs hi
  have Hb0 := Lib.hid hb0; clear hb0
  have Hs0 := Lib.hid s0; clear s0
  have HP := Lib.hid hps; clear hps
  have HF := Lib.hid (fun W (h : Gr W g v fp) => spec_l11Find g v fp x.r x.a W (by omega) h)
  have HC := Lib.hid (fun W (h : Gr W g v fp) => spec_l11Copy g v fp W (by omega) HP.out h)
  have hin : ∀ (n : Nat), (∀ y ∈ g.drop n, y.ps.length ≤ 1099511627776) := fun n y hy => HP.out y (List.mem_of_mem_drop hy)
  have HD := Lib.hid (fun n u fp' W (h : Gr W (g.drop n) u fp') => spec_l11Copy (g.drop n) u fp' W (by rw [List.length_drop]; omega) (hin n) h)
  clear hin
  have HQ := Lib.hid (fun W (h : Gr W g v fp) (h' : IntsAt W pa x.ps) => spec_l11Parents g v fp x.r x.a x.d pa pc x.ps W (by omega) hbp hr0 hr1 h h')
  have HS := Lib.hid (fun (y : Vx) (pa' : Option Addr) (pc' : Nat) W (hy : y.ps.length ≤ 1099511627776) (h : IntsAt W pa' y.ps) (h' : IntsAt W pa x.ps) => spec_l11Same y x pa' pa pc' pc W hy hbp h h')
  have HO := Lib.hid (fun (y : Vx) (pa' : Option Addr) (pc' : Nat) W (hy : y.ps.length ≤ 1099511627776) (h : SrcAt W pa' pc' y.ps) (h' : IntsAt W pa' y.ps) => spec_l11One y.r y.a y.d pa' pc' y.ps W hy h h')
  have HB := Lib.hid (fun (y : Vx) (pa' : Option Addr) (pc' : Nat) W => spec_l11Before y x pa' pa pc' pc W)
  obtain ⟨va, vc, rfl⟩ := Hg.out.slice
  have k0 := Hs0.out.cell 0 (v := .int .i64 x.r) rfl
  have k1 := Hs0.out.cell 1 (v := .int .i64 x.a) rfl
  have k2 := Hs0.out.cell 2 (v := .slice pa x.ps.length pc) rfl
  have k3 := Hs0.out.cell 3 (v := .int .i64 x.d) rfl
  have Hfc := Lib.hid (findZ_cases g x.r x.a)
  have HA1 := Lib.hid (fun k hk => addN_same (g := g) (x := x) (k := k) hk)
  have HA2 := Lib.hid (fun k hk => addN_twice (g := g) (x := x) (k := k) hk)
  have HA3 := Lib.hid (addN_miss (g := g) (x := x))
  have HA4 := Lib.hid (addN_done (g := g) (x := x))
  go_enter Try.func39, Try.ntmps39
  go_wp2_with fail
  generalize w.alloc (.cells #[.int .i64 x.r, .int .i64 x.a, .slice pa x.ps.length pc, .int .i64 x.d] 25) = W0 at *
  refine (HF.out W0 Hg.out).mono ?_
  rintro e w1 ⟨rfl, rfl⟩
  rcases Hfc.out with ⟨hz, hno⟩ | ⟨k, hlt, hz, hsame, hbef⟩
  case inr =>
    clear hsame hbef
    have Hz := Lib.hid hz; clear hz
    rw [Hz.out]
    obtain ⟨b, off, rfl, hb, hat⟩ := Hg.out.at (by omega)
    obtain ⟨c0, c1, ⟨pa', pc', c2, i2, _⟩, c3⟩ := hat k hlt
    have hpy := HP.out _ (List.getElem_mem hlt)
    have HS1 := Lib.hid (fun W => HS.out (g[k]'hlt) pa' pc' W hpy)
    have HA1 := Lib.hid (fun h => HA1.out k hlt Hz.out h)
    have HA2 := Lib.hid (fun h => HA2.out k hlt Hz.out h)
    clear hat hpy HS HO HB HD HQ HA3 HA4
    generalize g[k] = y at *
    have hb0 : Below W0.heap.size W0 W0.drew := (Below.refl _ _).drew
    have Hbs := Lib.hid (fun w' (h : Below W0.heap.size W0 w') => (⟨Nat.lt_of_lt_of_le hb h.size, Nat.lt_of_lt_of_le Hs0.out.lt h.size⟩ : b < w'.heap.size ∧ w.heap.size < w'.heap.size))
    have Hi2 := Lib.hid i2; clear i2
    have hge : decide ((0 : Int) ≤ (k : Int)) = true := decide_eq_true (by omega)
    cases hsb : sameB y x with
    | true =>
      rw [hsb] at HS1
      obtain ⟨hz1, hz2⟩ := HA1.out hsb
      have Hz1 := Lib.hid hz1
      have Hz2 := Lib.hid hz2
      clear HA1 HA2 hz1 hz2
      go_wp2_with fail
      refine wp_region_held_drew (S := fun w' => Below W0.heap.size W0 w' ∧ w'.cell? ⟨b, off + k * 4, none⟩ = some (.int .i64 y.r) ∧ w'.cell? ⟨b, off + k * 4 + 1, none⟩ = some (.int .i64 y.a) ∧ w'.cell? ⟨b, off + k * 4 + 2, none⟩ = some (.slice pa' y.ps.length pc') ∧ w'.cell? ⟨b, off + k * 4 + 3, none⟩ = some (.int .i64 y.d) ∧ w'.cell? ⟨w.heap.size, 0, none⟩ = some (.int .i64 x.r) ∧ w'.cell? ⟨w.heap.size, 1, none⟩ = some (.int .i64 x.a) ∧ w'.cell? ⟨w.heap.size, 2, none⟩ = some (.slice pa x.ps.length pc) ∧ w'.cell? ⟨w.heap.size, 3, none⟩ = some (.int .i64 x.d)) (by kernel_rfl) ⟨hb0, c0, c1, c2, c3, k0, k1, k2, k3⟩ (fun hH => ?_)
      refine takeH 0 (v := ?va0) rfl (by kernel_rfl) (by kernel_rfl) (by kernel_rfl) (fun _ _ _ h => h) hH rfl ?ya0 ?ra0
      case ya0 => intro W hSw; go_simp; try with_reducible rfl
      try simp only [Act.put, List.setIfInBounds_toArray, List.set_cons_zero, List.set_cons_succ]
      refine takeH 1 (v := .bool true) rfl (by kernel_rfl) (by kernel_rfl) (by kernel_rfl) (fun _ _ _ h => h) hH rfl ?ya1 ?ra1
      case ya1 => intro W hSw; go_simp; first | done | simp only [hge] | omega | (simp; omega)
      try simp only [Act.put, List.setIfInBounds_toArray, List.set_cons_zero, List.set_cons_succ]
      refine takeH 2 (v := ?va2) rfl (by kernel_rfl) (by kernel_rfl) (by kernel_rfl) (fun _ _ _ h => h) hH rfl ?ya2 ?ra2
      case ya2 => intro W hSw; go_simp; try with_reducible rfl
      try simp only [Act.put, List.setIfInBounds_toArray, List.set_cons_zero, List.set_cons_succ]
      refine takeH 3 (v := ?va3) rfl (by kernel_rfl) (by kernel_rfl) (by kernel_rfl) (fun _ _ _ h => h) hH rfl ?ya3 ?ra3
      case ya3 => intro W hSw; go_simp; try with_reducible rfl
      try simp only [Act.put, List.setIfInBounds_toArray, List.set_cons_zero, List.set_cons_succ]
      refine takeH 4 (v := ?va4) rfl (by kernel_rfl) (by kernel_rfl) (by kernel_rfl) (fun _ _ _ h => h) hH rfl ?ya4 ?ra4
      case ya4 => intro W hSw; go_simp; try with_reducible rfl
      try simp only [Act.put, List.setIfInBounds_toArray, List.set_cons_zero, List.set_cons_succ]
      refine takeH 5 (v := ?va5) rfl (by kernel_rfl) (by kernel_rfl) (by kernel_rfl) (fun _ _ _ h => h) hH rfl ?ya5 ?ra5
      case ya5 => intro W hSw; go_simp; try with_reducible rfl
      try simp only [Act.put, List.setIfInBounds_toArray, List.set_cons_zero, List.set_cons_succ]
      refine takeH 6 (v := ?va6) rfl (by kernel_rfl) (by kernel_rfl) (by kernel_rfl) (fun _ _ _ h => h) hH rfl ?ya6 ?ra6
      case ya6 => intro W hSw; go_simp; try with_reducible rfl
      try simp only [Act.put, List.setIfInBounds_toArray, List.set_cons_zero, List.set_cons_succ]
      refine takeH 7 (v := ?va7) rfl (by kernel_rfl) (by kernel_rfl) (by kernel_rfl) (fun _ _ _ h => h) hH rfl ?ya7 ?ra7
      case ya7 => intro W hSw; go_simp; try with_reducible rfl
      try simp only [Act.put, List.setIfInBounds_toArray, List.set_cons_zero, List.set_cons_succ]
      refine callH 8 rfl (by kernel_rfl) rfl (fun K hK => ?_)
      go_simp
      go_at_call 63
      refine (HS1.out _ (Hi2.out.below hH.1) (Hsrc.out _ hH.1).2).mono ?_
      rintro e wx ⟨rfl, hbx⟩
      refine hK.out _ _ ⟨hH.1.trans (hbx.mono hH.1.size), (hbx.cell (p := ⟨b, off + k * 4, none⟩) (Hbs.out _ hH.1).1).trans hH.2.1, (hbx.cell (p := ⟨b, off + k * 4 + 1, none⟩) (Hbs.out _ hH.1).1).trans hH.2.2.1, (hbx.cell (p := ⟨b, off + k * 4 + 2, none⟩) (Hbs.out _ hH.1).1).trans hH.2.2.2.1, (hbx.cell (p := ⟨b, off + k * 4 + 3, none⟩) (Hbs.out _ hH.1).1).trans hH.2.2.2.2.1, (hbx.cell (p := ⟨w.heap.size, 0, none⟩) (Hbs.out _ hH.1).2).trans hH.2.2.2.2.2.1, (hbx.cell (p := ⟨w.heap.size, 1, none⟩) (Hbs.out _ hH.1).2).trans hH.2.2.2.2.2.2.1, (hbx.cell (p := ⟨w.heap.size, 2, none⟩) (Hbs.out _ hH.1).2).trans hH.2.2.2.2.2.2.2.1, (hbx.cell (p := ⟨w.heap.size, 3, none⟩) (Hbs.out _ hH.1).2).trans hH.2.2.2.2.2.2.2.2⟩ (fun hH => ?_)
      clear hK K
      try simp only [Act.put, List.setIfInBounds_toArray, List.set_cons_zero, List.set_cons_succ]
      refine takeH 9 (v := ?va9) rfl (by kernel_rfl) (by kernel_rfl) (by kernel_rfl) (fun _ _ _ h => h) hH rfl ?ya9 ?ra9
      case ya9 => intro W hSw; go_simp; try with_reducible rfl
      try simp only [Act.put, List.setIfInBounds_toArray, List.set_cons_zero, List.set_cons_succ]
      refine takeH 10 (v := ?va10) rfl (by kernel_rfl) (by kernel_rfl) (by kernel_rfl) (fun _ _ _ h => h) hH rfl ?ya10 ?ra10
      case ya10 => intro W hSw; go_simp; try with_reducible rfl
      try simp only [Act.put, List.setIfInBounds_toArray, List.set_cons_zero, List.set_cons_succ]
      refine wpAnyH_done (by kernel_rfl) ?_ _
      try simp only [Act.put]
      obtain ⟨hbw, _⟩ := hH
      have Hbw := Lib.hid hbw; clear hbw
      go_wp2_with fail
      refine (HC.out _ (Hg.out.under Hbw.out)).mono ?_
      rintro e w2 ⟨u, rfl, ho, hb2⟩
      have Ho := Lib.hid ho; clear ho
      have Hb2 := Lib.hid (below_step (Hb0.out.trans (Hbw.out.mono (by omega))) (by have := Hbw.out.size; omega) hb2)
      have Hle := Lib.hid (show w.heap.size ≤ _ from Nat.le_trans Hb0.out.size Hbw.out.size)
      clear hb2
      go_wp2
      go_ret2
      exact ⟨_, by rw [Hz1.out]; rfl, by rw [Hz2.out]; exact Ho.out.from Hle.out, Hb2.out⟩
    | false =>
      rw [hsb] at HS1
      obtain ⟨hz1, hz2⟩ := HA2.out hsb
      have Hz1 := Lib.hid hz1
      have Hz2 := Lib.hid hz2
      clear HA1 HA2 hz1 hz2
      go_wp2_with fail
      refine wp_region_held_drew (S := fun w' => Below W0.heap.size W0 w' ∧ w'.cell? ⟨b, off + k * 4, none⟩ = some (.int .i64 y.r) ∧ w'.cell? ⟨b, off + k * 4 + 1, none⟩ = some (.int .i64 y.a) ∧ w'.cell? ⟨b, off + k * 4 + 2, none⟩ = some (.slice pa' y.ps.length pc') ∧ w'.cell? ⟨b, off + k * 4 + 3, none⟩ = some (.int .i64 y.d) ∧ w'.cell? ⟨w.heap.size, 0, none⟩ = some (.int .i64 x.r) ∧ w'.cell? ⟨w.heap.size, 1, none⟩ = some (.int .i64 x.a) ∧ w'.cell? ⟨w.heap.size, 2, none⟩ = some (.slice pa x.ps.length pc) ∧ w'.cell? ⟨w.heap.size, 3, none⟩ = some (.int .i64 x.d)) (by kernel_rfl) ⟨hb0, c0, c1, c2, c3, k0, k1, k2, k3⟩ (fun hH => ?_)
      refine takeH 0 (v := ?vb0) rfl (by kernel_rfl) (by kernel_rfl) (by kernel_rfl) (fun _ _ _ h => h) hH rfl ?yb0 ?rb0
      case yb0 => intro W hSw; go_simp; try with_reducible rfl
      try simp only [Act.put, List.setIfInBounds_toArray, List.set_cons_zero, List.set_cons_succ]
      refine takeH 1 (v := .bool true) rfl (by kernel_rfl) (by kernel_rfl) (by kernel_rfl) (fun _ _ _ h => h) hH rfl ?yb1 ?rb1
      case yb1 => intro W hSw; go_simp; first | done | simp only [hge] | omega | (simp; omega)
      try simp only [Act.put, List.setIfInBounds_toArray, List.set_cons_zero, List.set_cons_succ]
      refine takeH 2 (v := ?vb2) rfl (by kernel_rfl) (by kernel_rfl) (by kernel_rfl) (fun _ _ _ h => h) hH rfl ?yb2 ?rb2
      case yb2 => intro W hSw; go_simp; try with_reducible rfl
      try simp only [Act.put, List.setIfInBounds_toArray, List.set_cons_zero, List.set_cons_succ]
      refine takeH 3 (v := ?vb3) rfl (by kernel_rfl) (by kernel_rfl) (by kernel_rfl) (fun _ _ _ h => h) hH rfl ?yb3 ?rb3
      case yb3 => intro W hSw; go_simp; try with_reducible rfl
      try simp only [Act.put, List.setIfInBounds_toArray, List.set_cons_zero, List.set_cons_succ]
      refine takeH 4 (v := ?vb4) rfl (by kernel_rfl) (by kernel_rfl) (by kernel_rfl) (fun _ _ _ h => h) hH rfl ?yb4 ?rb4
      case yb4 => intro W hSw; go_simp; try with_reducible rfl
      try simp only [Act.put, List.setIfInBounds_toArray, List.set_cons_zero, List.set_cons_succ]
      refine takeH 5 (v := ?vb5) rfl (by kernel_rfl) (by kernel_rfl) (by kernel_rfl) (fun _ _ _ h => h) hH rfl ?yb5 ?rb5
      case yb5 => intro W hSw; go_simp; try with_reducible rfl
      try simp only [Act.put, List.setIfInBounds_toArray, List.set_cons_zero, List.set_cons_succ]
      refine takeH 6 (v := ?vb6) rfl (by kernel_rfl) (by kernel_rfl) (by kernel_rfl) (fun _ _ _ h => h) hH rfl ?yb6 ?rb6
      case yb6 => intro W hSw; go_simp; try with_reducible rfl
      try simp only [Act.put, List.setIfInBounds_toArray, List.set_cons_zero, List.set_cons_succ]
      refine takeH 7 (v := ?vb7) rfl (by kernel_rfl) (by kernel_rfl) (by kernel_rfl) (fun _ _ _ h => h) hH rfl ?yb7 ?rb7
      case yb7 => intro W hSw; go_simp; try with_reducible rfl
      try simp only [Act.put, List.setIfInBounds_toArray, List.set_cons_zero, List.set_cons_succ]
      refine callH 8 rfl (by kernel_rfl) rfl (fun K hK => ?_)
      go_simp
      go_at_call 63
      refine (HS1.out _ (Hi2.out.below hH.1) (Hsrc.out _ hH.1).2).mono ?_
      rintro e wx ⟨rfl, hbx⟩
      refine hK.out _ _ ⟨hH.1.trans (hbx.mono hH.1.size), (hbx.cell (p := ⟨b, off + k * 4, none⟩) (Hbs.out _ hH.1).1).trans hH.2.1, (hbx.cell (p := ⟨b, off + k * 4 + 1, none⟩) (Hbs.out _ hH.1).1).trans hH.2.2.1, (hbx.cell (p := ⟨b, off + k * 4 + 2, none⟩) (Hbs.out _ hH.1).1).trans hH.2.2.2.1, (hbx.cell (p := ⟨b, off + k * 4 + 3, none⟩) (Hbs.out _ hH.1).1).trans hH.2.2.2.2.1, (hbx.cell (p := ⟨w.heap.size, 0, none⟩) (Hbs.out _ hH.1).2).trans hH.2.2.2.2.2.1, (hbx.cell (p := ⟨w.heap.size, 1, none⟩) (Hbs.out _ hH.1).2).trans hH.2.2.2.2.2.2.1, (hbx.cell (p := ⟨w.heap.size, 2, none⟩) (Hbs.out _ hH.1).2).trans hH.2.2.2.2.2.2.2.1, (hbx.cell (p := ⟨w.heap.size, 3, none⟩) (Hbs.out _ hH.1).2).trans hH.2.2.2.2.2.2.2.2⟩ (fun hH => ?_)
      clear hK K
      try simp only [Act.put, List.setIfInBounds_toArray, List.set_cons_zero, List.set_cons_succ]
      refine takeH 9 (v := ?vb9) rfl (by kernel_rfl) (by kernel_rfl) (by kernel_rfl) (fun _ _ _ h => h) hH rfl ?yb9 ?rb9
      case yb9 => intro W hSw; go_simp; try with_reducible rfl
      try simp only [Act.put, List.setIfInBounds_toArray, List.set_cons_zero, List.set_cons_succ]
      refine takeH 10 (v := ?vb10) rfl (by kernel_rfl) (by kernel_rfl) (by kernel_rfl) (fun _ _ _ h => h) hH rfl ?yb10 ?rb10
      case yb10 => intro W hSw; go_simp; try with_reducible rfl
      try simp only [Act.put, List.setIfInBounds_toArray, List.set_cons_zero, List.set_cons_succ]
      refine wpAnyH_done (by kernel_rfl) ?_ _
      try simp only [Act.put]
      obtain ⟨hbw, _⟩ := hH
      have Hbw := Lib.hid hbw; clear hbw
      have hge' : (0 : Int) ≤ (k : Int) := by omega
      go_wp2_with fail
      refine (HC.out _ (Hg.out.under Hbw.out)).mono ?_
      rintro e w2 ⟨u, rfl, ho, hb2⟩
      have Ho := Lib.hid ho; clear ho
      have Hb2 := Lib.hid (below_step (Hb0.out.trans (Hbw.out.mono (by omega))) (by have := Hbw.out.size; omega) hb2)
      have Hle := Lib.hid (show w.heap.size ≤ _ from Nat.le_trans Hb0.out.size Hbw.out.size)
      clear hb2
      go_wp2
      go_ret2
      exact ⟨_, by rw [Hz1.out]; rfl, by rw [Hz2.out]; exact Ho.out.from Hle.out, Hb2.out⟩
  case inl =>
    clear hno HA1 HA2 HS
    have Hz := Lib.hid hz; clear hz
    rw [Hz.out]
    have hge : decide ((0 : Int) ≤ (-1 : Int)) = false := rfl
    have hb0 : Below W0.heap.size W0 W0.drew := (Below.refl _ _).drew
    go_wp2_with fail
    refine wp_region_held_drew (S := fun w' => Below W0.heap.size W0 w' ∧ w'.cell? ⟨w.heap.size, 0, none⟩ = some (.int .i64 x.r) ∧ w'.cell? ⟨w.heap.size, 1, none⟩ = some (.int .i64 x.a) ∧ w'.cell? ⟨w.heap.size, 2, none⟩ = some (.slice pa x.ps.length pc) ∧ w'.cell? ⟨w.heap.size, 3, none⟩ = some (.int .i64 x.d)) (by kernel_rfl) ⟨hb0, k0, k1, k2, k3⟩ (fun hH => ?_)
    refine takeH 0 (v := ?vc0) rfl (by kernel_rfl) (by kernel_rfl) (by kernel_rfl) (fun _ _ _ h => h) hH rfl ?yc0 ?rc0
    case yc0 => intro W hSw; go_simp; try with_reducible rfl
    try simp only [Act.put, List.setIfInBounds_toArray, List.set_cons_zero, List.set_cons_succ]
    refine takeH 1 (v := .bool false) rfl (by kernel_rfl) (by kernel_rfl) (by kernel_rfl) (fun _ _ _ h => h) hH rfl ?yc1 ?rc1
    case yc1 => intro W hSw; go_simp; first | done | simp only [hge] | omega | (simp; omega)
    try simp only [Act.put, List.setIfInBounds_toArray, List.set_cons_zero, List.set_cons_succ]
    refine takeH 2 (v := ?vc2) rfl (by kernel_rfl) (by kernel_rfl) (by kernel_rfl) (fun _ _ _ h => h) hH rfl ?yc2 ?rc2
    case yc2 => intro W hSw; go_simp; try with_reducible rfl
    try simp only [Act.put, List.setIfInBounds_toArray, List.set_cons_zero, List.set_cons_succ]
    refine skipH 3 rfl (by kernel_rfl) (by kernel_rfl) (by kernel_rfl) (fun _ _ _ h => h) hH rfl ?_
    try simp only [Act.put, List.setIfInBounds_toArray, List.set_cons_zero, List.set_cons_succ]
    refine skipH 4 rfl (by kernel_rfl) (by kernel_rfl) (by kernel_rfl) (fun _ _ _ h => h) hH rfl ?_
    try simp only [Act.put, List.setIfInBounds_toArray, List.set_cons_zero, List.set_cons_succ]
    refine skipH 5 rfl (by kernel_rfl) (by kernel_rfl) (by kernel_rfl) (fun _ _ _ h => h) hH rfl ?_
    try simp only [Act.put, List.setIfInBounds_toArray, List.set_cons_zero, List.set_cons_succ]
    refine skipH 6 rfl (by kernel_rfl) (by kernel_rfl) (by kernel_rfl) (fun _ _ _ h => h) hH rfl ?_
    try simp only [Act.put, List.setIfInBounds_toArray, List.set_cons_zero, List.set_cons_succ]
    refine skipH 7 rfl (by kernel_rfl) (by kernel_rfl) (by kernel_rfl) (fun _ _ _ h => h) hH rfl ?_
    try simp only [Act.put, List.setIfInBounds_toArray, List.set_cons_zero, List.set_cons_succ]
    refine skipH 8 rfl (by kernel_rfl) (by kernel_rfl) (by kernel_rfl) (fun _ _ _ h => h) hH rfl ?_
    try simp only [Act.put, List.setIfInBounds_toArray, List.set_cons_zero, List.set_cons_succ]
    refine takeH 9 (v := ?vc9) rfl (by kernel_rfl) (by kernel_rfl) (by kernel_rfl) (fun _ _ _ h => h) hH rfl ?yc9 ?rc9
    case yc9 => intro W hSw; go_simp; try with_reducible rfl
    try simp only [Act.put, List.setIfInBounds_toArray, List.set_cons_zero, List.set_cons_succ]
    refine takeH 10 (v := ?vc10) rfl (by kernel_rfl) (by kernel_rfl) (by kernel_rfl) (fun _ _ _ h => h) hH rfl ?yc10 ?rc10
    case yc10 => intro W hSw; go_simp; try with_reducible rfl
    try simp only [Act.put, List.setIfInBounds_toArray, List.set_cons_zero, List.set_cons_succ]
    refine wpAnyH_done (by kernel_rfl) ?_ _
    try simp only [Act.put]
    obtain ⟨hbw, k0, k1, k2, k3⟩ := hH
    generalize W0.drew = W1 at *
    have Hbw := Lib.hid hbw; clear hbw
    go_wp2_with fail
    refine (HQ.out W1 (Hg.out.under Hbw.out) (Hsrc.out W1 Hbw.out).2).mono ?_
    rintro e w2 ⟨rfl, hb2⟩
    have Hb2 := Lib.hid (below_step Hbw.out Hbw.out.size hb2)
    have j0 := (hb2.cell (p := ⟨w.heap.size, 0, none⟩) (by have := Hbw.out.size; simp only; omega)).trans k0
    have j1 := (hb2.cell (p := ⟨w.heap.size, 1, none⟩) (by have := Hbw.out.size; simp only; omega)).trans k1
    have j2 := (hb2.cell (p := ⟨w.heap.size, 2, none⟩) (by have := Hbw.out.size; simp only; omega)).trans k2
    have j3 := (hb2.cell (p := ⟨w.heap.size, 3, none⟩) (by have := Hbw.out.size; simp only; omega)).trans k3
    clear hb2 k0 k1 k2 k3 hb0 hge
    have hle2 : w.heap.size ≤ w2.heap.size := by have := Hb2.out.size; omega
    have Hle2 := Lib.hid hle2
    cases hq : parB g ⟨x.r, x.a, x.ps, x.d⟩ with
    | false =>
      obtain ⟨hz1, hz2⟩ := HA3.out Hz.out hq
      have Hz1 := Lib.hid hz1
      have Hz2 := Lib.hid hz2
      clear HA3 HA4 hz1 hz2 HO HD HB
      go_wp2_with fail
      refine (HC.out w2 (Hg.out.under Hb2.out)).mono ?_
      rintro e w3 ⟨u, rfl, ho, hb3⟩
      have Ho := Lib.hid ho; clear ho
      have Hb3 := Lib.hid (below_step (Hb0.out.trans (Hb2.out.mono (by omega))) hle2 hb3)
      clear hb3
      go_wp2
      go_ret2
      exact ⟨_, by rw [Hz1.out]; rfl, by rw [Hz2.out]; exact Ho.out.from Hle2.out, Hb3.out⟩
    | true =>
      obtain ⟨hz1, hz2⟩ := HA4.out Hz.out hq
      have Hz1 := Lib.hid hz1
      have Hz2 := Lib.hid hz2
      clear HA3 HA4 hz1 hz2 HC HQ
      have hbE : Below w2.heap.size w2 (w2.alloc (.cells #[] 25)) := (Below.refl _ _).alloc (Nat.le_refl _) _
      have hv0 : OwnR 25 3 4 (w2.alloc (.cells #[] 25)) w2.heap.size (w2.alloc (.cells #[] 25)).heap.size (.slice (some ⟨w2.heap.size, 0, none⟩) 0 0) [] := .nil (World.ownsRow_made w2 #[] 0 (Nat.le_refl _) (by simp) (by simp)) (fun g e => by cases e; simp)
      have Hv0 := Lib.hid hv0; clear hv0
      have HbE := Lib.hid hbE; clear hbE
      have hX : ∀ W, Below w2.heap.size w2 W → Str W w.heap.size 25 #[.int .i64 x.r, .int .i64 x.a, .slice pa x.ps.length pc, .int .i64 x.d] := fun W hW => ((Hb2.out.trans (hW.mono Hb2.out.size)).block _ (by omega)).trans Hs0.out
      have HX := Lib.hid hX; clear hX
      have Hins := Lib.hid (fun k (hk : k < g.length) => insN_at (g := g) (x := x) (k := k) hk)
      have Hend := Lib.hid (fun n => insN_end (g := g) (x := x) (n := n))
      clear j0 j1 j2 j3
      go_wp2
      go_loopw [7, 8] (fun u i wr => ∃ k : Nat, k ≤ g.length ∧ i = .int .i64 k ∧ Upto (befAt g x) k ∧ OwnR 25 3 4 wr w2.heap.size wr.heap.size u ((g.take k).map Vx.fd) ∧ Below w2.heap.size w2 wr) (fun _ i _ => g.length - (intOf i).toNat)
      case atStart => exact ⟨0, Nat.zero_le _, rfl, upto_zero _, by simpa using Hv0.out, HbE.out⟩
      case round =>
        obtain ⟨k, hk, rfl, hup, hbld, hbel⟩ := hrel
        have Hbld := Lib.hid hbld; clear hbld
        have Hbel := Lib.hid hbel; clear hbel
        have Hup := Lib.hid hup; clear hup
        have sx := HX.out wr Hbel.out
        have k0 := sx.cell 0 (v := .int .i64 x.r) rfl
        have k1 := sx.cell 1 (v := .int .i64 x.a) rfl
        have k2 := sx.cell 2 (v := .slice pa x.ps.length pc) rfl
        have k3 := sx.cell 3 (v := .int .i64 x.d) rfl
        have hwx := sx.lt
        clear sx
        by_cases hlt : k < g.length
        · obtain ⟨b, off, rfl, hb, hat⟩ := (Hg.out.under (Hb2.out.trans (Hbel.out.mono Hb2.out.size))).at (by omega)
          obtain ⟨c0, c1, ⟨pa', pc', c2, i2, s2⟩, c3⟩ := hat k hlt
          have Hi2 := Lib.hid i2
          have Hs2 := Lib.hid s2
          clear i2 s2
          have hpy := HP.out _ (List.getElem_mem hlt)
          have hba : befAt g x k = befB g[k] x := by unfold befAt; rw [getV hlt]
          have HBk := Lib.hid (HB.out (g[k]'hlt) pa' pc')
          have Hex := Lib.hid (show (g.take (k + 1)).map Vx.fd = (g.take k).map Vx.fd ++ [[.i g[k].r, .i g[k].a, .l g[k].ps, .i g[k].d]] by rw [List.take_succ_eq_append_getElem hlt, List.map_append]; rfl)
          have hb0 : Below wr.heap.size wr wr.drew := (Below.refl _ _).drew
          have Hbs := Lib.hid (fun w' (h : Below wr.heap.size wr w') => (⟨Nat.lt_of_lt_of_le hb h.size, Nat.lt_of_lt_of_le hwx h.size⟩ : b < w'.heap.size ∧ w.heap.size < w'.heap.size))
          clear hat hb hwx
          have hll : decide ((k : Int) < (g.length : Int)) = true := decide_eq_true (by omega)
          have Hba := Lib.hid hba; clear hba
          generalize hy : g[k] = y at *
          have Hy := Lib.hid hy; clear hy
          cases hbf : befB y x with
          | true =>
            rw [hbf] at HBk
            have Hup1 := Lib.hid (upto_step Hup.out (by rw [Hba.out, hbf]))
            clear Hins Hend HD
            go_wp2_with fail
            refine wp_region_held_drew (S := fun w' => Below wr.heap.size wr w' ∧ w'.cell? ⟨b, off + k * 4, none⟩ = some (.int .i64 y.r) ∧ w'.cell? ⟨b, off + k * 4 + 1, none⟩ = some (.int .i64 y.a) ∧ w'.cell? ⟨b, off + k * 4 + 2, none⟩ = some (.slice pa' y.ps.length pc') ∧ w'.cell? ⟨b, off + k * 4 + 3, none⟩ = some (.int .i64 y.d) ∧ w'.cell? ⟨w.heap.size, 0, none⟩ = some (.int .i64 x.r) ∧ w'.cell? ⟨w.heap.size, 1, none⟩ = some (.int .i64 x.a) ∧ w'.cell? ⟨w.heap.size, 2, none⟩ = some (.slice pa x.ps.length pc) ∧ w'.cell? ⟨w.heap.size, 3, none⟩ = some (.int .i64 x.d)) (by kernel_rfl) ⟨hb0, c0, c1, c2, c3, k0, k1, k2, k3⟩ (fun hH => ?_)
            refine takeH 0 (v := ?vd0) rfl (by kernel_rfl) (by kernel_rfl) (by kernel_rfl) (fun _ _ _ h => h) hH rfl ?yd0 ?rd0
            case yd0 => intro W hSw; go_simp; try with_reducible rfl
            try simp only [Act.put, List.setIfInBounds_toArray, List.set_cons_zero, List.set_cons_succ]
            refine takeH 1 (v := ?vd1) rfl (by kernel_rfl) (by kernel_rfl) (by kernel_rfl) (fun _ _ _ h => h) hH rfl ?yd1 ?rd1
            case yd1 => intro W hSw; go_simp; try with_reducible rfl
            try simp only [Act.put, List.setIfInBounds_toArray, List.set_cons_zero, List.set_cons_succ]
            refine takeH 2 (v := ?vd2) rfl (by kernel_rfl) (by kernel_rfl) (by kernel_rfl) (fun _ _ _ h => h) hH rfl ?yd2 ?rd2
            case yd2 => intro W hSw; go_simp; try with_reducible rfl
            try simp only [Act.put, List.setIfInBounds_toArray, List.set_cons_zero, List.set_cons_succ]
            refine takeH 3 (v := .bool true) rfl (by kernel_rfl) (by kernel_rfl) (by kernel_rfl) (fun _ _ _ h => h) hH rfl ?yd3 ?rd3
            case yd3 => intro W hSw; go_simp; first | done | simp only [hll] | omega | (simp; omega)
            try simp only [Act.put, List.setIfInBounds_toArray, List.set_cons_zero, List.set_cons_succ]
            refine takeH 4 (v := ?vd4) rfl (by kernel_rfl) (by kernel_rfl) (by kernel_rfl) (fun _ _ _ h => h) hH rfl ?yd4 ?rd4
            case yd4 => intro W hSw; go_simp; try with_reducible rfl
            try simp only [Act.put, List.setIfInBounds_toArray, List.set_cons_zero, List.set_cons_succ]
            refine takeH 5 (v := ?vd5) rfl (by kernel_rfl) (by kernel_rfl) (by kernel_rfl) (fun _ _ _ h => h) hH rfl ?yd5 ?rd5
            case yd5 => intro W hSw; go_simp; try with_reducible rfl
            try simp only [Act.put, List.setIfInBounds_toArray, List.set_cons_zero, List.set_cons_succ]
            refine takeH 6 (v := ?vd6) rfl (by kernel_rfl) (by kernel_rfl) (by kernel_rfl) (fun _ _ _ h => h) hH rfl ?yd6 ?rd6
            case yd6 => intro W hSw; go_simp; try with_reducible rfl
            try simp only [Act.put, List.setIfInBounds_toArray, List.set_cons_zero, List.set_cons_succ]
            refine takeH 7 (v := ?vd7) rfl (by kernel_rfl) (by kernel_rfl) (by kernel_rfl) (fun _ _ _ h => h) hH rfl ?yd7 ?rd7
            case yd7 => intro W hSw; go_simp; try with_reducible rfl
            try simp only [Act.put, List.setIfInBounds_toArray, List.set_cons_zero, List.set_cons_succ]
            refine takeH 8 (v := ?vd8) rfl (by kernel_rfl) (by kernel_rfl) (by kernel_rfl) (fun _ _ _ h => h) hH rfl ?yd8 ?rd8
            case yd8 => intro W hSw; go_simp; try with_reducible rfl
            try simp only [Act.put, List.setIfInBounds_toArray, List.set_cons_zero, List.set_cons_succ]
            refine takeH 9 (v := ?vd9) rfl (by kernel_rfl) (by kernel_rfl) (by kernel_rfl) (fun _ _ _ h => h) hH rfl ?yd9 ?rd9
            case yd9 => intro W hSw; go_simp; try with_reducible rfl
            try simp only [Act.put, List.setIfInBounds_toArray, List.set_cons_zero, List.set_cons_succ]
            refine callH 10 rfl (by kernel_rfl) rfl (fun K hK => ?_)
            go_simp
            go_at_call 40
            refine (HBk.out _).mono ?_
            rintro e wz ⟨rfl, hbx⟩
            refine hK.out _ _ ⟨hH.1.trans (hbx.mono hH.1.size), (hbx.cell (p := ⟨b, off + k * 4, none⟩) (Hbs.out _ hH.1).1).trans hH.2.1, (hbx.cell (p := ⟨b, off + k * 4 + 1, none⟩) (Hbs.out _ hH.1).1).trans hH.2.2.1, (hbx.cell (p := ⟨b, off + k * 4 + 2, none⟩) (Hbs.out _ hH.1).1).trans hH.2.2.2.1, (hbx.cell (p := ⟨b, off + k * 4 + 3, none⟩) (Hbs.out _ hH.1).1).trans hH.2.2.2.2.1, (hbx.cell (p := ⟨w.heap.size, 0, none⟩) (Hbs.out _ hH.1).2).trans hH.2.2.2.2.2.1, (hbx.cell (p := ⟨w.heap.size, 1, none⟩) (Hbs.out _ hH.1).2).trans hH.2.2.2.2.2.2.1, (hbx.cell (p := ⟨w.heap.size, 2, none⟩) (Hbs.out _ hH.1).2).trans hH.2.2.2.2.2.2.2.1, (hbx.cell (p := ⟨w.heap.size, 3, none⟩) (Hbs.out _ hH.1).2).trans hH.2.2.2.2.2.2.2.2⟩ (fun hH => ?_)
            clear hK K
            try simp only [Act.put, List.setIfInBounds_toArray, List.set_cons_zero, List.set_cons_succ]
            refine takeH 11 (v := ?vd11) rfl (by kernel_rfl) (by kernel_rfl) (by kernel_rfl) (fun _ _ _ h => h) hH rfl ?yd11 ?rd11
            case yd11 => intro W hSw; go_simp; try with_reducible rfl
            try simp only [Act.put, List.setIfInBounds_toArray, List.set_cons_zero, List.set_cons_succ]
            refine wpAnyH_done (by kernel_rfl) ?_ _
            try simp only [Act.put]
            obtain ⟨hbw, c0, c1, c2, c3, _⟩ := hH
            have Hbw := Lib.hid hbw
            have Hone := Lib.hid (HO.out y pa' pc' _ hpy (Hs2.out.under Hi2.out hbw) (Hi2.out.below hbw))
            have hbz := below_step Hbel.out Hbel.out.size hbw
            have hel : ((g.take k).map Vx.fd).length ≤ 1048576 := by simp; omega
            have Hbld := Lib.hid (Hbld.out.below hbw (Nat.le_refl _))
            have hsw := hbw.size
            clear hbw
            generalize (g.take k).map Vx.fd = es at *
            go_wp2_with fail
            refine Hone.out.mono ?_
            rintro e w6 ⟨v2, rfl, hown2, hb6⟩
            obtain ⟨a2, c2', rfl, _, _⟩ := hown2.ints
            have hs6 := hb6.size
            have Hbld6 := Lib.hid (Hbld.out.below hb6 hsw)
            have hbz2 := hbz.size
            obtain ⟨hfd, hap, hnew⟩ := vertex_new (B := w2.heap.size) y.r y.a y.d hown2 hbz2
            have Hfd := Lib.hid hfd; clear hfd
            have Hap := Lib.hid hap; clear hap
            have Hnew := Lib.hid (fun c hc g e => Nat.le_trans hsw (hnew c hc g e)); clear hnew hown2 c0 c1 c2 c3
            have hbz6 := below_step hbz hbz2 hb6
            have hB6 := hbz6.size
            have Hbz6 := Lib.hid hbz6; clear hbz6 hbz hb6
            go_wp2_with (at_builtin; refine wpList_push_own (Ei := 3) Try.underlying32 vertex_inf rfl (by decide) (by decide) rfl (.tmp 56) (.tmp 62) rfl w2.heap.size _ es _ _ _ rfl rfl (by intro u hu; simp at hu; rcases hu with rfl | rfl | rfl | rfl <;> rfl) rfl rfl Hfd.out Hap.out wr.heap.size Hbld6.out (by omega) Hnew.out hel rfl hB6 ?_; intro v8 w8 hbld8 hg8 hat8)
            go_roundw
            case rel => exact ⟨k + 1, by omega, by go_num, Hup1.out, by rw [Hex.out]; exact hbld8, Hbz6.out.grown hg8 hB6 (fun g e => (Hbld6.out.lt g e).1)⟩
            case measure => simp [intOf]; omega
          | false =>
            rw [hbf] at HBk
            have hnk := Hins.out k hlt Hup.out (by rw [Hba.out, hbf])
            clear Hins Hend
            go_wp2_with fail
            refine wp_region_held_drew (S := fun w' => Below wr.heap.size wr w' ∧ w'.cell? ⟨b, off + k * 4, none⟩ = some (.int .i64 y.r) ∧ w'.cell? ⟨b, off + k * 4 + 1, none⟩ = some (.int .i64 y.a) ∧ w'.cell? ⟨b, off + k * 4 + 2, none⟩ = some (.slice pa' y.ps.length pc') ∧ w'.cell? ⟨b, off + k * 4 + 3, none⟩ = some (.int .i64 y.d) ∧ w'.cell? ⟨w.heap.size, 0, none⟩ = some (.int .i64 x.r) ∧ w'.cell? ⟨w.heap.size, 1, none⟩ = some (.int .i64 x.a) ∧ w'.cell? ⟨w.heap.size, 2, none⟩ = some (.slice pa x.ps.length pc) ∧ w'.cell? ⟨w.heap.size, 3, none⟩ = some (.int .i64 x.d)) (by kernel_rfl) ⟨hb0, c0, c1, c2, c3, k0, k1, k2, k3⟩ (fun hH => ?_)
            refine takeH 0 (v := ?ve0) rfl (by kernel_rfl) (by kernel_rfl) (by kernel_rfl) (fun _ _ _ h => h) hH rfl ?ye0 ?re0
            case ye0 => intro W hSw; go_simp; try with_reducible rfl
            try simp only [Act.put, List.setIfInBounds_toArray, List.set_cons_zero, List.set_cons_succ]
            refine takeH 1 (v := ?ve1) rfl (by kernel_rfl) (by kernel_rfl) (by kernel_rfl) (fun _ _ _ h => h) hH rfl ?ye1 ?re1
            case ye1 => intro W hSw; go_simp; try with_reducible rfl
            try simp only [Act.put, List.setIfInBounds_toArray, List.set_cons_zero, List.set_cons_succ]
            refine takeH 2 (v := ?ve2) rfl (by kernel_rfl) (by kernel_rfl) (by kernel_rfl) (fun _ _ _ h => h) hH rfl ?ye2 ?re2
            case ye2 => intro W hSw; go_simp; try with_reducible rfl
            try simp only [Act.put, List.setIfInBounds_toArray, List.set_cons_zero, List.set_cons_succ]
            refine takeH 3 (v := .bool true) rfl (by kernel_rfl) (by kernel_rfl) (by kernel_rfl) (fun _ _ _ h => h) hH rfl ?ye3 ?re3
            case ye3 => intro W hSw; go_simp; first | done | simp only [hll] | omega | (simp; omega)
            try simp only [Act.put, List.setIfInBounds_toArray, List.set_cons_zero, List.set_cons_succ]
            refine takeH 4 (v := ?ve4) rfl (by kernel_rfl) (by kernel_rfl) (by kernel_rfl) (fun _ _ _ h => h) hH rfl ?ye4 ?re4
            case ye4 => intro W hSw; go_simp; try with_reducible rfl
            try simp only [Act.put, List.setIfInBounds_toArray, List.set_cons_zero, List.set_cons_succ]
            refine takeH 5 (v := ?ve5) rfl (by kernel_rfl) (by kernel_rfl) (by kernel_rfl) (fun _ _ _ h => h) hH rfl ?ye5 ?re5
            case ye5 => intro W hSw; go_simp; try with_reducible rfl
            try simp only [Act.put, List.setIfInBounds_toArray, List.set_cons_zero, List.set_cons_succ]
            refine takeH 6 (v := ?ve6) rfl (by kernel_rfl) (by kernel_rfl) (by kernel_rfl) (fun _ _ _ h => h) hH rfl ?ye6 ?re6
            case ye6 => intro W hSw; go_simp; try with_reducible rfl
            try simp only [Act.put, List.setIfInBounds_toArray, List.set_cons_zero, List.set_cons_succ]
            refine takeH 7 (v := ?ve7) rfl (by kernel_rfl) (by kernel_rfl) (by kernel_rfl) (fun _ _ _ h => h) hH rfl ?ye7 ?re7
            case ye7 => intro W hSw; go_simp; try with_reducible rfl
            try simp only [Act.put, List.setIfInBounds_toArray, List.set_cons_zero, List.set_cons_succ]
            refine takeH 8 (v := ?ve8) rfl (by kernel_rfl) (by kernel_rfl) (by kernel_rfl) (fun _ _ _ h => h) hH rfl ?ye8 ?re8
            case ye8 => intro W hSw; go_simp; try with_reducible rfl
            try simp only [Act.put, List.setIfInBounds_toArray, List.set_cons_zero, List.set_cons_succ]
            refine takeH 9 (v := ?ve9) rfl (by kernel_rfl) (by kernel_rfl) (by kernel_rfl) (fun _ _ _ h => h) hH rfl ?ye9 ?re9
            case ye9 => intro W hSw; go_simp; try with_reducible rfl
            try simp only [Act.put, List.setIfInBounds_toArray, List.set_cons_zero, List.set_cons_succ]
            refine callH 10 rfl (by kernel_rfl) rfl (fun K hK => ?_)
            go_simp
            go_at_call 40
            refine (HBk.out _).mono ?_
            rintro e wz ⟨rfl, hbx⟩
            refine hK.out _ _ ⟨hH.1.trans (hbx.mono hH.1.size), (hbx.cell (p := ⟨b, off + k * 4, none⟩) (Hbs.out _ hH.1).1).trans hH.2.1, (hbx.cell (p := ⟨b, off + k * 4 + 1, none⟩) (Hbs.out _ hH.1).1).trans hH.2.2.1, (hbx.cell (p := ⟨b, off + k * 4 + 2, none⟩) (Hbs.out _ hH.1).1).trans hH.2.2.2.1, (hbx.cell (p := ⟨b, off + k * 4 + 3, none⟩) (Hbs.out _ hH.1).1).trans hH.2.2.2.2.1, (hbx.cell (p := ⟨w.heap.size, 0, none⟩) (Hbs.out _ hH.1).2).trans hH.2.2.2.2.2.1, (hbx.cell (p := ⟨w.heap.size, 1, none⟩) (Hbs.out _ hH.1).2).trans hH.2.2.2.2.2.2.1, (hbx.cell (p := ⟨w.heap.size, 2, none⟩) (Hbs.out _ hH.1).2).trans hH.2.2.2.2.2.2.2.1, (hbx.cell (p := ⟨w.heap.size, 3, none⟩) (Hbs.out _ hH.1).2).trans hH.2.2.2.2.2.2.2.2⟩ (fun hH => ?_)
            clear hK K
            try simp only [Act.put, List.setIfInBounds_toArray, List.set_cons_zero, List.set_cons_succ]
            refine takeH 11 (v := ?ve11) rfl (by kernel_rfl) (by kernel_rfl) (by kernel_rfl) (fun _ _ _ h => h) hH rfl ?ye11 ?re11
            case ye11 => intro W hSw; go_simp; try with_reducible rfl
            try simp only [Act.put, List.setIfInBounds_toArray, List.set_cons_zero, List.set_cons_succ]
            refine wpAnyH_done (by kernel_rfl) ?_ _
            try simp only [Act.put]
            have hbw := hH.1
            clear hH
            have Hbz := Lib.hid (below_step Hbel.out Hbel.out.size hbw)
            have Hbldz := Lib.hid (Hbld.out.below hbw (Nat.le_refl _))
            have hrz := hbw.size
            clear hbw c0 c1 c2 c3 HBk Hbs Hex Hbld
            have Hbld := Hbldz
            generalize (some (⟨b, off, none⟩ : Addr)) = va at *
            have hlk : ((g.take k).map Vx.fd).length = k := by simp; omega
            have hel : ((g.take k).map Vx.fd).length ≤ 1048576 := by omega
            obtain ⟨au, cu, rfl, _⟩ := Hbld.out.slice
            have Hlk := Lib.hid hlk
            rw [hlk] at Hbldz
            clear hlk hel Hbld
            have sx := HX.out wz Hbz.out
            have k0 := sx.cell 0 (v := .int .i64 x.r) rfl
            have k1 := sx.cell 1 (v := .int .i64 x.a) rfl
            have k2 := sx.cell 2 (v := .slice pa x.ps.length pc) rfl
            have k3 := sx.cell 3 (v := .int .i64 x.d) rfl
            clear sx
            have hbz0 := Hb2.out.trans (Hbz.out.mono Hb2.out.size)
            have Hbz0 := Lib.hid hbz0; clear hbz0
            obtain ⟨hsz1, hsz2⟩ := Hsrc.out wz Hbz0.out
            have Hone := Lib.hid (HO.out x pa pc wz hbp hsz1 hsz2); clear hsz1 hsz2
            have Hex := Lib.hid (show (insG g x).map Vx.fd = ((g.take k).map Vx.fd ++ [[.i x.r, .i x.a, .l x.ps, .i x.d]]) ++ (g.drop k).map Vx.fd by unfold insG; rw [hnk, List.map_append, List.map_append]; rfl)
            have hdl : (g.drop k).length = g.length - k := List.length_drop
            rw [Hlk.out]
            generalize (g.take k).map Vx.fd = es at *
            go_wp2_with fail
            refine Hone.out.mono ?_
            rintro e w7 ⟨v7, rfl, hown7, hb7⟩
            obtain ⟨a7, c7, rfl, _, _⟩ := hown7.ints
            have hs7 := hb7.size
            have hbz2 := Hbz.out.size
            have Hbld7 := Lib.hid ((Hbldz.out.below hb7 hrz))
            obtain ⟨hfd, hap, hnew⟩ := vertex_new (B := w2.heap.size) x.r x.a x.d hown7 hbz2
            have Hfd := Lib.hid hfd; clear hfd
            have Hap := Lib.hid hap; clear hap
            have Hnew := Lib.hid (fun c hc g e => Nat.le_trans hrz (hnew c hc g e)); clear hnew hown7 k0 k1 k2 k3
            have Hbz7 := Lib.hid (below_step Hbz.out Hbz.out.size hb7); clear hb7
            have hB7 : w2.heap.size ≤ w7.heap.size := by omega
            have hlk := Hlk.out
            have hel : es.length ≤ 1048576 := by omega
            clear hlk
            obtain ⟨ad2, hif⟩ : ∃ ad2, (if vc = k then va else va.map fun x => x.add (k * 4)) = ad2 := ⟨_, rfl⟩
            go_wp2_with (at_builtin; refine wpList_push_own (Ei := 3) Try.underlying32 vertex_inf rfl (by decide) (by decide) rfl (.tmp 66) (.tmp 69) rfl w2.heap.size _ es _ _ _ rfl rfl (by intro u hu; simp at hu; rcases hu with rfl | rfl | rfl | rfl <;> rfl) rfl rfl Hfd.out Hap.out wr.heap.size Hbld7.out (by omega) Hnew.out hel rfl hB7 ?_; intro v8 w8 hbld8 hg8 hat8)
            have hown8 := hbld8
            obtain ⟨a8, c8, rfl, hm8⟩ := hown8.slice
            have hl8 : (es ++ [[Fd.i x.r, .i x.a, .l x.ps, .i x.d]]).length = k + 1 := by rw [List.length_append, Hlk.out]; rfl
            rw [hl8] at hbld8 ⊢
            clear hm8 hl8
            have Hbz8 := Lib.hid (Hbz7.out.grown hg8 hB7 (fun g e => (Hbld7.out.lt g e).1))
            have Hbld8 := Lib.hid hbld8; clear hbld8 hown8 hg8 hat8 Hfd Hap Hnew
            have hgr := Hg.out.under (Hb2.out.trans (Hbz8.out.mono Hb2.out.size))
            have hB8 := Hbz8.out.size
            obtain ⟨fp2, hgr2⟩ := hgr.tail k hk
            rw [hif] at hgr2
            have Hcopy := Lib.hid (HD.out k _ fp2 w8 hgr2); clear hgr2 hgr HD hif
            refine Hcopy.out.mono ?_
            rintro e w9 ⟨u9, rfl, ho9, hb9⟩
            have Hbld9 := Lib.hid (Hbld8.out.below hb9 (Nat.le_refl _))
            have Ho9 := Lib.hid ho9; clear ho9
            have hs9 := hb9.size
            have Hbz9 := Lib.hid (below_step Hbz8.out hB8 hb9); clear hb9
            have hB9 : w2.heap.size ≤ w9.heap.size := by omega
            have hmm : (es ++ [[Fd.i x.r, .i x.a, .l x.ps, .i x.d]]).length + ((g.drop k).map Vx.fd).length ≤ 2097152 := by rw [List.length_append, List.length_map, hdl, Hlk.out]; simp; omega
            go_wp2_with (at_builtin; refine wpList_app_own (Ei := 3) Try.underlying32 vertex_inf rfl (by decide) (by decide) rfl (.tmp 71) (.tmp 75) rfl w2.heap.size _ u9 _ _ rfl w8.heap.size w8.heap.size w9.heap.size Hbld9.out Ho9.out (Nat.le_refl _) (Nat.le_refl _) hB8 hmm rfl hB9 ?_; intro v10 w10 hbld10 hg10)
            go_ret2
            exact ⟨_, by rw [Hz1.out]; rfl, by rw [Hz2.out, Hex.out]; exact hbld10.from (by omega), Hb0.out.trans ((Hb2.out.trans ((Hbz9.out.grown hg10 hB9 (fun g e => (Hbld9.out.lt g e).1)).mono Hb2.out.size)).mono (by omega))⟩
        · have hnk := Hend.out k Hup.out (by omega)
          have hll : decide ((k : Int) < (g.length : Int)) = false := decide_eq_false (by omega)
          have hb0 : Below wr.heap.size wr wr.drew := (Below.refl _ _).drew
          clear Hins Hend
          go_wp2_with fail
          refine wp_region_held_drew (S := fun w' => Below wr.heap.size wr w' ∧ w'.cell? ⟨w.heap.size, 0, none⟩ = some (.int .i64 x.r) ∧ w'.cell? ⟨w.heap.size, 1, none⟩ = some (.int .i64 x.a) ∧ w'.cell? ⟨w.heap.size, 2, none⟩ = some (.slice pa x.ps.length pc) ∧ w'.cell? ⟨w.heap.size, 3, none⟩ = some (.int .i64 x.d)) (by kernel_rfl) ⟨hb0, k0, k1, k2, k3⟩ (fun hH => ?_)
          refine takeH 0 (v := ?vf0) rfl (by kernel_rfl) (by kernel_rfl) (by kernel_rfl) (fun _ _ _ h => h) hH rfl ?yf0 ?rf0
          case yf0 => intro W hSw; go_simp; try with_reducible rfl
          try simp only [Act.put, List.setIfInBounds_toArray, List.set_cons_zero, List.set_cons_succ]
          refine takeH 1 (v := ?vf1) rfl (by kernel_rfl) (by kernel_rfl) (by kernel_rfl) (fun _ _ _ h => h) hH rfl ?yf1 ?rf1
          case yf1 => intro W hSw; go_simp; try with_reducible rfl
          try simp only [Act.put, List.setIfInBounds_toArray, List.set_cons_zero, List.set_cons_succ]
          refine takeH 2 (v := ?vf2) rfl (by kernel_rfl) (by kernel_rfl) (by kernel_rfl) (fun _ _ _ h => h) hH rfl ?yf2 ?rf2
          case yf2 => intro W hSw; go_simp; try with_reducible rfl
          try simp only [Act.put, List.setIfInBounds_toArray, List.set_cons_zero, List.set_cons_succ]
          refine takeH 3 (v := .bool false) rfl (by kernel_rfl) (by kernel_rfl) (by kernel_rfl) (fun _ _ _ h => h) hH rfl ?yf3 ?rf3
          case yf3 => intro W hSw; go_simp; first | done | simp only [hll] | omega | (simp; omega)
          try simp only [Act.put, List.setIfInBounds_toArray, List.set_cons_zero, List.set_cons_succ]
          refine takeH 4 (v := ?vf4) rfl (by kernel_rfl) (by kernel_rfl) (by kernel_rfl) (fun _ _ _ h => h) hH rfl ?yf4 ?rf4
          case yf4 => intro W hSw; go_simp; try with_reducible rfl
          try simp only [Act.put, List.setIfInBounds_toArray, List.set_cons_zero, List.set_cons_succ]
          refine skipH 5 rfl (by kernel_rfl) (by kernel_rfl) (by kernel_rfl) (fun _ _ _ h => h) hH rfl ?_
          try simp only [Act.put, List.setIfInBounds_toArray, List.set_cons_zero, List.set_cons_succ]
          refine skipH 6 rfl (by kernel_rfl) (by kernel_rfl) (by kernel_rfl) (fun _ _ _ h => h) hH rfl ?_
          try simp only [Act.put, List.setIfInBounds_toArray, List.set_cons_zero, List.set_cons_succ]
          refine skipH 7 rfl (by kernel_rfl) (by kernel_rfl) (by kernel_rfl) (fun _ _ _ h => h) hH rfl ?_
          try simp only [Act.put, List.setIfInBounds_toArray, List.set_cons_zero, List.set_cons_succ]
          refine skipH 8 rfl (by kernel_rfl) (by kernel_rfl) (by kernel_rfl) (fun _ _ _ h => h) hH rfl ?_
          try simp only [Act.put, List.setIfInBounds_toArray, List.set_cons_zero, List.set_cons_succ]
          refine skipH 9 rfl (by kernel_rfl) (by kernel_rfl) (by kernel_rfl) (fun _ _ _ h => h) hH rfl ?_
          try simp only [Act.put, List.setIfInBounds_toArray, List.set_cons_zero, List.set_cons_succ]
          refine skipH 10 rfl (by kernel_rfl) (by kernel_rfl) (by kernel_rfl) (fun _ _ _ h => h) hH rfl ?_
          try simp only [Act.put, List.setIfInBounds_toArray, List.set_cons_zero, List.set_cons_succ]
          refine takeH 11 (v := ?vf11) rfl (by kernel_rfl) (by kernel_rfl) (by kernel_rfl) (fun _ _ _ h => h) hH rfl ?yf11 ?rf11
          case yf11 => intro W hSw; go_simp; try with_reducible rfl
          try simp only [Act.put, List.setIfInBounds_toArray, List.set_cons_zero, List.set_cons_succ]
          refine wpAnyH_done (by kernel_rfl) ?_ _
          try simp only [Act.put]
          have hbw := hH.1
          clear hH hb0 k0 k1 k2 k3
          generalize wr.drew = wz at *
          have Hbz := Lib.hid (below_step Hbel.out Hbel.out.size hbw)
          have Hbldz := Lib.hid (Hbld.out.below hbw (Nat.le_refl _))
          have hrz := hbw.size
          clear hbw Hbld
          have Hbld := Hbldz
          have hlk : ((g.take k).map Vx.fd).length = k := by simp; omega
          have hel : ((g.take k).map Vx.fd).length ≤ 1048576 := by omega
          obtain ⟨au, cu, rfl, _⟩ := Hbld.out.slice
          have Hlk := Lib.hid hlk
          rw [hlk] at Hbldz
          clear hlk hel Hbld
          have sx := HX.out wz Hbz.out
          have k0 := sx.cell 0 (v := .int .i64 x.r) rfl
          have k1 := sx.cell 1 (v := .int .i64 x.a) rfl
          have k2 := sx.cell 2 (v := .slice pa x.ps.length pc) rfl
          have k3 := sx.cell 3 (v := .int .i64 x.d) rfl
          clear sx
          have hbz0 := Hb2.out.trans (Hbz.out.mono Hb2.out.size)
          have Hbz0 := Lib.hid hbz0; clear hbz0
          obtain ⟨hsz1, hsz2⟩ := Hsrc.out wz Hbz0.out
          have Hone := Lib.hid (HO.out x pa pc wz hbp hsz1 hsz2); clear hsz1 hsz2
          have Hex := Lib.hid (show (insG g x).map Vx.fd = ((g.take k).map Vx.fd ++ [[.i x.r, .i x.a, .l x.ps, .i x.d]]) ++ (g.drop k).map Vx.fd by unfold insG; rw [hnk, List.map_append, List.map_append]; rfl)
          have hdl : (g.drop k).length = g.length - k := List.length_drop
          rw [Hlk.out]
          generalize (g.take k).map Vx.fd = es at *
          go_wp2_with fail
          refine Hone.out.mono ?_
          rintro e w7 ⟨v7, rfl, hown7, hb7⟩
          obtain ⟨a7, c7, rfl, _, _⟩ := hown7.ints
          have hs7 := hb7.size
          have hbz2 := Hbz.out.size
          have Hbld7 := Lib.hid ((Hbldz.out.below hb7 hrz))
          obtain ⟨hfd, hap, hnew⟩ := vertex_new (B := w2.heap.size) x.r x.a x.d hown7 hbz2
          have Hfd := Lib.hid hfd; clear hfd
          have Hap := Lib.hid hap; clear hap
          have Hnew := Lib.hid (fun c hc g e => Nat.le_trans hrz (hnew c hc g e)); clear hnew hown7 k0 k1 k2 k3
          have Hbz7 := Lib.hid (below_step Hbz.out Hbz.out.size hb7); clear hb7
          have hB7 : w2.heap.size ≤ w7.heap.size := by omega
          have hlk := Hlk.out
          have hel : es.length ≤ 1048576 := by omega
          clear hlk
          obtain ⟨ad2, hif⟩ : ∃ ad2, (if vc = k then va else va.map fun x => x.add (k * 4)) = ad2 := ⟨_, rfl⟩
          go_wp2_with (at_builtin; refine wpList_push_own (Ei := 3) Try.underlying32 vertex_inf rfl (by decide) (by decide) rfl (.tmp 66) (.tmp 69) rfl w2.heap.size _ es _ _ _ rfl rfl (by intro u hu; simp at hu; rcases hu with rfl | rfl | rfl | rfl <;> rfl) rfl rfl Hfd.out Hap.out wr.heap.size Hbld7.out (by omega) Hnew.out hel rfl hB7 ?_; intro v8 w8 hbld8 hg8 hat8)
          have hown8 := hbld8
          obtain ⟨a8, c8, rfl, hm8⟩ := hown8.slice
          have hl8 : (es ++ [[Fd.i x.r, .i x.a, .l x.ps, .i x.d]]).length = k + 1 := by rw [List.length_append, Hlk.out]; rfl
          rw [hl8] at hbld8 ⊢
          clear hm8 hl8
          have Hbz8 := Lib.hid (Hbz7.out.grown hg8 hB7 (fun g e => (Hbld7.out.lt g e).1))
          have Hbld8 := Lib.hid hbld8; clear hbld8 hown8 hg8 hat8 Hfd Hap Hnew
          have hgr := Hg.out.under (Hb2.out.trans (Hbz8.out.mono Hb2.out.size))
          have hB8 := Hbz8.out.size
          obtain ⟨fp2, hgr2⟩ := hgr.tail k hk
          rw [hif] at hgr2
          have Hcopy := Lib.hid (HD.out k _ fp2 w8 hgr2); clear hgr2 hgr HD hif
          refine Hcopy.out.mono ?_
          rintro e w9 ⟨u9, rfl, ho9, hb9⟩
          have Hbld9 := Lib.hid (Hbld8.out.below hb9 (Nat.le_refl _))
          have Ho9 := Lib.hid ho9; clear ho9
          have hs9 := hb9.size
          have Hbz9 := Lib.hid (below_step Hbz8.out hB8 hb9); clear hb9
          have hB9 : w2.heap.size ≤ w9.heap.size := by omega
          have hmm : (es ++ [[Fd.i x.r, .i x.a, .l x.ps, .i x.d]]).length + ((g.drop k).map Vx.fd).length ≤ 2097152 := by rw [List.length_append, List.length_map, hdl, Hlk.out]; simp; omega
          go_wp2_with (at_builtin; refine wpList_app_own (Ei := 3) Try.underlying32 vertex_inf rfl (by decide) (by decide) rfl (.tmp 71) (.tmp 75) rfl w2.heap.size _ u9 _ _ rfl w8.heap.size w8.heap.size w9.heap.size Hbld9.out Ho9.out (Nat.le_refl _) (Nat.le_refl _) hB8 hmm rfl hB9 ?_; intro v10 w10 hbld10 hg10)
          go_ret2
          exact ⟨_, by rw [Hz1.out]; rfl, by rw [Hz2.out, Hex.out]; exact hbld10.from (by omega), Hb0.out.trans ((Hb2.out.trans ((Hbz9.out.grown hg10 hB9 (fun g e => (Hbld9.out.lt g e).1)).mono Hb2.out.size)).mono (by omega))⟩

end Go.Proofs.Ythnbjdijcpcafaa

/- The reference's adding, merging and measuring of graphs, each by a walk of its text; conditions: lists are shorter than 2^40 (a graph: 2^20). -/
namespace Go.Proofs.Ythnbjdijcpcafaa
open Go.RowKit

theorem vtx_round {c : List Int} {x : Vx} (h : vtxB c x = true) : 0 ≤ x.r ∧ x.r ≤ 30 := by
  unfold vtxB rngB at h; simp only [Bool.and_eq_true, decide_eq_true_eq] at h; exact h.1
theorem graph_vtx {c : List Int} {g : List Vx} (h : graphB c g = true) : ∀ x ∈ g, vtxB c x = true := by
  intro x hx
  obtain ⟨k, hk, rfl⟩ := List.mem_iff_getElem.1 hx
  unfold graphB at h
  simp only [Bool.and_eq_true] at h
  have := allB_upto h.2 k hk
  unfold okV at this
  rw [getV hk] at this
  simp only [Bool.and_eq_true] at this
  exact this.1

def gaB (c : List Int) (g : List Vx) (x : Vx) : Bool := graphB c g && vtxB c x
def gaN (c : List Int) (g : List Vx) (x : Vx) : Int := if gaB c g x = true then addN g x else 4
def gaG (c : List Int) (g : List Vx) (x : Vx) : List Vx := if gaB c g x = true then addG g x else []
theorem ga_no {c : List Int} {g : List Vx} {x : Vx} (h : gaB c g x = false) : gaN c g x = 4 ∧ gaG c g x = [] := ⟨by unfold gaN; rw [if_neg (by simp [h])], by unfold gaG; rw [if_neg (by simp [h])]⟩
theorem ga_yes {c : List Int} {g : List Vx} {x : Vx} (h : gaB c g x = true) : gaN c g x = addN g x ∧ gaG c g x = addG g x := ⟨by unfold gaN; rw [if_pos h], by unfold gaG; rw [if_pos h]⟩
theorem ownR_none (w : World) (w0 : Nat) (h : w0 ≤ w.heap.size) : OwnR 25 3 4 (w.alloc (.cells #[] 25)) w0 (w.alloc (.cells #[] 25)).heap.size (.slice (some ⟨w.heap.size, 0, none⟩) 0 0) (([] : List Vx).map Vx.fd) :=
  .nil (World.ownsRow_made w #[] 0 h (by simp) (by simp)) (fun g e => by cases e; simp)
/-- The graphs' vertices added one after the other, from index k on; none where two contradict. -/
def mrgF : List Vx → List Vx → Option (List Vx)
  | out, [] => some out
  | out, x :: b => if addN out x = 2 then none else mrgF (addG out x) b
def mgO (c : List Int) (a b : List Vx) : Option (List Vx) := if graphB c a = true ∧ graphB c b = true then mrgF a b else none
def mgG (c : List Int) (a b : List Vx) : List Vx := (mgO c a b).getD []
def mgB (c : List Int) (a b : List Vx) : Bool := (mgO c a b).isSome
theorem mg_no {c : List Int} {a b : List Vx} (h : ¬ (graphB c a = true ∧ graphB c b = true)) : mgG c a b = [] ∧ mgB c a b = false := by unfold mgG mgB mgO; rw [if_neg h]; exact ⟨rfl, rfl⟩
theorem mrg_stop {a b : List Vx} {k : Nat} {out : List Vx} (hk : k < b.length) (h : mrgF out (b.drop k) = mrgF a b) (h2 : addN out b[k] = 2) : mrgF a b = none := by
  rw [← h, List.drop_eq_getElem_cons hk, mrgF, if_pos h2]
theorem mrg_step {a b : List Vx} {k : Nat} {out : List Vx} (hk : k < b.length) (h : mrgF out (b.drop k) = mrgF a b) (h2 : addN out b[k] ≠ 2) : mrgF (addG out b[k]) (b.drop (k + 1)) = mrgF a b := by
  rw [← h, List.drop_eq_getElem_cons hk, mrgF, if_neg h2]
theorem mrg_end {a b : List Vx} {out : List Vx} (h : mrgF out (b.drop b.length) = mrgF a b) : mrgF a b = some out := by rw [← h, List.drop_length]; rfl
theorem addG_len (g : List Vx) (x : Vx) : (addG g x).length ≤ g.length + 1 := by
  unfold addG
  split
  · unfold insG
    rw [List.length_append, List.length_append, List.length_take, List.length_drop]
    simp; omega
  · omega
theorem addG_mem {g : List Vx} {x y : Vx} (h : y ∈ addG g x) : y ∈ g ∨ y = x := by
  unfold addG at h
  split at h
  · unfold insG at h
    rcases List.mem_append.1 h with h | h
    · rcases List.mem_append.1 h with h | h
      · exact .inl (List.mem_of_mem_take h)
      · simp at h; exact .inr h
    · exact .inl (List.mem_of_mem_drop h)
  · exact .inl h
set_option maxHeartbeats 1000000 in
theorem spec_GraphMerge (ac : Option Addr) (capc : Nat) (c : List Int) (a b : List Vx) (va vb : Value) (fa fb : List Nat) (w : World) (hn : c.length ≤ 1099511627776) (hbig : a.length + b.length ≤ 1048576) (hpa : ∀ y ∈ a, y.ps.length ≤ 1099511627776) (hpb : ∀ y ∈ b, y.ps.length ≤ 1099511627776) (hc : IntsAt w ac c) (ha : Gr w a va fa) (hb : Gr w b vb fb) :
    Calls Try.prog 14 #[.slice ac c.length capc, va, vb] w fun e w' => ∃ u, e = .returned (.tuple #[u, .bool (mgB c a b)]) ∧ OwnR 25 3 4 w' w.heap.size w'.heap.size u ((mgG c a b).map Vx.fd) ∧ Below w.heap.size w w' := by
  have HVa := Lib.hid (spec_GraphValid ac capc c a va fa w hn (by omega) hpa hc ha)
  have HVb := Lib.hid (fun W h h' => spec_GraphValid ac capc c b vb fb W hn (by omega) hpb h h')
  have Hc := Lib.hid hc; clear hc
  have Ha := Lib.hid ha; clear ha
  have Hb := Lib.hid hb; clear hb
  have hno := mg_no (c := c) (a := a) (b := b)
  cases hga : graphB c a with
  | false =>
    rw [hga] at HVa
    obtain ⟨hz2, hz1⟩ := hno (fun h => by rw [hga] at h; exact absurd h.1 (by simp))
    have Hz1 := Lib.hid hz1
    have Hz2 := Lib.hid hz2
    clear hz1 hz2 hno
    go_enter Try.func14, Try.ntmps14
    go_wp2_with fail
    refine HVa.out.mono ?_
    rintro e w1 ⟨rfl, hb1⟩
    have Hb1 := Lib.hid hb1; clear hb1
    go_wp2
    go_ret2
    exact ⟨_, by rw [Hz1.out]; rfl, by rw [Hz2.out]; exact ownR_none _ _ Hb1.out.size, Hb1.out.alloc Hb1.out.size _⟩
  | true =>
  rw [hga] at HVa
  cases hgb : graphB c b with
  | false =>
    rw [hgb] at HVb
    obtain ⟨hz2, hz1⟩ := hno (fun h => by rw [hgb] at h; exact absurd h.2 (by simp))
    have Hz1 := Lib.hid hz1
    have Hz2 := Lib.hid hz2
    clear hz1 hz2 hno
    go_enter Try.func14, Try.ntmps14
    go_wp2_with fail
    refine HVa.out.mono ?_
    rintro e w1 ⟨rfl, hb1⟩
    go_wp2_with fail
    refine (HVb.out w1 (Hc.out.below hb1) (Hb.out.under hb1)).mono ?_
    rintro e w2 ⟨rfl, hb2⟩
    have Hb1 := Lib.hid (below_step hb1 hb1.size hb2); clear hb1 hb2
    go_wp2
    go_ret2
    exact ⟨_, by rw [Hz1.out]; rfl, by rw [Hz2.out]; exact ownR_none _ _ Hb1.out.size, Hb1.out.alloc Hb1.out.size _⟩
  | true =>
  rw [hgb] at HVb
  have hO : mgO c a b = mrgF a b := by unfold mgO; rw [if_pos ⟨hga, hgb⟩]
  have Hnone := Lib.hid (show mrgF a b = none → mgB c a b = false ∧ mgG c a b = [] from fun h => by unfold mgB mgG; rw [hO, h]; exact ⟨rfl, rfl⟩)
  have Hsome := Lib.hid (show ∀ out, mrgF a b = some out → mgB c a b = true ∧ mgG c a b = out from fun out h => by unfold mgB mgG; rw [hO, h]; exact ⟨rfl, rfl⟩)
  have HC := Lib.hid (fun W h => spec_l11Copy a va fa W (by omega) hpa h)
  have Hvb := Lib.hid (graph_vtx hgb)
  have HPb := Lib.hid hpb; clear hpb
  have HPa := Lib.hid hpa; clear hpa
  obtain ⟨ab, cb, rfl⟩ := Hb.out.slice
  clear hno hO hga hgb
  go_enter Try.func14, Try.ntmps14
  go_wp2_with fail
  refine HVa.out.mono ?_
  rintro e w1 ⟨rfl, hb1⟩
  go_wp2_with fail
  refine (HVb.out w1 (Hc.out.below hb1) (Hb.out.under hb1)).mono ?_
  rintro e w2 ⟨rfl, hb2⟩
  have Hb1 := Lib.hid (below_step hb1 hb1.size hb2); clear hb1 hb2
  go_wp2_with fail
  refine (HC.out w2 (Ha.out.under Hb1.out)).mono ?_
  rintro e w3 ⟨u3, rfl, ho3, hb3⟩
  have Ho3 := Lib.hid (ho3.from Hb1.out.size)
  have Hb3 := Lib.hid (below_step Hb1.out Hb1.out.size hb3); clear ho3 hb3
  go_wp2
  go_loopw [8, 9] (fun u i wr => ∃ (k : Nat) (out : List Vx), k ≤ b.length ∧ i = .int .i64 k ∧ out.length ≤ a.length + k ∧ (∀ y ∈ out, y.ps.length ≤ 1099511627776) ∧ mrgF out (b.drop k) = mrgF a b ∧ OwnR 25 3 4 wr w.heap.size wr.heap.size u (out.map Vx.fd) ∧ Below w.heap.size w wr) (fun _ i _ => b.length - (intOf i).toNat)
  case atStart => exact ⟨0, a, Nat.zero_le _, rfl, by omega, HPa.out, rfl, Ho3.out, Hb3.out⟩
  case round =>
    obtain ⟨k, out, hk, rfl, hol, hop, hmr, hbld, hbel⟩ := hrel
    have Hbld := Lib.hid hbld; clear hbld
    have Hbel := Lib.hid hbel; clear hbel
    have Hmr := Lib.hid hmr; clear hmr
    by_cases hlt : k < b.length
    · obtain ⟨gb, off, rfl, hbb, hat⟩ := (Hb.out.under Hbel.out).at (by omega)
      obtain ⟨c0, c1, ⟨pa, pc, c2, i2, s2⟩, c3⟩ := hat k hlt
      have hpy := HPb.out _ (List.getElem_mem hlt)
      have hrr := vtx_round (Hvb.out _ (List.getElem_mem hlt))
      obtain ⟨fo, hro⟩ := Hbld.out.reads
      have Hadd := Lib.hid (spec_l11Add out _ fo b[k] pa pc wr (by omega) hop hpy hrr.1 (by omega) hro s2 i2)
      have Hstop := Lib.hid (mrg_stop hlt Hmr.out)
      have Hstep := Lib.hid (mrg_step hlt Hmr.out)
      have hal := addG_len out b[k]
      have Hin := Lib.hid (show ∀ y ∈ addG out b[k], y.ps.length ≤ 1099511627776 from fun y hy => by
        rcases addG_mem hy with h | rfl
        · exact hop y h
        · exact hpy)
      clear hat i2 s2 hro hpy hrr hop
      generalize b[k] = y at *
      go_wp2_with fail
      refine Hadd.out.mono ?_
      rintro e w6 ⟨u6, rfl, ho6, hb6⟩
      have Ho6 := Lib.hid (ho6.from Hbel.out.size)
      have Hb6 := Lib.hid (below_step Hbel.out Hbel.out.size hb6); clear ho6 hb6 c0 c1 c2 c3
      by_cases h2 : addN out y = 2
      · obtain ⟨hz1, hz2⟩ := Hnone.out (Hstop.out h2)
        have Hz1 := Lib.hid hz1
        have Hz2 := Lib.hid hz2
        have e2 : (addN out y == 2) = true := by simpa using h2
        clear hz1 hz2 h2
        go_wp2
        go_ret2
        exact ⟨_, by rw [Hz1.out]; rfl, by rw [Hz2.out]; exact ownR_none _ _ Hb6.out.size, Hb6.out.alloc Hb6.out.size _⟩
      · have Hst := Lib.hid (Hstep.out h2)
        have e2 : (addN out y == 2) = false := by simpa using h2
        clear h2
        go_wp2
        go_roundw
        case rel => exact ⟨k + 1, _, by omega, by go_num, by omega, Hin.out, Hst.out, Ho6.out, Hb6.out⟩
        case measure => simp [intOf]; omega
    · have hke : k = b.length := by omega
      subst hke
      obtain ⟨hz1, hz2⟩ := Hsome.out out (mrg_end Hmr.out)
      have Hz1 := Lib.hid hz1
      have Hz2 := Lib.hid hz2
      clear hz1 hz2
      go_wp2
      go_ret2
      exact ⟨_, by rw [Hz1.out]; rfl, by rw [Hz2.out]; exact Hbld.out, Hbel.out⟩

end Go.Proofs.Ythnbjdijcpcafaa

/- Lists of truth values in memory of their own; general steps, nothing here speaks of the program. -/
namespace Go.Proofs.Ythnbjdijcpcafaa
open Go.RowKit

/-- The slice value v owns the truth values bs in memory made from block B on. -/
def OwnB (E : TypeId) (w : World) (B : Nat) (v : Value) (bs : List Bool) : Prop := w.ownsRow B E 1 v bs.length (bs.map Value.bool)
section
variable {E : TypeId} {w w' : World} {B : Nat} {v : Value} {bs : List Bool}
theorem OwnB.kept {row : Option Nat} (h : OwnB E w B v bs) (hg : w.grownBy w' row) (hne : v.ownBlock = none ∨ v.ownBlock ≠ row) : OwnB E w' B v bs := World.ownsRow.kept h hg hne
theorem OwnB.below (h : OwnB E w B v bs) (hg : Below w.heap.size w w') : OwnB E w' B v bs := h.kept (below_grown hg) (by cases hv : v.ownBlock <;> simp)
theorem OwnB.lt (h : OwnB E w B v bs) : ∀ k, v.ownBlock = some k → B ≤ k ∧ k < w.heap.size := World.ownsRow.lt h
theorem OwnB.mono {B' : Nat} (h : OwnB E w B v bs) (hB : B' ≤ B) : OwnB E w B' v bs := by
  refine ⟨h.1, ?_⟩
  rcases h.2 with h0 | ⟨g, cap, cur, e, hb, rest⟩
  · exact .inl h0
  · exact .inr ⟨g, cap, cur, e, by omega, rest⟩
theorem OwnB.slice (h : OwnB E w B v bs) : ∃ a cap, v = .slice a bs.length cap ∧ bs.length ≤ maxLen := by
  rcases h.2 with ⟨rfl, h0⟩ | ⟨g, cap, cur, rfl, hb, hg, hn, hm, hs, ht⟩
  · exact ⟨none, 0, by rw [h0], by rw [h0]; simp⟩
  · exact ⟨_, cap, rfl, by omega⟩
theorem OwnB.row (h : OwnB E w B v bs) (hx : 0 < bs.length) : ∃ g cap, v = .slice (some ⟨g, 0, none⟩) bs.length cap ∧ B ≤ g ∧ g < w.heap.size ∧ bs.length ≤ cap ∧
    (∀ j (h : j < bs.length), w.cell? ⟨g, j, none⟩ = some (.bool bs[j])) ∧ ∀ j, w.frozen? ⟨g, j, none⟩ = false := by
  rcases h.2 with ⟨rfl, h0⟩ | ⟨g, cap, cur, rfl, hb, hg, hn, hm, hs, ht⟩
  · omega
  · refine ⟨g, cap, rfl, hb, (Array.getElem?_eq_some_iff.1 hg).1, hn, fun j hj => ?_, fun j => frozen_of_row w g j cur E hg⟩
    have hc := World.ownsRow.cells (w := w) (base := B) (e := E) (size := 1) (v := .slice (some ⟨g, 0, none⟩) bs.length cap) (n := bs.length) (xs := bs.map Value.bool) h (g := g) rfl j (.bool bs[j]) (by simp [hj])
    rwa [addr_add] at hc
theorem OwnB.store {g cap n : Nat} (h : OwnB E w B (.slice (some ⟨g, 0, none⟩) n cap) bs) (hn : n = bs.length) (j : Nat) (z : Bool) :
    OwnB E (w.setCell ⟨g, j, none⟩ (.bool z)) B (.slice (some ⟨g, 0, none⟩) n cap) (bs.set j z) ∧ w.grownBy (w.setCell ⟨g, j, none⟩ (.bool z)) (some g) := by
  subst hn
  have := World.ownsRow.stored (w := w) (base := B) (e := E) (size := 1) (g := g) (n := bs.length) (cap := cap) h j (.bool z)
  refine ⟨?_, this.2⟩
  unfold OwnB
  rw [List.map_set, List.length_set]
  exact this.1
theorem OwnB.apart {E' : TypeId} {B' : Nat} {u : Value} {xs : List Int} (h' : OwnB E w B v bs) (h : Own E' w B' u xs) (hE : E ≠ E') : v.ownBlock = none ∨ v.ownBlock ≠ u.ownBlock := by
  rcases h'.2 with ⟨rfl, _⟩ | ⟨g, cap, cur, rfl, _, hg, _⟩
  · exact .inl rfl
  · rcases h.2 with ⟨rfl, _⟩ | ⟨g', cap', cur', rfl, _, hg', _⟩
    · exact .inr (fun e => by cases e)
    · refine .inr fun e => hE ?_
      have e' : g = g' := by cases e; rfl
      subst e'
      rw [hg] at hg'
      cases hg'
      rfl
/-- New memory holds no truth. -/
theorem ownB_new (E : TypeId) (w : World) (n : Nat) (hm : n ≤ maxLen) : OwnB E (w.alloc (.cells (madeCells #[.bool false] n) E)) w.heap.size (.slice (some ⟨w.heap.size, 0, none⟩) n n) (List.replicate n false) := by
  have e : (madeCells #[Value.bool false] n).toList = (List.replicate n false).map Value.bool := by
    refine List.ext_getElem (by simp [madeCells]) fun i h1 h2 => ?_
    simp [madeCells, Nat.mod_one]
  have hs : (madeCells #[Value.bool false] n).size = n := by simp [madeCells]
  refine ⟨by simp, .inr ⟨w.heap.size, n, _, by simp, Nat.le_refl _, heap_alloc_new w _, by simp, hm, by rw [hs, Nat.mul_one], ?_⟩⟩
  rw [e]
  exact List.take_of_length_le (by simp)
end

end Go.Proofs.Ythnbjdijcpcafaa

/- A region that draws its order, operation by operation, where the condition on the world is kept up to a last operation alone (a store into what was loaded): general steps, nothing here speaks of the program. -/
namespace Go.Proofs.Ythnbjdijcpcafaa
open Go.RowKit

/-- Whatever order is picked from here on; S holds behind every operation until number m has come up. -/
def wpAnyL (P : Program) (md : Region.Mode) (ops : Array Oper) (Q : Exit → Act → World → Prop) (m : Nat) (S : World → Prop) : Nat → Array Bool → Act → World → Prop
  | 0, listed, a, w => Region.ready md ops listed = [] ∧ Q .normal a w
  | fuel + 1, listed, a, w =>
    (Region.ready md ops listed = [] → Q .normal a w) ∧
    ∀ i ∈ Region.ready md ops listed, wpOp P ops Q i (fun a' w' => ((listed.setIfInBounds i true).getD m true = false → S w') ∧ wpAnyL P md ops Q m S fuel (listed.setIfInBounds i true) a' w') a w

section
variable {P : Program} {md : Region.Mode} {ops : Array Oper} {Q : Exit → Act → World → Prop} {S : World → Prop} {m : Nat}

theorem any_of_L : ∀ (fuel : Nat) (listed : Array Bool) (a : Act) (w : World), wpAnyL P md ops Q m S fuel listed a w → wpAny P md ops Q fuel listed a w
  | 0, _, _, _, h => h
  | fuel + 1, _, _, _, h => ⟨h.1, fun i hi => wpOp_mono (fun a' w' h' => any_of_L fuel _ a' w' h'.2) (h.2 i hi)⟩

/-- Of two that may come up, neither waits for the other. -/
theorem ready_pair {listed : Array Bool} {i j : Nat} (hi : i ∈ Region.ready md ops listed) (hj : j ∈ Region.ready md ops listed) :
    listed.getD j true = false ∧ ∃ o, ops[j]? = some o ∧ ∀ e ∈ o.after, Region.binds md e = true → e.on ≠ i := by
  obtain ⟨hun, o, ho, hall⟩ := mem_ready.1 hj
  refine ⟨hun, o, ho, fun e he hb heq => ?_⟩
  have h1 := hall e he hb
  have h0 := (mem_ready.1 hi).1
  rw [heq] at h1
  by_cases hlt : i < listed.size <;> simp [hlt] at h0 h1
  rw [h0] at h1; cases h1
/-- Number m waits for number i. -/
def waits (md : Region.Mode) (ops : Array Oper) (m i : Nat) : Bool := (ops[m]?.map fun o => o.after.any fun e => Region.binds md e && e.on == i).getD false
theorem waits_not {listed : Array Bool} {i : Nat} (hw : waits md ops m i = true) (hi : i ∈ Region.ready md ops listed) : m ∉ Region.ready md ops listed := by
  intro hm
  obtain ⟨_, o, ho, hno⟩ := ready_pair hi hm
  unfold waits at hw
  rw [ho, Option.map_some, Option.getD_some, Array.any_eq_true'] at hw
  obtain ⟨e, he, hb⟩ := hw
  rw [Bool.and_eq_true, beq_iff_eq] at hb
  exact hno e he hb.1 hb.2

/-- Whoever may come up ahead of number i leaves its temporaries alone. -/
def FreeAt (md : Region.Mode) (ops : Array Oper) (oi : Oper) (i : Nat) (listed : Array Bool) : Prop :=
  ∀ j oj, ops[j]? = some oj → j ≠ i → listed.getD j true = false → (∀ e ∈ oj.after, Region.binds md e = true → e.on ≠ i) → oi.apart ops oj = true
theorem FreeAt.set {oi : Oper} {i j : Nat} {listed : Array Bool} (h : FreeAt md ops oi i listed) (hj : listed.getD j true = false) : FreeAt md ops oi i (listed.setIfInBounds j true) := by
  intro k ok hk hki hun hno
  refine h k ok hk hki ?_ hno
  rcases Nat.decEq j k with hjk | hjk
  · rwa [getD_set_ne true hjk] at hun
  · exact hjk ▸ hj
theorem firstL {i : Nat} {oi : Oper} {v : Value} (hi : ops[i]? = some oi) (hsel : ∀ (j : Nat) (o : Oper) cs b, ops[j]? = some o → o.op ≠ .select cs b)
    (hQ : ∀ c a w, Q (.panic c) (a.put oi.dst v) w → Q (.panic c) a w) (hw : waits md ops m i = true) (fuel : Nat) :
    ∀ (listed : Array Bool) (a : Act) (w : World), FreeAt md ops oi i listed → listed.getD m true = false → i ∈ Region.ready md ops listed → YieldsIf P ops S oi v a → S w →
      wpAnyL P md ops Q m S fuel (listed.setIfInBounds i true) (a.put oi.dst v) w → wpAnyL P md ops Q m S (fuel + 1) listed a w := by
  have im : ∀ {listed}, i ∈ Region.ready md ops listed → i ≠ m := fun hr e => waits_not hw hr (e ▸ hr)
  induction fuel with
  | zero =>
    intro listed a w _ _ hr hy hS H
    refine ⟨fun h => absurd hr (by rw [h]; simp), fun j hj => ?_⟩
    rcases Nat.decEq j i with hji | rfl
    · exact absurd (ready_mono hj hji) (by rw [H.1]; simp)
    · exact hy.wpOp hi hS ⟨fun _ => hS, H⟩
  | succ fuel ih =>
    intro listed a w hfree hmf hr hy hS H
    refine ⟨fun h => absurd hr (by rw [h]; simp), fun j hj => ?_⟩
    rcases Nat.decEq j i with hji | rfl
    · have hjm : j ≠ m := fun e => waits_not hw hr (e ▸ hj)
      obtain ⟨hjun, oj, hoj, hno⟩ := ready_pair hr hj
      refine wpOp_mono (fun a' w' h3 => ?_) (wpOp_putIf hoj (hfree j oj hoj hji hjun hno) (fun cs b => hsel i oi cs b hi) (fun cs b => hsel j oj cs b hoj) hQ hy (H.2 j (ready_mono hj hji)))
      have hS' : S w' := h3.2.1 (by rw [getD_set_ne true hjm, getD_set_ne true (im hr)]; exact hmf)
      exact ⟨fun _ => hS', ih _ a' w' (hfree.set hjun) (by rw [getD_set_ne true hjm]; exact hmf) (ready_mono hr (Ne.symm hji)) h3.1 hS' (by rw [Array.setIfInBounds_comm _ _ hji]; exact h3.2.2)⟩
    · exact hy.wpOp hi hS ⟨fun _ => hS, H⟩
end

section
variable {P : Program} {md : Region.Mode} {l : List Oper} {Q : Exit → Act → World → Prop} {S : World → Prop} {oi : Oper} {rest : List Oper} {fuel m : Nat} {listed : Array Bool} {a : Act} {w : World}

/-- Take number i first: it is carried out and yields v in every world that meets S. -/
theorem takeL (i : Nat) {v : Value} (hi : l.drop i = oi :: rest) (hs : Region.noSelect l.toArray = true) (hf : Region.free md l.toArray listed i = true) (hr : (Region.ready md l.toArray listed).contains i = true) (hm : waits md l.toArray m i = true) (hm' : listed.getD m true = false)
    (hQ : ∀ c a w, Q (.panic c) (a.put oi.dst v) w → Q (.panic c) a w) (hS : S w) (hw : Region.wanted oi (yielded l.toArray a.tmps) = true)
    (hy : ∀ w, S w → (execOp a.eval oi).run P w = .ok (.value v) w)
    (h : wpAnyL P md l.toArray Q m S fuel (listed.setIfInBounds i true) (a.put oi.dst v) w) : wpAnyL P md l.toArray Q m S (fuel + 1) listed a w :=
  firstL (drop_at hi) (Region.noSelect_spec hs) hQ hm fuel listed a w (Region.free_spec (drop_at hi) hf) hm' (by simpa using hr) (.inl ⟨hw, hy⟩) hS h
/-- Number i is left out by its guard. -/
theorem skipL (i : Nat) (hi : l.drop i = oi :: rest) (hs : Region.noSelect l.toArray = true) (hf : Region.free md l.toArray listed i = true) (hr : (Region.ready md l.toArray listed).contains i = true) (hm : waits md l.toArray m i = true) (hm' : listed.getD m true = false)
    (hQ : ∀ c a w, Q (.panic c) (a.put oi.dst undef) w → Q (.panic c) a w) (hS : S w) (hw : Region.wanted oi (yielded l.toArray a.tmps) = false)
    (h : wpAnyL P md l.toArray Q m S fuel (listed.setIfInBounds i true) (a.put oi.dst undef) w) : wpAnyL P md l.toArray Q m S (fuel + 1) listed a w :=
  firstL (drop_at hi) (Region.noSelect_spec hs) hQ hm fuel listed a w (Region.free_spec (drop_at hi) hf) hm' (by simpa using hr) (.inr ⟨hw, rfl⟩) hS h
/-- Number i alone may come up, and is not the last: it is carried out, and S is shown behind it. -/
theorem callL (i : Nat) (hi : l.drop i = oi :: rest) (hr : Region.ready md l.toArray listed = [i]) (hw : Region.wanted oi (yielded l.toArray a.tmps) = true)
    (h : ∀ K' : Act → World → Prop, Shut (∀ a w, S w → (S w → wpAnyL P md l.toArray Q m S fuel (listed.setIfInBounds i true) a w) → K' a w) → Oper.wp P oi a w K' Q) : wpAnyL P md l.toArray Q m S (fuel + 1) listed a w := by
  refine ⟨fun h0 => absurd (hr ▸ h0) (by simp), fun j hj => ?_⟩
  rw [hr] at hj
  have : j = i := by simpa using hj
  subst this
  exact wpOp_step (drop_at hi) fun K' hK => by rw [if_pos hw]; exact h K' fun a w hS hW => hK a w ⟨fun _ => hS, hW hS⟩
/-- The last one. -/
theorem lastL (hi : l.drop m = oi :: rest) (hr : Region.ready md l.toArray listed = [m]) (hend : Region.ready md l.toArray (listed.setIfInBounds m true) = []) (hm : (listed.setIfInBounds m true).getD m true = true) (hw : Region.wanted oi (yielded l.toArray a.tmps) = true)
    (h : ∀ K' : Act → World → Prop, Shut (∀ a w, Q .normal a w → K' a w) → Oper.wp P oi a w K' Q) : wpAnyL P md l.toArray Q m S (fuel + 1) listed a w := by
  refine ⟨fun h0 => absurd (hr ▸ h0) (by simp), fun j hj => ?_⟩
  rw [hr] at hj
  have : j = m := by simpa using hj
  subst this
  refine wpOp_step (drop_at hi) fun K' hK => by
    rw [if_pos hw]
    refine h K' fun a w hq => hK a w ⟨fun e => absurd (hm.symm.trans e) (by simp), ?_⟩
    cases fuel with
    | zero => exact ⟨hend, hq⟩
    | succ f => exact ⟨fun _ => hq, by rw [hend]; simp⟩
theorem wp_region_L (m : Nat) (S : World → Prop) {id : Nat} {ops : Array Oper} {a : Act} {w : World} (hm : P.follows .mixedOrders = true) (hS : S w.drew)
    (h : S w.drew → wpAnyL P .any ops Q m S ops.size (Array.replicate ops.size false) a w.drew) : (Code.region id ops true).wp P Q a w :=
  wp_region_any hm (any_of_L _ _ _ _ (h hS))
end

end Go.Proofs.Ythnbjdijcpcafaa

/- The reference's height of a graph and the past of a vertex, each by a walk of its text; conditions: lists are shorter than 2^40 (a graph: 2^20), and where the text asks it, the graph is valid. -/
namespace Go.Proofs.Ythnbjdijcpcafaa
open Go.RowKit

/-! the order of a graph -/
theorem bef_trans {a b c : Vx} (h : befB a b = true) (k : befB b c = true) : befB a c = true := by
  have h := of_decide_eq_true h
  have k := of_decide_eq_true k
  exact decide_eq_true (by omega)
theorem graph_sorted {c : List Int} {g : List Vx} (h : graphB c g = true) : g.Pairwise fun a b => befB a b = true := by
  unfold graphB at h
  simp only [Bool.and_eq_true] at h
  have hup := allB_upto h.2
  have next : ∀ i (hi : i + 1 < g.length), befB g[i] g[i + 1] = true := by
    intro i hi
    have := hup (i + 1) hi
    unfold okV at this
    rw [getV hi, Nat.add_sub_cancel, getV (show i < g.length by omega)] at this
    simp only [Bool.and_eq_true, Bool.or_eq_true] at this
    rcases this.2.1 with h | h
    · simp at h
    · exact h
  have step : ∀ d i (hi : i + 1 + d < g.length), befB g[i] g[i + 1 + d] = true := by
    intro d
    induction d with
    | zero => intro i hi; exact next i hi
    | succ d ih => intro i hi; exact bef_trans (ih i (by omega)) (next (i + 1 + d) hi)
  refine List.pairwise_iff_getElem.2 fun i j hi hj hij => ?_
  have := step (j - i - 1) i (by omega)
  simpa [show i + 1 + (j - i - 1) = j by omega] using this
theorem members_pairwise {n : Nat} {ms : List Int} (h : ms.Pairwise (· < ·)) (hb : ∀ m ∈ ms, 0 ≤ m ∧ m < n) : membersB n ms = true := by
  unfold membersB
  refine allB_yes (k := ms.length) (fun j hj => ?_) (Nat.le_refl _)
  have hb := hb ms[j] (List.getElem_mem hj)
  refine okAt_yes hj hb.1 hb.2 ?_
  by_cases h0 : j = 0
  · exact .inl h0
  · refine .inr ?_
    rw [getD_get (by omega)]
    exact List.pairwise_iff_getElem.1 h (j - 1) j (by omega) hj (by omega)
theorem vtx_author {c : List Int} {x : Vx} (h : vtxB c x = true) : 0 ≤ x.a ∧ x.a < c.length := by
  unfold vtxB autB at h; simp only [Bool.and_eq_true, decide_eq_true_eq] at h; omega
theorem auth_members {c : List Int} {g : List Vx} (h : graphB c g = true) (r : Int) : membersB c.length (authZ g r) = true := by
  refine members_pairwise ?_ fun m hm => ?_
  · unfold authZ
    rw [List.pairwise_map]
    refine List.Pairwise.imp_of_mem (R := fun a b => befB a b = true) (fun {a b} ha hb hab => ?_) ((graph_sorted h).filter _)
    have ha := of_decide_eq_true (List.mem_filter.1 ha).2
    have hb := of_decide_eq_true (List.mem_filter.1 hb).2
    have := of_decide_eq_true hab
    omega
  · unfold authZ at hm
    obtain ⟨x, hx, rfl⟩ := List.mem_map.1 hm
    exact vtx_author (graph_vtx h x (List.mem_filter.1 hx).1)

def qAt (c : List Int) (g : List Vx) (r : Int) : Bool := decide (quorumZ c ≤ weightZ c (authZ g r))
/-- The largest round below n with a quorum, or -1. -/
def hgtTo (c : List Int) (g : List Vx) : Nat → Int
  | 0 => -1
  | n + 1 => if qAt c g n = true then n else hgtTo c g n
def hgtZ (c : List Int) (g : List Vx) : Int := hgtTo c g 31
set_option maxHeartbeats 1000000 in
theorem spec_l11Height (ac : Option Addr) (capc : Nat) (c : List Int) (g : List Vx) (v : Value) (fp : List Nat) (w : World) (hv : graphB c g = true) (hbig : g.length ≤ 1048576) (hc : IntsAt w ac c) (hg : Gr w g v fp) :
    Calls Try.prog 47 #[.slice ac c.length capc, v] w fun e w' => e = .returned (.int .i64 (hgtZ c g)) ∧ Below w.heap.size w w' := by
  have hcv : validB c = true := by have h := hv; unfold graphB at h; simp only [Bool.and_eq_true] at h; exact h.1
  have Hm := Lib.hid (fun r => auth_members hv r)
  have HA := Lib.hid (fun r W h => spec_l11Authors g v fp r W (by omega) h)
  have hal := fun r => authZ_len g r
  have HW := Lib.hid (fun r am cap W (h : IntsAt W ac c) h' => spec_l1Weight ac capc c am cap (authZ g r) W hcv (Hm.out r) (Nat.le_trans (hal r) (by omega)) h h')
  have HQ := Lib.hid (fun W h => spec_l1Quorum ac capc c W hcv h)
  have Hc := Lib.hid hc; clear hc
  have Hg := Lib.hid hg; clear hg hal
  go_enter Try.func47, Try.ntmps47
  go_wp2
  go_loopw [5] (fun i wr => ∃ n : Nat, n ≤ 31 ∧ i = .int .i64 ((n : Int) - 1) ∧ hgtTo c g n = hgtZ c g ∧ Below w.heap.size w wr) (fun i _ => (intOf i + 1).toNat)
  case atStart => exact ⟨31, by omega, rfl, rfl, Below.refl _ _⟩
  case round =>
    obtain ⟨n, hn, rfl, hh, hbel⟩ := hrel
    have Hbel := Lib.hid hbel; clear hbel
    have Hh := Lib.hid hh; clear hh
    by_cases h0 : n = 0
    · subst h0
      have hz : hgtZ c g = -1 := Hh.out.symm
      have Hz := Lib.hid hz; clear hz
      go_wp2
      go_ret
      exact ⟨by rw [Hz.out]; rfl, Hbel.out⟩
    · obtain ⟨m, rfl⟩ : ∃ m, n = m + 1 := ⟨n - 1, by omega⟩
      have e1 : ((m + 1 : Nat) : Int) - 1 = m := by omega
      rw [e1]
      have hge : decide ((0 : Int) ≤ (m : Int)) = true := decide_eq_true (by omega)
      have hge' : (0 : Int) ≤ (m : Int) := by omega
      have hw1 : IntKind.i64.wrap ((m : Int) - 1) = m - 1 := IntWalk.i64_in _ (by omega)
      clear e1 h0
      go_wp2_with fail
      refine (HA.out m wr (Hg.out.under Hbel.out)).mono ?_
      rintro e w2 ⟨u, rfl, ho, hb2⟩
      obtain ⟨au, cu, rfl, hi, _⟩ := ho.ints
      have Hi := Lib.hid hi
      have Hb2 := Lib.hid (below_step Hbel.out Hbel.out.size hb2); clear hb2 ho hi
      go_wp2_with fail
      refine (HW.out m au cu w2 (Hc.out.below Hb2.out) Hi.out).mono ?_
      rintro e w3 ⟨rfl, rfl⟩
      go_wp2_with fail
      refine (HQ.out w2 (Hc.out.below Hb2.out)).mono ?_
      rintro e w3 ⟨rfl, rfl⟩
      have hst := Hh.out
      unfold hgtTo at hst
      cases hq : qAt c g m with
      | true =>
        rw [if_pos hq] at hst
        have hd := of_decide_eq_true hq
        unfold quorumZ at hd
        have Hz := Lib.hid hst; clear hst hq
        go_wp2
        go_ret
        exact ⟨by rw [← Hz.out]; rfl, Hb2.out⟩
      | false =>
        rw [if_neg (by simp [hq])] at hst
        have hd := of_decide_eq_false hq
        unfold quorumZ at hd
        have Hz := Lib.hid hst; clear hst hq
        go_wp2
        go_roundw
        case rel => exact ⟨m, by omega, by first | rfl | go_num, Hz.out, Hb2.out⟩
        case measure => simp [intOf]

end Go.Proofs.Ythnbjdijcpcafaa

/- The draws of digests, leaves and texts: what is drawn is short and lies in new memory; each by a walk of its text; condition: at most 2^40 picks. -/
namespace Go.Proofs.Ythnbjdijcpcafaa
open Go.RowKit

/-- Numbers between -1 and 991. -/
def Digs (xs : List Int) : Prop := ∀ x ∈ xs, -1 ≤ x ∧ x ≤ 991
theorem digs_app {xs zs : List Int} (h : Digs xs) (k : Digs zs) : Digs (xs ++ zs) := fun x hx => by
  rcases List.mem_append.1 hx with hx | hx
  · exact h x hx
  · exact k x hx
theorem digs_one {z : Int} (h1 : -1 ≤ z) (h2 : z ≤ 991) : Digs [z] := fun x hx => by simp at hx; subst hx; exact ⟨h1, h2⟩
theorem digs_set {xs : List Int} (h : Digs xs) (j : Nat) {z : Int} (h1 : -1 ≤ z) (h2 : z ≤ 991) : Digs (xs.set j z) := fun x hx => by
  rcases List.mem_or_eq_of_mem_set hx with hx | rfl
  · exact h x hx
  · exact ⟨h1, h2⟩
theorem grown_row' {w a b : World} {R : Nat} {row : Option Nat} (h : w.grownBy a (some R)) (k : a.grownBy b row) (hr : ∀ g, row = some g → w.heap.size ≤ g) : w.grownBy b (some R) :=
  ⟨k.os.trans h.os, k.tape.trans h.tape, k.output.trans h.output, Nat.le_trans h.size k.size, fun i hi hne => (k.block i (Nat.lt_of_lt_of_le hi h.size) (fun e => by have := hr i e.symm; omega)).trans (h.block i hi hne)⟩
theorem below_of_row' {w w' : World} {R B : Nat} (h : w.grownBy w' (some R)) (hR : B ≤ R) (hB : B ≤ w.heap.size) : Below B w w' :=
  ⟨h.os, h.tape, h.output, h.size, fun k hk => h.block k (by omega) (fun e => by injection e with e; omega)⟩
theorem dig4_at (k : Nat) (hk : k < 4) : ∃ z : Int, (#[Value.int .i64 (-1), .int .i64 0, .int .i64 990, .int .i64 991] : Array Value)[k]? = some (.int .i64 z) ∧ -1 ≤ z ∧ z ≤ 991 := by
  match k, hk with
  | 0, _ => exact ⟨-1, rfl, by omega, by omega⟩
  | 1, _ => exact ⟨0, rfl, by omega, by omega⟩
  | 2, _ => exact ⟨990, rfl, by omega, by omega⟩
  | 3, _ => exact ⟨991, rfl, by omega, by omega⟩

theorem drawDigest (R p : Nat) (w : World) (hp : p ≤ 1000000) (hr : Rdr w R p) :
    Calls Try.prog 24 #[.pointer (some ⟨R, 0, none⟩)] w fun e w' => ∃ (d : Int) (p' : Nat), e = .returned (.int .i64 d) ∧ -1 ≤ d ∧ d ≤ 991 ∧ Rdr w' R p' ∧ p' ≤ p + 3 ∧ w.grownBy w' (some R) := by
  have Hr := Lib.hid hr; clear hr
  go_enter Try.func24, Try.ntmps24
  go_wp2_with fail
  refine (pick_any R 16 p _ (by omega) Hr.out (by omega)).mono ?_
  rintro e w1 ⟨x, rfl, hx0, hx1, hr1, hg1⟩
  have Hr1 := Lib.hid (hr1.alloc (.cells #[.int .i64 (-1), .int .i64 0, .int .i64 990, .int .i64 991] 3))
  have Hr1' := Lib.hid hr1; clear hr1
  have Hg1 := Lib.hid hg1; clear hg1
  have hRs := Hr1'.out.lt
  by_cases h0 : x = 0
  · subst h0
    go_wp2_with fail
    refine (pick_any R 4 (p + 1) _ (by omega) Hr1.out (by omega)).mono ?_
    rintro e w2 ⟨u, rfl, hu0, hu1, hr2, hg2⟩
    obtain ⟨u, rfl⟩ := Int.eq_ofNat_of_zero_le hu0
    obtain ⟨z, hz, hz1, hz2⟩ := dig4_at u (by omega)
    have hcell := lit_cell hg2 (by simp; omega) hz
    have Hg2 := Lib.hid (grownBy_trans (grownBy_trans Hg1.out (World.grownBy_alloc _ _ _)) hg2)
    have hu4 : u < 4 := by omega
    have Hr2 := Lib.hid hr2
    clear hg2 hz hu0 hu1 hr2
    go_wp2
    go_ret
    exact ⟨z, _, rfl, hz1, hz2, Hr2.out, by omega, Hg2.out⟩
  · have h0' : (x == 0) = false := by rw [beq_eq_false_iff_ne]; exact h0
    go_wp2_with fail
    refine (pick_any R 99 (p + 1) _ (by omega) Hr1'.out (by omega)).mono ?_
    rintro e w2 ⟨u, rfl, hu0, hu1, hr2, hg2⟩
    have Hr2 := Lib.hid hr2
    have Hg2 := Lib.hid (grownBy_trans Hg1.out hg2)
    clear hr2 hg2
    go_wp2_with fail
    refine (pick_any R 10 (p + 2) _ (by omega) Hr2.out (by omega)).mono ?_
    rintro e w3 ⟨y, rfl, hy0, hy1, hr3, hg3⟩
    have Hr3 := Lib.hid hr3
    have Hg3 := Lib.hid (grownBy_trans Hg2.out hg3)
    clear hr3 hg3
    go_wp2
    go_ret
    exact ⟨_, _, rfl, by omega, by omega, Hr3.out, by omega, Hg3.out⟩

end Go.Proofs.Ythnbjdijcpcafaa

/- The draws of graphs: what is drawn is a graph in new memory, each by a walk of its text; condition: at most 10^5 picks before. -/
namespace Go.Proofs.Ythnbjdijcpcafaa
open Go.RowKit

theorem own_litG (E : TypeId) (w : World) {B : Nat} (xs : List Int) (hB : B ≤ w.heap.size) (hm : xs.length ≤ maxLen) :
    Own E (w.alloc (.cells (xs.map (Value.int .i64)).toArray E)) B (.slice (some ⟨w.heap.size, 0, none⟩) xs.length xs.length) xs :=
  ⟨by simp, .inr ⟨w.heap.size, xs.length, _, rfl, hB, heap_alloc_new w _, Nat.le_refl _, hm, by simp, by simp [List.take_of_length_le]⟩⟩

theorem drawGoodV (R p : Nat) (w : World) (hp : p ≤ 1000000) (hr : Rdr w R p) (hR : R < w.heap.size) :
    Calls Try.prog 33 #[.pointer (some ⟨R, 0, none⟩)] w fun e w' => ∃ v xs p', e = .returned v ∧ Own 3 w' w.heap.size v xs ∧ validB xs = true ∧ Rdr w' R p' ∧ p' ≤ p + 20 ∧ w.grownBy w' (some R) := by
  go_enter Try.func33, Try.ntmps33
  go_wp2_with fail
  refine (drawCommittee R p _ hp hr hR).mono ?_
  rintro e w2 ⟨v, c, p', rfl, hown, hcl, hsm, hr2, hp', hg2⟩
  obtain ⟨a, cap, rfl, hi, _⟩ := hown.ints
  have hz := hg2.size
  have hv' := spec_CommitteeValid a cap c w2 (by omega) hi
  have Hr2 := Lib.hid hr2; clear hr2
  have Hg2 := Lib.hid hg2; clear hg2
  cases hv : validB c with
  | true =>
    rw [hv] at hv'
    have Hvv := Lib.hid hv
    have Hv := Lib.hid hv'; clear hv' hv hi
    have Hown := Lib.hid hown; clear hown
    go_wp2_with fail
    refine Hv.out.mono ?_
    rintro e w3 ⟨rfl, rfl⟩
    go_wp2
    go_ret
    exact ⟨_, c, p', rfl, Hown.out, Hvv.out, Hr2.out, hp', Hg2.out⟩
  | false =>
    rw [hv] at hv'
    have Hv := Lib.hid hv'; clear hv' hv hi hown
    go_wp2_with fail
    refine Hv.out.mono ?_
    rintro e w3 ⟨rfl, rfl⟩
    go_wp2
    go_ret
    exact ⟨_, [1, 1, 1, 1], p', rfl, own_litG 3 w2 [1, 1, 1, 1] hz (by unfold maxLen; simp), by decide, Hr2.out.alloc _, hp', grownBy_trans Hg2.out (World.grownBy_alloc _ _ _)⟩

/-- Valid vertices in order. -/
def GOk (c : List Int) (g : List Vx) : Prop := (∀ x ∈ g, vtxB c x = true) ∧ g.Pairwise fun a b => befB a b = true
theorem gOk_nil (c : List Int) : GOk c [] := ⟨by simp, .nil⟩
theorem gOk_push {c : List Int} {g : List Vx} {x : Vx} (h : GOk c g) (hx : vtxB c x = true) (hb : ∀ y ∈ g, y.r < x.r ∨ y.r = x.r ∧ y.a < x.a) : GOk c (g ++ [x]) := by
  refine ⟨fun y hy => ?_, List.pairwise_append.2 ⟨h.2, by simp, fun a ha b hb' => ?_⟩⟩
  · rcases List.mem_append.1 hy with hy | hy
    · exact h.1 y hy
    · simp at hy; subst hy; exact hx
  · simp at hb'; subst hb'
    exact decide_eq_true (hb a ha)
theorem gOk_auth {c : List Int} {g : List Vx} (h : GOk c g) (r : Int) : (authZ g r).Pairwise (· < ·) ∧ ∀ m ∈ authZ g r, 0 ≤ m ∧ m < c.length := by
  refine ⟨?_, fun m hm => ?_⟩
  · unfold authZ
    rw [List.pairwise_map]
    refine List.Pairwise.imp_of_mem (R := fun a b => befB a b = true) (fun {a b} ha hb hab => ?_) (h.2.filter _)
    have ha := of_decide_eq_true (List.mem_filter.1 ha).2
    have hb := of_decide_eq_true (List.mem_filter.1 hb).2
    have := of_decide_eq_true hab
    omega
  · unfold authZ at hm
    obtain ⟨x, hx, rfl⟩ := List.mem_map.1 hm
    exact vtx_author (h.1 x (List.mem_filter.1 hx).1)
theorem members_sub {n : Nat} {H ps : List Int} (h : H.Pairwise (· < ·) ∧ ∀ m ∈ H, 0 ≤ m ∧ m < n) (hs : ps.Sublist H) : membersB n ps = true :=
  members_pairwise (h.1.sublist hs) fun m hm => h.2 m (hs.subset hm)

theorem OwnR.apartI {E E' Ei : TypeId} {sz : Nat} {w : World} {B B' hi : Nat} {v u : Value} {es : List (List Fd)} {xs : List Int} (h : OwnR E Ei sz w B hi v es) (h' : Own E' w B' u xs) (hE : E ≠ E') : u.ownBlock = none ∨ u.ownBlock ≠ v.ownBlock := by
  obtain ⟨cs, h1, _⟩ := h.row
  rcases h'.2 with ⟨rfl, _⟩ | ⟨g, cap, cur, rfl, _, hg, _⟩
  · exact .inl rfl
  · rcases h1.2 with ⟨rfl, _⟩ | ⟨g', cap', cur', rfl, _, hg', _⟩
    · exact .inr (fun e => by cases e)
    · refine .inr fun e => hE ?_
      have e' : g = g' := by cases e; rfl
      subst e'
      rw [hg] at hg'
      cases hg'
      rfl

set_option maxRecDepth 8000 in
set_option maxHeartbeats 4000000 in
theorem drawGraph (R p : Nat) (rounds : Int) (w : World) (ac : Option Addr) (capc : Nat) (c : List Int) (hp : p ≤ 100000) (hn0 : 0 ≤ rounds) (hn1 : rounds ≤ 40) (hv : validB c = true) (hr : Rdr w R p) (hR : R < w.heap.size) (hc : ∀ W, w.grownBy W (some R) → IntsAt W ac c) :
    Calls Try.prog 25 #[.pointer (some ⟨R, 0, none⟩), .slice ac c.length capc, .int .i64 rounds] w fun e w' => ∃ v g p', e = .returned v ∧ OwnR 25 3 4 w' w.heap.size w'.heap.size v (g.map Vx.fd) ∧ GOk c g ∧ g.length ≤ 280 ∧ Rdr w' R p' ∧ p' ≤ p + 80000 ∧ w.grownBy w' (some R) := by
  obtain ⟨hc1, hc7⟩ := validB_len hv
  have Hr0 := Lib.hid (hr.alloc (.cells #[] 25)); clear hr
  have Hg0 := Lib.hid (World.grownBy_alloc w (.cells #[] 25) (some R))
  have hv0 : OwnR 25 3 4 (w.alloc (.cells #[] 25)) w.heap.size (w.alloc (.cells #[] 25)).heap.size (.slice (some ⟨w.heap.size, 0, none⟩) 0 0) [] := .nil (World.ownsRow_made w #[] 0 (Nat.le_refl _) (by simp) (by simp)) (fun g e => by cases e; simp)
  have Hv0 := Lib.hid hv0; clear hv0
  have Hc := Lib.hid hc; clear hc
  obtain ⟨rounds, rfl⟩ := Int.eq_ofNat_of_zero_le hn0
  have HWt := Lib.hid (fun ps am cap W (hm : membersB c.length ps = true) (hl : ps.length ≤ 1099511627776) h h' => spec_l1Weight ac capc c am cap ps W hv hm hl h h')
  have HQt := Lib.hid (fun W h => spec_l1Quorum ac capc c W hv h)
  have HVx := Lib.hid (fun r a d pa pc ps W (hl : ps.length ≤ 1099511627776) h h' => spec_l11Vertex ac capc c r a d pa pc ps W hv hl h h')
  go_enter Try.func25, Try.ntmps25
  go_wp2_with fail
  go_loopw [7, 8] (fun v i wr => ∃ (n : Nat) (g : List Vx) (q : Nat), n ≤ rounds ∧ i = .int .i64 n ∧ OwnR 25 3 4 wr w.heap.size wr.heap.size v (g.map Vx.fd) ∧ GOk c g ∧ (∀ x ∈ g, x.r < n) ∧ g.length ≤ 7 * n ∧ Rdr wr R q ∧ q ≤ p + 2000 * n ∧ w.grownBy wr (some R)) (fun _ i _ => rounds - (intOf i).toNat)
  case atStart => exact ⟨0, [], p, Nat.zero_le _, rfl, Hv0.out, gOk_nil c, by simp, by simp, Hr0.out, by omega, Hg0.out⟩
  case round =>
    obtain ⟨n, g0, q0, hn, rfl, hown, hok, hlt0, hgl, hrd, hq, hgr⟩ := hrel
    have Hown := Lib.hid hown; clear hown
    have Hrd := Lib.hid hrd; clear hrd
    have Hgr := Lib.hid hgr; clear hgr
    have Hok := Lib.hid hok; clear hok
    have Hlt0 := Lib.hid hlt0; clear hlt0
    by_cases hlt : n < rounds
    case neg =>
      have hn40 : n ≤ 40 := by omega
      go_wp2
      go_ret
      exact ⟨_, g0, q0, rfl, Hown.out, Hok.out, by omega, Hrd.out, by omega, Hgr.out⟩
    case pos =>
    obtain ⟨fo, hro⟩ := Hown.out.reads
    have hwn : IntKind.i64.wrap ((n : Int) - 1) = n - 1 := IntWalk.i64_in _ (by omega)
    have Hau := Lib.hid (spec_l11Authors g0 _ fo ((n : Int) - 1) wr (by omega) hro); clear hro
    have Hasc := Lib.hid (gOk_auth Hok.out ((n : Int) - 1))
    have hHl := authZ_len g0 ((n : Int) - 1)
    generalize authZ g0 ((n : Int) - 1) = H at *
    go_wp2_with fail
    refine Hau.out.mono ?_
    rintro e w2 ⟨uh, rfl, hoh, hb2⟩
    have hs2 := hb2.size
    have Hown2 := Lib.hid (Hown.out.below hb2 (Nat.le_refl _))
    have Hrd2 := Lib.hid (Hrd.out.kept (below_grown hb2) (fun g e => by cases e))
    have Hgr2 := Lib.hid (grown_row Hgr.out (below_grown hb2) (fun g e => by cases e))
    have hRw := Hgr.out.size
    have Hoh := Lib.hid (hoh.mono hRw)
    obtain ⟨ah, ch, rfl, hih, hsh, _⟩ := hoh.src
    clear hb2 hoh hih hsh
    go_wp2
    go_loopw [7, 10] (fun v i wr => ∃ (a : Nat) (g : List Vx) (q : Nat), a ≤ c.length ∧ i = .int .i64 a ∧ OwnR 25 3 4 wr w.heap.size wr.heap.size v (g.map Vx.fd) ∧ GOk c g ∧ (∀ x ∈ g, x.r < n ∨ x.r = n ∧ x.a < a) ∧ g.length ≤ 7 * n + a ∧ Rdr wr R q ∧ q ≤ p + 2000 * n + 283 * a ∧ w.grownBy wr (some R) ∧ Own 3 wr w.heap.size (.slice ah H.length ch) H ∧ w2.heap.size ≤ wr.heap.size) (fun _ i _ => c.length - (intOf i).toNat)
    case atStart => exact ⟨0, g0, q0, Nat.zero_le _, rfl, Hown2.out.mono hs2, Hok.out, fun x hx => .inl (Hlt0.out x hx), by omega, Hrd2.out, by omega, Hgr2.out, Hoh.out, Nat.le_refl _⟩
    case round =>
      obtain ⟨a, g, q, ha, rfl, hown, hok, hord, hgl, hrd, hq, hgr, hoh, hsz⟩ := hrel
      have Hown := Lib.hid hown; clear hown
      have Hrd := Lib.hid hrd; clear hrd
      have Hgr := Lib.hid hgr; clear hgr
      have Hok := Lib.hid hok; clear hok
      have Hord := Lib.hid hord; clear hord
      have Hoh := Lib.hid hoh; clear hoh
      by_cases hal : a < c.length
      case neg =>
        have hac : a = c.length := by omega
        subst hac
        go_wp2
        go_roundw
        case rel => exact ⟨n + 1, g, q, by omega, by go_num, Hown.out, Hok.out, fun x hx => by have := Hord.out x hx; omega, by omega, Hrd.out, by omega, Hgr.out⟩
        case measure => simp [intOf]; omega
      case pos =>
      go_wp2_with fail
      refine (pick_any R 6 q _ (by omega) Hrd.out (by omega)).mono ?_
      rintro e w3 ⟨z, rfl, hz0, hz1, hr3, hg3⟩
      have hs3 := hg3.size
      have Hrd3 := Lib.hid hr3; clear hr3
      have Hgr3 := Lib.hid (grownBy_trans Hgr.out hg3)
      have Hown3 := Lib.hid ((Hown.out.same fun b h1 h2 => hg3.block b (by omega) (fun e => by cases e; omega)).mono hs3)
      have Hoh3 := Lib.hid (Hoh.out.kept hg3 (.inr fun e => by have := (Hoh.out.lt R e).1; omega))
      clear hg3
      by_cases hz : z = 0
      · subst hz
        go_wp2
        go_roundw
        case rel => exact ⟨a + 1, g, q + 1, by omega, by go_num, Hown3.out, Hok.out, fun x hx => by have := Hord.out x hx; omega, by omega, Hrd3.out, by omega, Hgr3.out, Hoh3.out, by omega⟩
        case measure => simp [intOf]; omega
      have hz' : (z == 0) = false := by simpa using hz
      clear hz hz0 hz1 Hrd Hgr Hown Hoh
      have hwa : IntKind.i64.wrap (31 * (n : Int)) = 31 * n := IntWalk.i64_in _ (by omega)
      have hwb : IntKind.i64.wrap (7 * (a : Int)) = 7 * a := IntWalk.i64_in _ (by omega)
      have hwc : IntKind.i64.wrap (31 * (n : Int) + 7 * (a : Int)) = 31 * n + 7 * a := IntWalk.i64_in _ (by omega)
      go_wp2_with fail
      refine (pick_any R 90 (q + 1) _ (by omega) (Hrd3.out.alloc _) (by omega)).mono ?_
      rintro e w5 ⟨y, rfl, hy0, hy1, hr5, hg5⟩
      have ho5 := (own_empty 3 w3 (Nat.le_refl _)).kept hg5 (.inr fun e => by have := Hrd3.out.lt; simp [Value.ownBlock] at e; omega)
      have hg5' := grownBy_trans (World.grownBy_alloc w3 (.cells #[] 3) (some R)) hg5
      have hs5 : w3.heap.size + 1 ≤ w5.heap.size := by have := hg5.size; simpa using this
      have Hrd5 := Lib.hid hr5; clear hr5
      have Ho5 := Lib.hid ho5; clear ho5
      have Hg5 := Lib.hid hg5'; clear hg5' hg5
      have hwd : IntKind.i64.wrap (31 * (n : Int) + 7 * (a : Int) + y) = 31 * n + 7 * a + y := IntWalk.i64_in _ (by omega)
      obtain ⟨D, hD⟩ : ∃ D, (31 * (n : Int) + 7 * (a : Int) + y).tmod 991 = D := ⟨_, rfl⟩
      have hDb : -9223372036854775808 ≤ D ∧ D ≤ 9223372036854775807 := by
        rw [← hD, Int.tmod_eq_emod_of_nonneg (by omega)]; omega
      have hs0 := Str.new w5 25 #[.int .i64 n, .int .i64 a, .slice (some ⟨w3.heap.size, 0, none⟩) 0 0, .int .i64 D]
      have hgA := grownBy_trans Hg5.out (World.grownBy_alloc w5 (.cells #[.int .i64 n, .int .i64 a, .slice (some ⟨w3.heap.size, 0, none⟩) 0 0, .int .i64 D] 25) (some R))
      have hoA := Ho5.out.alloc (.cells #[.int .i64 n, .int .i64 a, .slice (some ⟨w3.heap.size, 0, none⟩) 0 0, .int .i64 D] 25)
      have hrA := Hrd5.out.alloc (.cells #[.int .i64 n, .int .i64 a, .slice (some ⟨w3.heap.size, 0, none⟩) 0 0, .int .i64 D] 25)
      have HsA := Lib.hid hs0; clear hs0
      have HgA := Lib.hid hgA; clear hgA
      have HoA := Lib.hid hoA; clear hoA
      have HrA := Lib.hid hrA; clear hrA Hrd5 Ho5 Hg5
      have hw3 := Hgr3.out.size
      go_wp2
      clear hwa hwb hwc hwd hD
      generalize w5.alloc (.cells #[.int .i64 n, .int .i64 a, .slice (some ⟨w3.heap.size, 0, none⟩) 0 0, .int .i64 D] 25) = w6 at *
      generalize w5.heap.size = Bv at *
      go_loopw [12] (fun i wr => ∃ (k : Nat) (ps : List Int) (vp : Value) (q2 : Nat), k ≤ H.length ∧ i = .int .i64 k ∧ ps.Sublist (H.take k) ∧ Str wr Bv 25 #[.int .i64 n, .int .i64 a, vp, .int .i64 D] ∧ Own 3 wr w3.heap.size vp ps ∧ vp.ownBlock ≠ some Bv ∧ Rdr wr R q2 ∧ q2 ≤ q + 2 + k ∧ w3.grownBy wr (some R)) (fun i _ => H.length - (intOf i).toNat)
      case atStart => exact ⟨0, [], _, q + 1 + 1, Nat.zero_le _, rfl, by simp, HsA.out, HoA.out, by simp [Value.ownBlock]; omega, HrA.out, by omega, HgA.out⟩
      case round =>
        obtain ⟨k, ps, vp, q2, hk, rfl, hsub, hst, hop, hne, hrd, hq2, hg3r⟩ := hrel
        have Hst := Lib.hid hst; clear hst
        have Hop := Lib.hid hop; clear hop
        have Hrd := Lib.hid hrd; clear hrd
        have Hg3r := Lib.hid hg3r; clear hg3r
        have Hsub := Lib.hid hsub; clear hsub
        have Hne := Lib.hid hne; clear hne
        have hBw := Hst.out.lt
        have Hohr := Lib.hid (Hoh3.out.kept Hg3r.out (.inr fun e => by have := (Hoh3.out.lt R e).1; omega))
        by_cases hlt2 : k < H.length
        · obtain ⟨bh, ch', e, hbB, hbs, _, hcells, _⟩ := Hohr.out.row (by omega)
          simp only [Value.slice.injEq, true_and] at e
          obtain ⟨rfl, rfl⟩ := e
          have hch := hcells k hlt2
          have hb3 : bh < w3.heap.size := by
            exact (Hoh3.out.lt bh rfl).2
          clear hcells
          by_cases hn0 : n = 0
          · exfalso; omega
          have hnn : decide ((0 : Int) < (n : Int)) = true := decide_eq_true (by omega)
          have hnn' : (0 : Int) < (n : Int) := by omega
          clear hn0
          go_wp2_with fail
          refine (pick_any R 8 q2 _ (by omega) Hrd.out (by omega)).mono ?_
          rintro e w7 ⟨u, rfl, hu0, hu1, hr7, hg7⟩
          have hs7 := hg7.size
          have Hrd7 := Lib.hid hr7; clear hr7
          have Hst7 := Lib.hid (Hst.out.kept hg7 (by simp; omega))
          have Hop7 := Lib.hid (Hop.out.kept hg7 (.inr fun e => by have := (Hop.out.lt R e).1; have := Hgr3.out.size; omega))
          have Hg37 := Lib.hid (grownBy_trans Hg3r.out hg7)
          have hch7 : w7.cell? ⟨bh, k, none⟩ = some (.int .i64 H[k]) := hg7.cell hch (by simp; omega)
          clear hg7 hch
          by_cases hu : 0 < u
          · have hud : decide ((0 : Int) < u) = true := decide_eq_true hu
            have Hsub' := Lib.hid (show (ps ++ [H[k]]).Sublist (H.take (k + 1)) by
              rw [List.take_succ_eq_append_getElem hlt2]
              exact Hsub.out.append (List.Sublist.refl _))
            generalize H[k] = x at *
            have h2 : w7.drew.cell? ⟨Bv, 2, none⟩ = some vp := Hst7.out.cell 2 (v := vp) rfl
            have h3 : w7.drew.cell? ⟨bh, k, none⟩ = some (.int .i64 x) := hch7
            go_wp2_with fail
            refine wp_region_L 9 (fun w' => w'.cell? ⟨Bv, 2, none⟩ = some vp ∧ w'.cell? ⟨bh, k, none⟩ = some (.int .i64 x)) (by kernel_rfl) ⟨h2, h3⟩ (fun hH => ?_)
            refine takeL 0 (v := ?v0) rfl (by kernel_rfl) (by kernel_rfl) (by kernel_rfl) (by kernel_rfl) (by kernel_rfl) (fun _ _ _ h => h) hH rfl ?y0 ?r0
            case y0 => intro W hSw; go_simp; try with_reducible rfl
            try simp only [Act.put, List.setIfInBounds_toArray, List.set_cons_zero, List.set_cons_succ]
            refine takeL 1 (v := ?v1) rfl (by kernel_rfl) (by kernel_rfl) (by kernel_rfl) (by kernel_rfl) (by kernel_rfl) (fun _ _ _ h => h) hH rfl ?y1 ?r1
            case y1 => intro W hSw; go_simp; try with_reducible rfl
            try simp only [Act.put, List.setIfInBounds_toArray, List.set_cons_zero, List.set_cons_succ]
            refine takeL 2 (v := ?v2) rfl (by kernel_rfl) (by kernel_rfl) (by kernel_rfl) (by kernel_rfl) (by kernel_rfl) (fun _ _ _ h => h) hH rfl ?y2 ?r2
            case y2 => intro W hSw; go_simp; try with_reducible rfl
            try simp only [Act.put, List.setIfInBounds_toArray, List.set_cons_zero, List.set_cons_succ]
            refine takeL 3 (v := ?v3) rfl (by kernel_rfl) (by kernel_rfl) (by kernel_rfl) (by kernel_rfl) (by kernel_rfl) (fun _ _ _ h => h) hH rfl ?y3 ?r3
            case y3 => intro W hSw; go_simp; try with_reducible rfl
            try simp only [Act.put, List.setIfInBounds_toArray, List.set_cons_zero, List.set_cons_succ]
            refine takeL 4 (v := ?v4) rfl (by kernel_rfl) (by kernel_rfl) (by kernel_rfl) (by kernel_rfl) (by kernel_rfl) (fun _ _ _ h => h) hH rfl ?y4 ?r4
            case y4 => intro W hSw; go_simp; try with_reducible rfl
            try simp only [Act.put, List.setIfInBounds_toArray, List.set_cons_zero, List.set_cons_succ]
            refine takeL 5 (v := ?v5) rfl (by kernel_rfl) (by kernel_rfl) (by kernel_rfl) (by kernel_rfl) (by kernel_rfl) (fun _ _ _ h => h) hH rfl ?y5 ?r5
            case y5 => intro W hSw; go_simp; try with_reducible rfl
            try simp only [Act.put, List.setIfInBounds_toArray, List.set_cons_zero, List.set_cons_succ]
            refine callL 6 rfl (by kernel_rfl) rfl (fun K hK => ?_)
            go_simp
            refine hK.out _ _ ⟨(World.grownBy_alloc w7.drew _ none).cell h2 (by simp), (World.grownBy_alloc w7.drew _ none).cell h3 (by simp)⟩ (fun hH => ?_)
            clear hK K
            try simp only [Act.put, List.setIfInBounds_toArray, List.set_cons_zero, List.set_cons_succ]
            have hown7 : Own 3 w7.drew w3.heap.size vp ps := Hop7.out
            have hst7 : Str w7.drew Bv 25 #[.int .i64 n, .int .i64 a, vp, .int .i64 D] := Hst7.out
            have hpl : ps.length ≤ 1099511627776 := by have := Hsub.out.length_le; rw [List.length_take] at this; omega
            have hB7 : w3.heap.size ≤ w7.drew.heap.size := Hg37.out.size
            have hg37 : w3.grownBy w7.drew (some R) := grownBy_drewN Hg37.out 1
            have hrd7 : Rdr w7.drew R (q2 + 1) := Hrd7.out.drewN 1
            refine callL 7 rfl (by kernel_rfl) rfl (fun K hK => ?_)
            refine op_push_at TIg w7.drew (.tmp 59) (.tmp 64) rfl w3.heap.size vp ps x rfl hown7 hpl rfl hB7 ?_
            intro v9 w9 hown9 hg9 hat9
            obtain ⟨g9, c9, rfl⟩ := own_succ hown9
            have s9 := hst7.kept hg9 (fun e => Hne.out e.symm)
            have h9 := s9.cell 2 (v := vp) rfl
            have f9 := s9.frozen 2
            have h39 : w9.cell? ⟨bh, k, none⟩ = some (.int .i64 x) := hg9.cell h3 (by intro e; have h' : w3.heap.size ≤ bh := (hown7.lt _ e.symm).1; omega)
            refine hK.out _ _ ⟨h9, h39⟩ (fun hH => ?_)
            clear hK K
            try simp only [Act.put, List.setIfInBounds_toArray, List.set_cons_zero, List.set_cons_succ]
            refine takeL 8 (v := ?v8) rfl (by kernel_rfl) (by kernel_rfl) (by kernel_rfl) (by kernel_rfl) (by kernel_rfl) (fun _ _ _ h => h) hH rfl ?y8 ?r8
            case y8 => intro W hSw; go_simp; try with_reducible rfl
            try simp only [Act.put, List.setIfInBounds_toArray, List.set_cons_zero, List.set_cons_succ]
            refine lastL rfl (by kernel_rfl) (by kernel_rfl) (by kernel_rfl) rfl (fun K hK => ?_)
            go_simp
            refine hK.out _ _ ?_
            clear hK K
            try simp only [Act.put, List.setIfInBounds_toArray, List.set_cons_zero, List.set_cons_succ]
            have hBs : Bv < w7.drew.heap.size := hst7.lt
            have hne9 : (Value.slice (some ⟨g9, 0, none⟩) (ps.length + 1) c9).ownBlock ≠ some Bv := by
              rcases hat9 with h | ⟨g', h, h'⟩
              · rw [h]; exact Hne.out
              · rw [h]; simp; omega
            have hRB : R < Bv := by omega
            go_wp2
            go_roundw
            case rel => exact ⟨k + 1, ps ++ [x], _, q2 + 1, by omega, by go_num, Hsub'.out, (by have := s9.set 2 (.slice (some ⟨g9, 0, none⟩) (ps.length + 1) c9); simpa using this), hown9.set_other hne9 2 _, hne9, (hrd7.kept hg9 (fun g e => by have := (hown7.lt g e).1; omega)).kept (grownBy_set w9 Bv 2 _) (fun g e => by cases e; exact hRB), by omega, grown_row (grown_row hg37 hg9 (fun g e => (hown7.lt g e).1)) (grownBy_set w9 Bv 2 _) (fun g e => by cases e; omega)⟩
            case measure => simp [intOf]; omega
          · have hud : decide ((0 : Int) < u) = false := decide_eq_false hu
            clear hu0 hu1
            go_wp2
            go_roundw
            case rel => exact ⟨k + 1, ps, vp, q2 + 1, by omega, by go_num, Hsub.out.trans (List.take_sublist_take_left (by omega)), Hst7.out, Hop7.out, Hne.out, Hrd7.out, by omega, Hg37.out⟩
            case measure => simp [intOf]; omega
        · have hke : k = H.length := by omega
          subst hke
          rw [List.take_length] at Hsub
          have hpl : ps.length ≤ 1099511627776 := by have := Hsub.out.length_le; omega
          obtain ⟨ap, cp, rfl, hip, _⟩ := Hop.out.ints
          clear hip
          by_cases hn0 : n = 0
          · have hnn : decide ((0 : Int) < (n : Int)) = false := decide_eq_false (by omega)
            have hnn' : ¬ (0 : Int) < (n : Int) := by omega
            clear hn0
            have hgW := grownBy_trans Hgr3.out Hg3r.out
            have hcW := Hc.out _ hgW
            have HgW := Lib.hid hgW; clear hgW
            have st := Hst.out
            have c0 := st.cell 0 (v := .int .i64 n) rfl
            have c1 := st.cell 1 (v := .int .i64 a) rfl
            have c2 := st.cell 2 (v := .slice ap ps.length cp) rfl
            have c3 := st.cell 3 (v := .int .i64 D) rfl
            have Hcall := Lib.hid (HVx.out n a D ap cp ps _ hpl hcW Hop.out.at)
            clear st hcW
            cases hvx : vtxB c ⟨n, a, ps, D⟩ with
            | false =>
              rw [hvx] at Hcall
              clear Hst Hop Hne
              go_wp2_with fail
              refine Hcall.out.mono ?_
              rintro e w8 ⟨rfl, hb8⟩
              have Hg38 := Lib.hid (grown_row (w := w3) Hg3r.out (below_grown hb8) (fun g e => by cases e))
              have Hown8 := Lib.hid (Hown3.out.same fun b h1 h2 => Hg38.out.block b h2 (fun e => by cases e; omega))
              have Hoh8 := Lib.hid (Hoh3.out.kept Hg38.out (.inr fun e => by have := (Hoh3.out.lt R e).1; omega))
              have Hrd8 := Lib.hid (Hrd.out.kept (below_grown hb8) (fun g e => by cases e))
              have hs8 := Hg38.out.size
              have HgW8 := Lib.hid (grownBy_trans Hgr3.out Hg38.out)
              clear hb8 c0 c1 c2 c3
              go_wp2
              go_roundw
              case rel => exact ⟨a + 1, g, q2, by omega, by go_num, Hown8.out.mono hs8, Hok.out, fun x hx => by have := Hord.out x hx; omega, by omega, Hrd8.out, by omega, HgW8.out, Hoh8.out, by omega⟩
              case measure => simp [intOf]; omega
            | true =>
              rw [hvx] at Hcall
              have Hok' := Lib.hid (gOk_push Hok.out hvx Hord.out)
              clear hvx
              go_wp2_with fail
              refine Hcall.out.mono ?_
              rintro e w8 ⟨rfl, hb8⟩
              have Hg38 := Lib.hid (grown_row (w := w3) Hg3r.out (below_grown hb8) (fun g e => by cases e))
              have Hown8 := Lib.hid (Hown3.out.same fun b h1 h2 => Hg38.out.block b h2 (fun e => by cases e; omega))
              have Hoh8 := Lib.hid (Hoh3.out.kept Hg38.out (.inr fun e => by have := (Hoh3.out.lt R e).1; omega))
              have Hrd8 := Lib.hid (Hrd.out.kept (below_grown hb8) (fun g e => by cases e))
              have hs8 := Hg38.out.size
              have HgW8 := Lib.hid (grownBy_trans Hgr3.out Hg38.out)
              have st := (hb8.block _ Hst.out.lt).trans Hst.out
              have hop8 := Hop.out.below hb8
              have c0 := Str.cell st 0 (v := .int .i64 n) rfl
              have c1 := Str.cell st 1 (v := .int .i64 a) rfl
              have c2 := Str.cell st 2 (v := .slice ap ps.length cp) rfl
              have c3 := Str.cell st 3 (v := .int .i64 D) rfl
              obtain ⟨hfd, hap, hnew⟩ := vertex_new (B := w.heap.size) n a D hop8 hw3
              have Hfd := Lib.hid hfd; clear hfd
              have Hap := Lib.hid hap; clear hap
              have Hnew := Lib.hid hnew; clear hnew hop8 st hb8
              have hel : (g.map Vx.fd).length ≤ 1048576 := by rw [List.length_map]; omega
              have Hex := Lib.hid (show (g ++ [(⟨n, a, ps, D⟩ : Vx)]).map Vx.fd = g.map Vx.fd ++ [[.i n, .i a, .l ps, .i D]] by rw [List.map_append]; rfl)
              have hB8 : w.heap.size ≤ w8.heap.size := by omega
              generalize g.map Vx.fd = es at *
              go_wp2_with (at_builtin; refine wpList_push_own (Ei := 3) Try.underlying32 vertex_inf rfl (by decide) (by decide) rfl (.tmp 85) (.tmp 87) rfl w.heap.size _ es _ _ _ rfl rfl (by intro u hu; simp at hu; rcases hu with rfl | rfl | rfl | rfl <;> rfl) rfl rfl Hfd.out Hap.out w3.heap.size Hown8.out hs8 Hnew.out hel rfl hB8 ?_; intro v9 w9 hown9 hg9 hat9)
              go_roundw
              case rel => exact ⟨a + 1, g ++ [⟨n, a, ps, D⟩], q2, by omega, by go_num, by rw [Hex.out]; exact hown9, Hok'.out, fun x hx => by
                rcases List.mem_append.1 hx with hx | hx
                · have := Hord.out x hx; omega
                · simp at hx; subst hx; exact .inr ⟨rfl, (show (a : Int) < ((a + 1 : Nat) : Int) by omega)⟩, by have := hgl; rw [List.length_append]; simp only [List.length_singleton]; omega, Hrd8.out.kept hg9 (fun g e => by have := (Hown8.out.lt g e).1; omega), by omega, grown_row HgW8.out hg9 (fun g e => (Hown8.out.lt g e).1), Hoh8.out.kept hg9 (Hown8.out.apartI Hoh8.out (by decide)), by have := hg9.size; omega⟩
              case measure => simp [intOf]; omega
          have hnn : decide ((0 : Int) < (n : Int)) = true := decide_eq_true (by omega)
          have hnn' : (0 : Int) < (n : Int) := by omega
          clear hn0
          have hmb := members_sub Hasc.out Hsub.out
          have hcW0 := Hc.out _ (grownBy_trans Hgr3.out Hg3r.out)
          have k2 := Hst.out.cell 2 (v := .slice ap ps.length cp) rfl
          have HW1 := Lib.hid (HWt.out ps ap cp wr hmb hpl hcW0 Hop.out.at)
          have HQ1 := Lib.hid (HQt.out wr hcW0)
          clear hcW0 hmb
          go_wp2_with fail
          refine HW1.out.mono ?_
          rintro e w7 ⟨rfl, rfl⟩
          go_wp2_with fail
          refine HQ1.out.mono ?_
          rintro e w7 ⟨rfl, rfl⟩
          by_cases hlow : weightZ c ps < 2 * totalZ c / 3 + 1
          · have hld : decide (weightZ c ps < 2 * totalZ c / 3 + 1) = true := decide_eq_true hlow
            have hoE := own_empty 3 wr (Nat.le_refl wr.heap.size)
            have hsrc : SrcAt (wr.alloc (.cells #[] 3)) ah ch H := by
              obtain ⟨_, _, e, _, hs, _⟩ := (Hohr.out.alloc (.cells #[] 3)).src
              cases e
              exact hs
            have stE := Hst.out.alloc (.cells #[] 3)
            have hzE : (wr.alloc (.cells #[] 3)).heap.size = wr.heap.size + 1 := by simp
            have rdE := Hrd.out.alloc (.cells #[] 3)
            have hgE := grownBy_trans Hg3r.out (World.grownBy_alloc wr (.cells #[] 3) (some R))
            have hsr := Hg3r.out.size
            have hHl2 : H.length ≤ 1099511627776 := by omega
            have hRB : R < Bv := by omega
            have HoE := Lib.hid hoE; clear hoE
            have Hsrc := Lib.hid hsrc; clear hsrc
            have HstE := Lib.hid stE; clear stE
            have HrdE := Lib.hid rdE; clear rdE
            have HgE := Lib.hid hgE; clear hgE
            clear k2 hlow Hop Hst Hrd HW1 HQ1
            go_wp2_with (at_builtin; refine wpList_appI TIg rfl (.tmp 78) (.tmp 79) rfl wr.heap.size (.slice (some ⟨wr.heap.size, 0, none⟩) 0 0) [] H _ _ rfl HoE.out rfl Hsrc.out (by simp; omega) (by rw [hzE]; omega) ?_; intro v7 w7 hown7 hg7; (rw [List.nil_append] at hown7); (generalize wr.alloc (.cells #[] 3) = w71 at *); (have st7 := HstE.out.kept hg7 (by simp [Value.ownBlock]; omega)); (have Hrd7 := Lib.hid (HrdE.out.kept hg7 (fun g e => by have := (HoE.out.lt g e).1; omega))); (have Hg7 := Lib.hid (grown_row HgE.out hg7 (fun g e => by have := (HoE.out.lt g e).1; omega))); (have Hown7 := Lib.hid hown7); (obtain ⟨a7, c7, rfl, _, _⟩ := Hown7.out.ints); (have k2 := st7.cell 2 (v := .slice ap ps.length cp) rfl); (have f2 := st7.frozen 2); (have u := st7.set 2 (.slice a7 H.length c7)); (have e0 := u.cell 0 (v := .int .i64 n) rfl); (have e1 := u.cell 1 (v := .int .i64 a) rfl); (have e2 := u.cell 2 (v := .slice a7 H.length c7) rfl); (have e3 := u.cell 3 (v := .int .i64 D) rfl); (have Hu := Lib.hid u); (clear u st7 hown7 hg7))
            have hne7 : (Value.slice a7 H.length c7).ownBlock ≠ some Bv := fun e => by have := (Hown7.out.lt _ e).1; omega
            have Hrd := Lib.hid (Hrd7.out.kept (grownBy_set w7 Bv 2 (.slice a7 H.length c7)) (fun g e => by cases e; exact hRB))
            have Hg3r := Lib.hid (grown_row Hg7.out (grownBy_set w7 Bv 2 (.slice a7 H.length c7)) (fun g e => by cases e; omega))
            have Hop := Lib.hid ((Hown7.out.mono (show w3.heap.size ≤ wr.heap.size from hsr)).set_other hne7 2 (.slice a7 H.length c7))
            have Hst : Hid (Str (w7.setCell ⟨Bv, 2, none⟩ (.slice a7 H.length c7)) Bv 25 #[.int .i64 n, .int .i64 a, .slice a7 H.length c7, .int .i64 D]) := Lib.hid (by simpa using Hu.out)
            clear k2 f2 Hu Hown7 Hrd7 Hg7 hne7
            generalize w7.setCell ⟨Bv, 2, none⟩ (.slice a7 H.length c7) = wz at *
            have hBz := Hst.out.lt
            have hgW := grownBy_trans Hgr3.out Hg3r.out
            have hcW := Hc.out _ hgW
            have HgW := Lib.hid hgW; clear hgW
            have st := Hst.out
            clear e0 e1 e2 e3
            have c0 := st.cell 0 (v := .int .i64 n) rfl
            have c1 := st.cell 1 (v := .int .i64 a) rfl
            have c2 := st.cell 2 (v := .slice a7 H.length c7) rfl
            have c3 := st.cell 3 (v := .int .i64 D) rfl
            have Hcall := Lib.hid (HVx.out n a D a7 c7 H _ hHl2 hcW Hop.out.at)
            clear st hcW
            cases hvx : vtxB c ⟨n, a, H, D⟩ with
            | false =>
              rw [hvx] at Hcall
              clear Hst Hop
              refine Hcall.out.mono ?_
              rintro e w8 ⟨rfl, hb8⟩
              have Hg38 := Lib.hid (grown_row (w := w3) Hg3r.out (below_grown hb8) (fun g e => by cases e))
              have Hown8 := Lib.hid (Hown3.out.same fun b h1 h2 => Hg38.out.block b h2 (fun e => by cases e; omega))
              have Hoh8 := Lib.hid (Hoh3.out.kept Hg38.out (.inr fun e => by have := (Hoh3.out.lt R e).1; omega))
              have Hrd8 := Lib.hid (Hrd.out.kept (below_grown hb8) (fun g e => by cases e))
              have hs8 := Hg38.out.size
              have HgW8 := Lib.hid (grownBy_trans Hgr3.out Hg38.out)
              clear hb8 c0 c1 c2 c3
              go_wp2
              go_roundw
              case rel => exact ⟨a + 1, g, q2, by omega, by go_num, Hown8.out.mono hs8, Hok.out, fun x hx => by have := Hord.out x hx; omega, by omega, Hrd8.out, by omega, HgW8.out, Hoh8.out, by omega⟩
              case measure => simp [intOf]; omega
            | true =>
              rw [hvx] at Hcall
              have Hok' := Lib.hid (gOk_push Hok.out hvx Hord.out)
              clear hvx
              refine Hcall.out.mono ?_
              rintro e w8 ⟨rfl, hb8⟩
              have Hg38 := Lib.hid (grown_row (w := w3) Hg3r.out (below_grown hb8) (fun g e => by cases e))
              have Hown8 := Lib.hid (Hown3.out.same fun b h1 h2 => Hg38.out.block b h2 (fun e => by cases e; omega))
              have Hoh8 := Lib.hid (Hoh3.out.kept Hg38.out (.inr fun e => by have := (Hoh3.out.lt R e).1; omega))
              have Hrd8 := Lib.hid (Hrd.out.kept (below_grown hb8) (fun g e => by cases e))
              have hs8 := Hg38.out.size
              have HgW8 := Lib.hid (grownBy_trans Hgr3.out Hg38.out)
              have st := (hb8.block _ Hst.out.lt).trans Hst.out
              have hop8 := Hop.out.below hb8
              have c0 := Str.cell st 0 (v := .int .i64 n) rfl
              have c1 := Str.cell st 1 (v := .int .i64 a) rfl
              have c2 := Str.cell st 2 (v := .slice a7 H.length c7) rfl
              have c3 := Str.cell st 3 (v := .int .i64 D) rfl
              obtain ⟨hfd, hap, hnew⟩ := vertex_new (B := w.heap.size) n a D hop8 hw3
              have Hfd := Lib.hid hfd; clear hfd
              have Hap := Lib.hid hap; clear hap
              have Hnew := Lib.hid hnew; clear hnew hop8 st hb8
              have hel : (g.map Vx.fd).length ≤ 1048576 := by rw [List.length_map]; omega
              have Hex := Lib.hid (show (g ++ [(⟨n, a, H, D⟩ : Vx)]).map Vx.fd = g.map Vx.fd ++ [[.i n, .i a, .l H, .i D]] by rw [List.map_append]; rfl)
              have hB8 : w.heap.size ≤ w8.heap.size := by omega
              generalize g.map Vx.fd = es at *
              go_wp2_with (at_builtin; refine wpList_push_own (Ei := 3) Try.underlying32 vertex_inf rfl (by decide) (by decide) rfl (.tmp 85) (.tmp 87) rfl w.heap.size _ es _ _ _ rfl rfl (by intro u hu; simp at hu; rcases hu with rfl | rfl | rfl | rfl <;> rfl) rfl rfl Hfd.out Hap.out w3.heap.size Hown8.out hs8 Hnew.out hel rfl hB8 ?_; intro v9 w9 hown9 hg9 hat9)
              go_roundw
              case rel => exact ⟨a + 1, g ++ [⟨n, a, H, D⟩], q2, by omega, by go_num, by rw [Hex.out]; exact hown9, Hok'.out, fun x hx => by
                rcases List.mem_append.1 hx with hx | hx
                · have := Hord.out x hx; omega
                · simp at hx; subst hx; exact .inr ⟨rfl, (show (a : Int) < ((a + 1 : Nat) : Int) by omega)⟩, by have := hgl; rw [List.length_append]; simp only [List.length_singleton]; omega, Hrd8.out.kept hg9 (fun g e => by have := (Hown8.out.lt g e).1; omega), by omega, grown_row HgW8.out hg9 (fun g e => (Hown8.out.lt g e).1), Hoh8.out.kept hg9 (Hown8.out.apartI Hoh8.out (by decide)), by have := hg9.size; omega⟩
              case measure => simp [intOf]; omega
          · have hld : decide (weightZ c ps < 2 * totalZ c / 3 + 1) = false := decide_eq_false hlow
            clear k2
            have hgW := grownBy_trans Hgr3.out Hg3r.out
            have hcW := Hc.out _ hgW
            have HgW := Lib.hid hgW; clear hgW
            have st := Hst.out
            have c0 := st.cell 0 (v := .int .i64 n) rfl
            have c1 := st.cell 1 (v := .int .i64 a) rfl
            have c2 := st.cell 2 (v := .slice ap ps.length cp) rfl
            have c3 := st.cell 3 (v := .int .i64 D) rfl
            have Hcall := Lib.hid (HVx.out n a D ap cp ps _ hpl hcW Hop.out.at)
            clear st hcW
            cases hvx : vtxB c ⟨n, a, ps, D⟩ with
            | false =>
              rw [hvx] at Hcall
              clear Hst Hop Hne
              go_wp2_with fail
              refine Hcall.out.mono ?_
              rintro e w8 ⟨rfl, hb8⟩
              have Hg38 := Lib.hid (grown_row (w := w3) Hg3r.out (below_grown hb8) (fun g e => by cases e))
              have Hown8 := Lib.hid (Hown3.out.same fun b h1 h2 => Hg38.out.block b h2 (fun e => by cases e; omega))
              have Hoh8 := Lib.hid (Hoh3.out.kept Hg38.out (.inr fun e => by have := (Hoh3.out.lt R e).1; omega))
              have Hrd8 := Lib.hid (Hrd.out.kept (below_grown hb8) (fun g e => by cases e))
              have hs8 := Hg38.out.size
              have HgW8 := Lib.hid (grownBy_trans Hgr3.out Hg38.out)
              clear hb8 c0 c1 c2 c3
              go_wp2
              go_roundw
              case rel => exact ⟨a + 1, g, q2, by omega, by go_num, Hown8.out.mono hs8, Hok.out, fun x hx => by have := Hord.out x hx; omega, by omega, Hrd8.out, by omega, HgW8.out, Hoh8.out, by omega⟩
              case measure => simp [intOf]; omega
            | true =>
              rw [hvx] at Hcall
              have Hok' := Lib.hid (gOk_push Hok.out hvx Hord.out)
              clear hvx
              go_wp2_with fail
              refine Hcall.out.mono ?_
              rintro e w8 ⟨rfl, hb8⟩
              have Hg38 := Lib.hid (grown_row (w := w3) Hg3r.out (below_grown hb8) (fun g e => by cases e))
              have Hown8 := Lib.hid (Hown3.out.same fun b h1 h2 => Hg38.out.block b h2 (fun e => by cases e; omega))
              have Hoh8 := Lib.hid (Hoh3.out.kept Hg38.out (.inr fun e => by have := (Hoh3.out.lt R e).1; omega))
              have Hrd8 := Lib.hid (Hrd.out.kept (below_grown hb8) (fun g e => by cases e))
              have hs8 := Hg38.out.size
              have HgW8 := Lib.hid (grownBy_trans Hgr3.out Hg38.out)
              have st := (hb8.block _ Hst.out.lt).trans Hst.out
              have hop8 := Hop.out.below hb8
              have c0 := Str.cell st 0 (v := .int .i64 n) rfl
              have c1 := Str.cell st 1 (v := .int .i64 a) rfl
              have c2 := Str.cell st 2 (v := .slice ap ps.length cp) rfl
              have c3 := Str.cell st 3 (v := .int .i64 D) rfl
              obtain ⟨hfd, hap, hnew⟩ := vertex_new (B := w.heap.size) n a D hop8 hw3
              have Hfd := Lib.hid hfd; clear hfd
              have Hap := Lib.hid hap; clear hap
              have Hnew := Lib.hid hnew; clear hnew hop8 st hb8
              have hel : (g.map Vx.fd).length ≤ 1048576 := by rw [List.length_map]; omega
              have Hex := Lib.hid (show (g ++ [(⟨n, a, ps, D⟩ : Vx)]).map Vx.fd = g.map Vx.fd ++ [[.i n, .i a, .l ps, .i D]] by rw [List.map_append]; rfl)
              have hB8 : w.heap.size ≤ w8.heap.size := by omega
              generalize g.map Vx.fd = es at *
              go_wp2_with (at_builtin; refine wpList_push_own (Ei := 3) Try.underlying32 vertex_inf rfl (by decide) (by decide) rfl (.tmp 85) (.tmp 87) rfl w.heap.size _ es _ _ _ rfl rfl (by intro u hu; simp at hu; rcases hu with rfl | rfl | rfl | rfl <;> rfl) rfl rfl Hfd.out Hap.out w3.heap.size Hown8.out hs8 Hnew.out hel rfl hB8 ?_; intro v9 w9 hown9 hg9 hat9)
              go_roundw
              case rel => exact ⟨a + 1, g ++ [⟨n, a, ps, D⟩], q2, by omega, by go_num, by rw [Hex.out]; exact hown9, Hok'.out, fun x hx => by
                rcases List.mem_append.1 hx with hx | hx
                · have := Hord.out x hx; omega
                · simp at hx; subst hx; exact .inr ⟨rfl, (show (a : Int) < ((a + 1 : Nat) : Int) by omega)⟩, by have := hgl; rw [List.length_append]; simp only [List.length_singleton]; omega, Hrd8.out.kept hg9 (fun g e => by have := (Hown8.out.lt g e).1; omega), by omega, grown_row HgW8.out hg9 (fun g e => (Hown8.out.lt g e).1), Hoh8.out.kept hg9 (Hown8.out.apartI Hoh8.out (by decide)), by have := hg9.size; omega⟩
              case measure => simp [intOf]; omega

end Go.Proofs.Ythnbjdijcpcafaa

/- The reference's past of a vertex, each text by a walk; conditions: lists are shorter than 2^40 (a graph: 2^20), and where the text asks it, the graph is valid. -/
namespace Go.Proofs.Ythnbjdijcpcafaa
open Go.RowKit

/-! the past, as the text marks it -/
def putB (g : List Vx) (r : Int) (bs : List Bool) (p : Int) : List Bool := bs.set (findZ g (r - 1) p).toNat true
def fromB (g : List Vx) (bs : List Bool) (x : Vx) (i k : Nat) : List Bool := if bs.getD i false = true then (x.ps.drop k).foldl (putB g x.r) bs else bs
def downB (g : List Vx) : Nat → List Bool → List Bool
  | 0, bs => bs
  | i + 1, bs => downB g i (fromB g bs (g.getD i vx0) i 0)
def pastB (g : List Vx) (at' : Int) : List Bool := if at' < 0 then List.replicate g.length false else downB g (at'.toNat + 1) ((List.replicate g.length false).set at'.toNat true)
theorem fromB_step {g : List Vx} {bs : List Bool} {x : Vx} {i k : Nat} (hk : k < x.ps.length) (hb : bs.getD i false = true) : (putB g x.r bs x.ps[k]).getD i false = true ∧ fromB g (putB g x.r bs x.ps[k]) x i (k + 1) = fromB g bs x i k := by
  have h1 : (putB g x.r bs x.ps[k]).getD i false = true := by
    unfold putB
    rw [List.getD_eq_getElem?_getD, List.getElem?_set]
    rw [List.getD_eq_getElem?_getD] at hb
    split
    · split
      · rfl
      · rename_i h1 h2
        rw [List.getElem?_eq_none (by omega)] at hb
        simp at hb
    · exact hb
  refine ⟨h1, ?_⟩
  unfold fromB
  rw [if_pos h1, if_pos hb, List.drop_eq_getElem_cons hk, List.foldl_cons]
theorem fromB_end {g : List Vx} {bs : List Bool} {x : Vx} {i : Nat} : fromB g bs x i x.ps.length = bs := by
  unfold fromB
  split
  · rw [List.drop_length]; rfl
  · rfl
theorem fromB_off {g : List Vx} {bs : List Bool} {x : Vx} {i k : Nat} (h : bs.getD i false = false) : fromB g bs x i k = bs := by unfold fromB; rw [if_neg (by rw [h]; decide)]
theorem putB_len (g : List Vx) (r : Int) (bs : List Bool) (p : Int) : (putB g r bs p).length = bs.length := by simp [putB]
/-- Each parent of a graph's vertex is found. -/
theorem graph_parents {c : List Int} {g : List Vx} (h : graphB c g = true) (i : Nat) (hi : i < g.length) (k : Nat) (hk : k < g[i].ps.length) : ∃ j : Nat, j < g.length ∧ findZ g (g[i].r - 1) g[i].ps[k] = j := by
  unfold graphB at h
  simp only [Bool.and_eq_true] at h
  have := allB_upto h.2 i hi
  unfold okV at this
  rw [getV hi] at this
  simp only [Bool.and_eq_true] at this
  have := allB_upto this.2.2 k hk
  unfold hasP at this
  rw [getD_get hk] at this
  have := of_decide_eq_true this
  rcases findZ_cases g (g[i].r - 1) g[i].ps[k] with ⟨e, _⟩ | ⟨j, hj, e, _⟩
  · omega
  · exact ⟨j, hj, e⟩

set_option maxRecDepth 8000 in
set_option maxHeartbeats 2000000 in
theorem spec_l11Past (c : List Int) (g : List Vx) (v : Value) (fp : List Nat) (at' : Int) (w : World) (hv : graphB c g = true) (hbig : g.length ≤ 1048576) (hps : ∀ x ∈ g, x.ps.length ≤ 1099511627776) (ha : at' = -1 ∨ ∃ j : Nat, j < g.length ∧ at' = j) (hg : Gr w g v fp) :
    Calls Try.prog 58 #[v, .int .i64 at'] w fun e w' => ∃ u, e = .returned u ∧ OwnB 4 w' w.heap.size u (pastB g at') ∧ Below w.heap.size w w' := by
  have hmk : ∀ w, (Instr.makeSlice 71 (.int .i64 (g.length : Int)) (.int .i64 (g.length : Int))).run Try.prog w = .ok (.slice (some ⟨w.heap.size, 0, none⟩) g.length g.length) (w.alloc (.cells (madeCells #[.bool false] g.length) 4)) :=
    fun w => run_make_row' 71 4 (.bool false) 1 Try.underlying71 (by kernel_rfl) rfl .i64 .i64 g.length (by omega) (by omega) w
  have hb1 : Below w.heap.size w (w.alloc (.cells (madeCells #[.bool false] g.length) 4)) := (Below.refl _ _).alloc (Nat.le_refl _) _
  have ho1 := ownB_new 4 w g.length (by unfold maxLen; omega)
  obtain ⟨va, vc, rfl⟩ := hg.slice
  have Hb1 := Lib.hid hb1; clear hb1
  have hsz : (w.alloc (.cells (madeCells #[.bool false] g.length) 4)).heap.size = w.heap.size + 1 := by simp
  rcases ha with rfl | ⟨a, haL, rfl⟩
  · have hz : pastB g (-1) = List.replicate g.length false := by unfold pastB; rw [if_pos (by omega)]
    have Hz := Lib.hid hz; clear hz
    have Ho1 := Lib.hid ho1; clear ho1
    go_enter Try.func58, Try.ntmps58
    go_wp2
    go_ret
    exact ⟨_, rfl, by rw [Hz.out]; exact Ho1.out, Hb1.out⟩
  have hz : pastB g (a : Int) = downB g (a + 1) ((List.replicate g.length false).set a true) := by unfold pastB; rw [if_neg (by omega)]; rfl
  have Hz := Lib.hid hz; clear hz
  obtain ⟨hst1, hst2⟩ := ho1.store (by simp) a true
  obtain ⟨hcell, hfr⟩ : (w.alloc (.cells (madeCells #[.bool false] g.length) 4)).cell? ⟨w.heap.size, a, none⟩ = some (.bool false) ∧ (w.alloc (.cells (madeCells #[.bool false] g.length) 4)).frozen? ⟨w.heap.size, a, none⟩ = false := by
    obtain ⟨g', cap', e, _, _, _, hc, hf⟩ := ho1.row (by simp; omega)
    simp only [Value.slice.injEq, Option.some.injEq, Addr.mk.injEq, List.length_replicate, and_true, true_and] at e
    obtain ⟨rfl, rfl⟩ := e
    have := hc a (by simpa using haL)
    exact ⟨by simpa using this, hf a⟩
  rw [show (w.alloc (.cells (madeCells #[.bool false] g.length) 4)).setCell ⟨w.heap.size, a, none⟩ (.bool true) = w.alloc (.cells ((madeCells #[.bool false] g.length).setIfInBounds a (.bool true)) 4) from World.setCell_alloc_at _ _ _ _ _ rfl] at hst1 hst2
  have Hst1 := Lib.hid hst1; clear hst1
  have HB1 := Lib.hid (Hb1.out.grown hst2 (by omega) (fun g' e => by cases e; exact Nat.le_refl _)); clear hst2 Hb1
  have HF := Lib.hid (fun r p W h => spec_l11Find g (.slice va g.length vc) fp r p W (by omega) h)
  have Hpar := Lib.hid (graph_parents hv)
  have Hrd := Lib.hid (graph_vtx hv)
  have HP := Lib.hid hps; clear hps
  clear ho1 hsz
  go_enter Try.func58, Try.ntmps58
  go_wp2
  clear hcell hfr hmk
  generalize w.alloc (.cells ((madeCells #[.bool false] g.length).setIfInBounds a (.bool true)) 4) = W1 at *
  go_loopw [6] (fun i wr => ∃ (n : Nat) (bs : List Bool), n ≤ a + 1 ∧ i = .int .i64 ((n : Int) - 1) ∧ bs.length = g.length ∧ downB g n bs = pastB g (a : Int) ∧ OwnB 4 wr w.heap.size (.slice (some ⟨w.heap.size, 0, none⟩) g.length g.length) bs ∧ Below w.heap.size w wr) (fun i _ => (intOf i + 1).toNat)
  case atStart => exact ⟨a + 1, _, Nat.le_refl _, by first | rfl | simp, by simp, Hz.out.symm, Hst1.out, HB1.out⟩
  case round =>
    obtain ⟨n, bs, hn, rfl, hbl, hres, hown, hbel⟩ := hrel
    have Hown := Lib.hid hown; clear hown
    have Hbel := Lib.hid hbel; clear hbel
    by_cases h0 : n = 0
    · subst h0
      have Hr := Lib.hid (show bs = pastB g (a : Int) from hres); clear hres
      go_wp2
      go_ret
      exact ⟨_, rfl, by rw [← Hr.out]; exact Hown.out, Hbel.out⟩
    · obtain ⟨m, rfl⟩ : ∃ m, n = m + 1 := ⟨n - 1, by omega⟩
      have e1 : ((m + 1 : Nat) : Int) - 1 = m := by omega
      rw [e1]
      have hge' : (0 : Int) ≤ (m : Int) := by omega
      have hw1 : IntKind.i64.wrap ((m : Int) - 1) = m - 1 := IntWalk.i64_in _ (by omega)
      have hmL : m < g.length := by omega
      have hres2 : downB g m (fromB g bs g[m] m 0) = pastB g (a : Int) := by rw [← hres, ← getV hmL]; rfl
      have Hres2 := Lib.hid hres2
      have hrr := vtx_round (Hrd.out _ (List.getElem_mem hmL))
      have hps := HP.out _ (List.getElem_mem hmL)
      have Hpm := Lib.hid (fun k hk => Hpar.out m hmL k hk)
      have Hcell := Lib.hid (fun W (h : Below w.heap.size w W) => by
        obtain ⟨b, off, e, hb, hat⟩ := (hg.under h).at (by omega)
        exact (⟨b, off, e, hat m hmL⟩ : ∃ b off, va = some ⟨b, off, none⟩ ∧ W.cell? ⟨b, off + m * 4, none⟩ = some (.int .i64 g[m].r) ∧ W.cell? ⟨b, off + m * 4 + 1, none⟩ = some (.int .i64 g[m].a) ∧ (∃ pa pc, W.cell? ⟨b, off + m * 4 + 2, none⟩ = some (.slice pa g[m].ps.length pc) ∧ IntsAt W pa g[m].ps ∧ SrcAt W pa pc g[m].ps) ∧ W.cell? ⟨b, off + m * 4 + 3, none⟩ = some (.int .i64 g[m].d)))
      obtain ⟨b, off, rfl, _⟩ := Hcell.out w (Below.refl _ _)
      clear e1 h0 hres hres2
      generalize hx : g[m] = x at *
      have Hx := Lib.hid hx; clear hx
      obtain ⟨W0, hW0⟩ : ∃ W0, W0 = wr := ⟨wr, rfl⟩
      subst hW0
      generalize hR : fromB g bs x m 0 = RES at *
      have HR := Lib.hid hR; clear hR
      go_wp2
      go_loopw [7] (fun i wr => ∃ (k : Nat) (bs' : List Bool), k ≤ x.ps.length ∧ i = .int .i64 k ∧ bs'.length = g.length ∧ fromB g bs' x m k = RES ∧ OwnB 4 wr w.heap.size (.slice (some ⟨w.heap.size, 0, none⟩) g.length g.length) bs' ∧ Below w.heap.size w wr) (fun i _ => x.ps.length - (intOf i).toNat)
      case atStart => exact ⟨0, bs, Nat.zero_le _, rfl, hbl, HR.out, Hown.out, Hbel.out⟩
      case round =>
        obtain ⟨k, bs', hk, rfl, hbl', hfr, hown', hbel'⟩ := hrel
        have Hfr := Lib.hid hfr; clear hfr
        have Hbel' := Lib.hid hbel'; clear hbel'
        obtain ⟨b', off', e, c0, c1, ⟨pa, pc, c2, i2, _⟩, c3⟩ := Hcell.out wr Hbel'.out
        simp only [Option.some.injEq, Addr.mk.injEq, and_true] at e
        obtain ⟨rfl, rfl⟩ := e
        obtain ⟨g', cap', e, _, _, _, hbc, hbf⟩ := hown'.row (by omega)
        simp only [Value.slice.injEq, Option.some.injEq, Addr.mk.injEq, and_true] at e
        obtain ⟨rfl, h9, rfl⟩ := e
        clear h9
        have hin := hbc m (by omega)
        have hbm : bs'.getD m false = bs'[m] := by simp [List.getD, List.getElem?_eq_getElem (show m < bs'.length by omega)]
        have Hown' := Lib.hid hown'; clear hown'
        by_cases hlt : k < x.ps.length
        · have hlt' : (k : Int) < (x.ps.length : Int) := by omega
          cases hbv : bs'[m] with
          | true =>
            rw [hbv] at hin hbm
            obtain ⟨j, hjL, hfz⟩ := Hpm.out k hlt
            obtain ⟨b2, off2, rfl, hb2, hat2⟩ := i2.cell (by omega)
            have q0 : wr.drew.cell? ⟨b, off + m * 4, none⟩ = some (.int .i64 x.r) := c0
            have q2 : wr.drew.cell? ⟨b, off + m * 4 + 2, none⟩ = some (.slice (some ⟨b2, off2, none⟩) x.ps.length pc) := c2
            have q3 : wr.drew.cell? ⟨b2, off2 + k, none⟩ = some (.int .i64 x.ps[k]) := hat2 k hlt
            obtain ⟨y, q4⟩ : ∃ y, wr.drew.cell? ⟨w.heap.size, j, none⟩ = some (.bool y) := ⟨_, hbc j (by omega)⟩
            have q5 : wr.drew.frozen? ⟨w.heap.size, j, none⟩ = false := hbf j
            have hw2 : IntKind.i64.wrap (x.r - 1) = x.r - 1 := IntWalk.i64_in _ (by omega)
            have hj2 : (j : Int) < (g.length : Int) := by omega
            have hm2 : (m : Int) < (g.length : Int) := by omega
            have hput : putB g x.r bs' x.ps[k] = bs'.set j true := by unfold putB; rw [hfz]; rfl
            obtain ⟨hs1, hs2⟩ := fromB_step (g := g) (i := m) hlt hbm
            rw [hput] at hs2
            have Hs2 := Lib.hid (hs2.trans Hfr.out)
            have Hfz := Lib.hid hfz
            have HF1 := Lib.hid (fun W h => HF.out (x.r - 1) x.ps[k] W h)
            have Hg1 := Lib.hid (hg.under Hbel'.out)
            have hb0 : Below wr.heap.size wr wr.drew := (Below.refl _ _).drew
            have Hst := Lib.hid ((show OwnB 4 wr.drew w.heap.size (.slice (some ⟨w.heap.size, 0, none⟩) g.length g.length) bs' from Hown'.out).store hbl'.symm j true)
            clear c1 c3 hfz hput hs1 hs2 hat2 hbc hbf hbm hbv
            generalize x.ps[k] = p at *
            go_wp2_with fail
            refine wp_region_L 18 (fun w' => w' = wr.drew) (by kernel_rfl) rfl (fun hH => ?_)
            refine takeL 0 (v := ?vp0) rfl (by kernel_rfl) (by kernel_rfl) (by kernel_rfl) (by kernel_rfl) (by kernel_rfl) (fun _ _ _ h => h) hH rfl ?yp0 ?rp0
            case yp0 => intro W hSw; subst hSw; go_simp; try with_reducible rfl
            try simp only [Act.put, List.setIfInBounds_toArray, List.set_cons_zero, List.set_cons_succ]
            refine takeL 1 (v := ?vp1) rfl (by kernel_rfl) (by kernel_rfl) (by kernel_rfl) (by kernel_rfl) (by kernel_rfl) (fun _ _ _ h => h) hH rfl ?yp1 ?rp1
            case yp1 => intro W hSw; subst hSw; go_simp; try with_reducible rfl
            try simp only [Act.put, List.setIfInBounds_toArray, List.set_cons_zero, List.set_cons_succ]
            refine takeL 2 (v := ?vp2) rfl (by kernel_rfl) (by kernel_rfl) (by kernel_rfl) (by kernel_rfl) (by kernel_rfl) (fun _ _ _ h => h) hH rfl ?yp2 ?rp2
            case yp2 => intro W hSw; subst hSw; go_simp; try with_reducible rfl
            try simp only [Act.put, List.setIfInBounds_toArray, List.set_cons_zero, List.set_cons_succ]
            refine takeL 3 (v := ?vp3) rfl (by kernel_rfl) (by kernel_rfl) (by kernel_rfl) (by kernel_rfl) (by kernel_rfl) (fun _ _ _ h => h) hH rfl ?yp3 ?rp3
            case yp3 => intro W hSw; subst hSw; go_simp; try with_reducible rfl
            try simp only [Act.put, List.setIfInBounds_toArray, List.set_cons_zero, List.set_cons_succ]
            refine takeL 4 (v := ?vp4) rfl (by kernel_rfl) (by kernel_rfl) (by kernel_rfl) (by kernel_rfl) (by kernel_rfl) (fun _ _ _ h => h) hH rfl ?yp4 ?rp4
            case yp4 => intro W hSw; subst hSw; go_simp; try with_reducible rfl
            try simp only [Act.put, List.setIfInBounds_toArray, List.set_cons_zero, List.set_cons_succ]
            refine takeL 5 (v := ?vp5) rfl (by kernel_rfl) (by kernel_rfl) (by kernel_rfl) (by kernel_rfl) (by kernel_rfl) (fun _ _ _ h => h) hH rfl ?yp5 ?rp5
            case yp5 => intro W hSw; subst hSw; go_simp; try with_reducible rfl
            try simp only [Act.put, List.setIfInBounds_toArray, List.set_cons_zero, List.set_cons_succ]
            refine takeL 6 (v := ?vp6) rfl (by kernel_rfl) (by kernel_rfl) (by kernel_rfl) (by kernel_rfl) (by kernel_rfl) (fun _ _ _ h => h) hH rfl ?yp6 ?rp6
            case yp6 => intro W hSw; subst hSw; go_simp; try with_reducible rfl
            try simp only [Act.put, List.setIfInBounds_toArray, List.set_cons_zero, List.set_cons_succ]
            refine takeL 7 (v := ?vp7) rfl (by kernel_rfl) (by kernel_rfl) (by kernel_rfl) (by kernel_rfl) (by kernel_rfl) (fun _ _ _ h => h) hH rfl ?yp7 ?rp7
            case yp7 => intro W hSw; subst hSw; go_simp; try with_reducible rfl
            try simp only [Act.put, List.setIfInBounds_toArray, List.set_cons_zero, List.set_cons_succ]
            refine takeL 8 (v := ?vp8) rfl (by kernel_rfl) (by kernel_rfl) (by kernel_rfl) (by kernel_rfl) (by kernel_rfl) (fun _ _ _ h => h) hH rfl ?yp8 ?rp8
            case yp8 => intro W hSw; subst hSw; go_simp; try with_reducible rfl
            try simp only [Act.put, List.setIfInBounds_toArray, List.set_cons_zero, List.set_cons_succ]
            refine takeL 9 (v := ?vp9) rfl (by kernel_rfl) (by kernel_rfl) (by kernel_rfl) (by kernel_rfl) (by kernel_rfl) (fun _ _ _ h => h) hH rfl ?yp9 ?rp9
            case yp9 => intro W hSw; subst hSw; go_simp; try with_reducible rfl
            try simp only [Act.put, List.setIfInBounds_toArray, List.set_cons_zero, List.set_cons_succ]
            refine takeL 10 (v := ?vp10) rfl (by kernel_rfl) (by kernel_rfl) (by kernel_rfl) (by kernel_rfl) (by kernel_rfl) (fun _ _ _ h => h) hH rfl ?yp10 ?rp10
            case yp10 => intro W hSw; subst hSw; go_simp; try with_reducible rfl
            try simp only [Act.put, List.setIfInBounds_toArray, List.set_cons_zero, List.set_cons_succ]
            refine takeL 11 (v := ?vp11) rfl (by kernel_rfl) (by kernel_rfl) (by kernel_rfl) (by kernel_rfl) (by kernel_rfl) (fun _ _ _ h => h) hH rfl ?yp11 ?rp11
            case yp11 => intro W hSw; subst hSw; go_simp; try with_reducible rfl
            try simp only [Act.put, List.setIfInBounds_toArray, List.set_cons_zero, List.set_cons_succ]
            refine takeL 12 (v := ?vp12) rfl (by kernel_rfl) (by kernel_rfl) (by kernel_rfl) (by kernel_rfl) (by kernel_rfl) (fun _ _ _ h => h) hH rfl ?yp12 ?rp12
            case yp12 => intro W hSw; subst hSw; go_simp; try with_reducible rfl
            try simp only [Act.put, List.setIfInBounds_toArray, List.set_cons_zero, List.set_cons_succ]
            refine takeL 13 (v := ?vp13) rfl (by kernel_rfl) (by kernel_rfl) (by kernel_rfl) (by kernel_rfl) (by kernel_rfl) (fun _ _ _ h => h) hH rfl ?yp13 ?rp13
            case yp13 => intro W hSw; subst hSw; go_simp; try with_reducible rfl
            try simp only [Act.put, List.setIfInBounds_toArray, List.set_cons_zero, List.set_cons_succ]
            refine takeL 14 (v := ?vp14) rfl (by kernel_rfl) (by kernel_rfl) (by kernel_rfl) (by kernel_rfl) (by kernel_rfl) (fun _ _ _ h => h) hH rfl ?yp14 ?rp14
            case yp14 => intro W hSw; subst hSw; go_simp; try with_reducible rfl
            try simp only [Act.put, List.setIfInBounds_toArray, List.set_cons_zero, List.set_cons_succ]
            refine takeL 15 (v := ?vp15) rfl (by kernel_rfl) (by kernel_rfl) (by kernel_rfl) (by kernel_rfl) (by kernel_rfl) (fun _ _ _ h => h) hH rfl ?yp15 ?rp15
            case yp15 => intro W hSw; subst hSw; go_simp; try with_reducible rfl
            try simp only [Act.put, List.setIfInBounds_toArray, List.set_cons_zero, List.set_cons_succ]
            refine callL 16 rfl (by kernel_rfl) rfl (fun K hK => ?_)
            go_simp
            go_at_call 62
            refine (HF1.out wr.drew (Hg1.out.under hb0)).mono ?_
            rintro e wx ⟨rfl, rfl⟩
            rw [Hfz.out]
            refine hK.out _ _ rfl (fun hH => ?_)
            clear hK K
            try simp only [Act.put, List.setIfInBounds_toArray, List.set_cons_zero, List.set_cons_succ]
            refine takeL 17 (v := ?vp17) rfl (by kernel_rfl) (by kernel_rfl) (by kernel_rfl) (by kernel_rfl) (by kernel_rfl) (fun _ _ _ h => h) hH rfl ?yp17 ?rp17
            case yp17 => intro W hSw; subst hSw; go_simp; try with_reducible rfl
            try simp only [Act.put, List.setIfInBounds_toArray, List.set_cons_zero, List.set_cons_succ]
            refine lastL rfl (by kernel_rfl) (by kernel_rfl) (by kernel_rfl) rfl (fun K hK => ?_)
            go_simp
            refine hK.out _ _ ?_
            clear hK K
            try simp only [Act.put, List.setIfInBounds_toArray, List.set_cons_zero, List.set_cons_succ]
            go_wp2
            go_roundw
            case rel => exact ⟨k + 1, bs'.set j true, by omega, by go_num, by rw [List.length_set]; exact hbl', Hs2.out, Hst.out.1, Hbel'.out.drew.grown Hst.out.2 (by simp only [World.drew]; exact Nat.le_trans Hbel'.out.size (Nat.le_refl _)) (fun g' e => by cases e; exact Nat.le_refl _)⟩
            case measure => simp [intOf]; omega
          | false =>
            rw [hbv] at hin hbm
            have Hr := Lib.hid ((fromB_off (g := g) (x := x) (k := k) hbm).symm.trans Hfr.out)
            clear hbc hbf hbm hbv
            go_wp2
            go_roundw
            case rel => exact ⟨m, bs', by omega, by first | rfl | go_num, hbl', by rw [Hr.out]; exact Hres2.out, Hown'.out, Hbel'.out⟩
            case measure => simp [intOf]
        · have hke : k = x.ps.length := by omega
          subst hke
          have Hr := Lib.hid (fromB_end.symm.trans Hfr.out)
          clear hbc hbf hbm hin
          go_wp2
          go_roundw
          case rel => exact ⟨m, bs', by omega, by first | rfl | go_num, hbl', by rw [Hr.out]; exact Hres2.out, Hown'.out, Hbel'.out⟩
          case measure => simp [intOf]

theorem pastB_len (g : List Vx) (a : Int) : (pastB g a).length = g.length := by
  have hf : ∀ (r : Int) (ps : List Int) (bs : List Bool), (ps.foldl (putB g r) bs).length = bs.length := by
    intro r ps
    induction ps with
    | nil => intro bs; rfl
    | cons p ps ih => intro bs; rw [List.foldl_cons, ih, putB_len]
  have hd : ∀ (n : Nat) (bs : List Bool), (downB g n bs).length = bs.length := by
    intro n
    induction n with
    | zero => intro bs; rfl
    | succ n ih =>
      intro bs
      rw [downB, ih]
      unfold fromB
      split
      · exact hf _ _ _
      · rfl
  unfold pastB
  split
  · simp
  · rw [hd]; simp

/-- The places of truth below n. -/
def idxTo (bs : List Bool) (n : Nat) : List Int := ((List.range n).filter fun i => bs.getD i false).map Int.ofNat
theorem idxTo_zero (bs : List Bool) : idxTo bs 0 = [] := rfl
theorem idxTo_yes {bs : List Bool} {n : Nat} (h : bs.getD n false = true) : idxTo bs (n + 1) = idxTo bs n ++ [(n : Int)] := by simp only [idxTo, List.range_succ, List.filter_append, List.map_append, List.filter_cons, h]; rfl
theorem idxTo_no {bs : List Bool} {n : Nat} (h : bs.getD n false = false) : idxTo bs (n + 1) = idxTo bs n := by simp only [idxTo, List.range_succ, List.filter_append, List.map_append, List.filter_cons, h]; simp
theorem idxTo_len (bs : List Bool) (n : Nat) : (idxTo bs n).length ≤ n := by
  unfold idxTo
  rw [List.length_map]
  exact Nat.le_trans (List.length_filter_le _ _) (by simp)
def gpZ (c : List Int) (g : List Vx) (r a : Int) : List Int := if graphB c g = true then idxTo (pastB g (findZ g r a)) g.length else []
theorem gpZ_len (c : List Int) (g : List Vx) (r a : Int) : (gpZ c g r a).length ≤ g.length := by
  unfold gpZ
  split
  · exact idxTo_len _ _
  · simp

end Go.Proofs.Ythnbjdijcpcafaa

/- Places of a graph by round and author, and a graph whose vertices are linked by pointers: how it lies in memory, what stays of it when other memory is made or written; no conditions. -/
namespace Go.Proofs.Ythnbjdijcpcafaa
open Go.RowKit

/-- The number of the place of a round and an author. -/
def plN (r a : Int) : Nat := 1 + (r.toNat * 7 + a.toNat)
/-- Before the place (r, a). -/
def plB (r a : Nat) (v : Vx) : Bool := decide (v.r < r ∨ v.r = r ∧ v.a < a)
def inPl (v : Vx) : Prop := 0 ≤ v.r ∧ v.r ≤ 30 ∧ 0 ≤ v.a ∧ v.a ≤ 6
theorem plN_inj {r a r' a' : Int} (hr : 0 ≤ r) (ha : 0 ≤ a) (ha' : a ≤ 6) (hr2 : 0 ≤ r') (ha2 : 0 ≤ a') (ha2' : a' ≤ 6) (h : plN r a = plN r' a') : r = r' ∧ a = a' := by
  unfold plN at h; omega
theorem plN_bd {r a : Int} (h : r ≤ 30) (ha : a ≤ 6) : 1 ≤ plN r a ∧ plN r a < 218 := by unfold plN; omega
/-- What stands before a place. -/
def outZ (g : List Vx) (r a : Nat) : List Vx := g.filter (plB r a)
def Srt (g : List Vx) : Prop := g.Pairwise fun a b => befB a b = true
theorem outZ_zero {g : List Vx} (h : ∀ v ∈ g, inPl v) : outZ g 0 0 = [] := by
  unfold outZ
  rw [List.filter_eq_nil_iff]
  intro v hv
  have := h v hv
  unfold inPl at this
  unfold plB
  simp; omega
theorem outZ_row {g : List Vx} (h : ∀ v ∈ g, inPl v) (r : Nat) : outZ g r 7 = outZ g (r + 1) 0 := by
  unfold outZ
  refine List.filter_congr fun v hv => ?_
  have := h v hv
  unfold inPl at this
  unfold plB
  rw [Bool.eq_iff_iff, decide_eq_true_iff, decide_eq_true_iff]; omega
theorem outZ_end {g : List Vx} (h : ∀ v ∈ g, inPl v) : outZ g 31 0 = g := by
  unfold outZ
  rw [List.filter_eq_self]
  intro v hv
  have := h v hv
  unfold inPl at this
  unfold plB
  simp; omega
theorem outZ_len (g : List Vx) (r a : Nat) : (outZ g r a).length ≤ g.length := List.length_filter_le _ _
theorem befB_iff {x y : Vx} : befB x y = true ↔ (x.r < y.r ∨ x.r = y.r ∧ x.a < y.a) := by unfold befB; exact decide_eq_true_iff
theorem outZ_step {g : List Vx} (h : Srt g) (r a : Nat) : outZ g r (a + 1) = outZ g r a ++ g.filter (sameRA r a) := by
  unfold outZ
  induction g with
  | nil => rfl
  | cons x g ih =>
    have hx := (List.pairwise_cons.1 h).1
    have ih := ih (List.pairwise_cons.1 h).2
    by_cases hp : plB r a x = true
    · have h1 : plB r (a + 1) x = true := by unfold plB at hp ⊢; simp at hp ⊢; omega
      have h2 : sameRA r a x = false := by unfold plB at hp; unfold sameRA; simp at hp ⊢; omega
      rw [List.filter_cons, if_pos h1, List.filter_cons, if_pos hp, List.filter_cons (p := sameRA r a), h2, ih]; rfl
    · have hno : g.filter (plB r a) = [] := by
        rw [List.filter_eq_nil_iff]
        intro v hv
        have hb := befB_iff.1 (hx v hv)
        unfold plB at hp ⊢
        simp at hp ⊢
        omega
      rw [hno, List.nil_append] at ih
      rw [List.filter_cons, List.filter_cons (p := plB r a), if_neg hp, hno, List.nil_append, List.filter_cons (p := sameRA r a), ih]
      have e : plB r (a + 1) x = sameRA r a x := by
        unfold plB sameRA at *
        simp at hp
        rw [Bool.eq_iff_iff, decide_eq_true_iff, decide_eq_true_iff]
        omega
      rw [e]
theorem srt_uni {g : List Vx} (h : Srt g) {x y : Vx} (hx : x ∈ g) (hy : y ∈ g) (hr : x.r = y.r) (ha : x.a = y.a) : x = y := by
  induction g with
  | nil => cases hx
  | cons z g ih =>
    have hz := (List.pairwise_cons.1 h).1
    rcases List.mem_cons.1 hx with rfl | hx'
    · rcases List.mem_cons.1 hy with rfl | hy'
      · rfl
      · have := befB_iff.1 (hz y hy'); omega
    · rcases List.mem_cons.1 hy with rfl | hy'
      · have := befB_iff.1 (hz x hx'); omega
      · exact ih (List.pairwise_cons.1 h).2 hx' hy'
theorem filter_uni {g : List Vx} (h : Srt g) {x : Vx} (hx : x ∈ g) : g.filter (sameRA x.r x.a) = [x] := by
  induction g with
  | nil => cases hx
  | cons z g ih =>
    have hz := (List.pairwise_cons.1 h).1
    have hsame : ∀ v, sameRA x.r x.a v = true ↔ v.r = x.r ∧ v.a = x.a := fun v => by unfold sameRA; exact decide_eq_true_iff
    rcases List.mem_cons.1 hx with rfl | hx'
    · rw [List.filter_cons, if_pos ((hsame _).2 ⟨rfl, rfl⟩)]
      congr 1
      rw [List.filter_eq_nil_iff]
      intro v hv e
      have := (hsame v).1 e
      have := befB_iff.1 (hz v hv); omega
    · rw [List.filter_cons, if_neg, ih (List.pairwise_cons.1 h).2 hx']
      intro e
      have := (hsame z).1 e
      have := befB_iff.1 (hz x hx'); omega
theorem filter_none {g : List Vx} {r a : Int} (h : ∀ v ∈ g, ¬ (v.r = r ∧ v.a = a)) : g.filter (sameRA r a) = [] := by
  rw [List.filter_eq_nil_iff]
  intro v hv e
  exact h v hv (of_decide_eq_true e)
theorem outZ_yes {g : List Vx} (h : Srt g) {r a : Nat} {x : Vx} (hx : x ∈ g) (hr : x.r = r) (ha : x.a = a) : outZ g r (a + 1) = outZ g r a ++ [x] := by
  rw [outZ_step h, ← hr, ← ha, filter_uni h hx]
theorem outZ_no {g : List Vx} (h : Srt g) {r a : Nat} (hn : ∀ v ∈ g, ¬ (v.r = r ∧ v.a = a)) : outZ g r (a + 1) = outZ g r a := by
  rw [outZ_step h, filter_none hn, List.append_nil]

/-! finding by a place -/
theorem findZ_mem {g : List Vx} (h : Srt g) {x : Vx} (hx : x ∈ g) : ∃ k : Nat, ∃ hk : k < g.length, findZ g x.r x.a = k ∧ g[k] = x := by
  rcases findZ_cases g x.r x.a with ⟨_, hno⟩ | ⟨k, hk, e, hs, _⟩
  · have := hno x hx; unfold sameRA at this; simp at this
  · refine ⟨k, hk, e, srt_uni h (List.getElem_mem hk) hx ?_ ?_⟩ <;> (unfold sameRA at hs; simp at hs; omega)
theorem findZ_none {g : List Vx} {r a : Int} (h : ∀ v ∈ g, ¬ (v.r = r ∧ v.a = a)) : findZ g r a = -1 := by
  rcases findZ_cases g r a with ⟨e, _⟩ | ⟨k, hk, _, hs, _⟩
  · exact e
  · exact absurd (of_decide_eq_true hs) (h _ (List.getElem_mem hk))

/-! adding by a place -/
theorem bef_total {x y : Vx} (h : ¬ (x.r = y.r ∧ x.a = y.a)) (hb : befB x y = false) : befB y x = true := by
  unfold befB at hb; simp at hb
  refine befB_iff.2 ?_; omega
theorem ins_mem {g : List Vx} {x y : Vx} : y ∈ insG g x ↔ y ∈ g ∨ y = x := by
  unfold insG
  rw [List.mem_append, List.mem_append, List.mem_singleton]
  constructor
  · rintro ((h | h) | h)
    · exact .inl (List.mem_of_mem_take h)
    · exact .inr h
    · exact .inl (List.mem_of_mem_drop h)
  · rintro (h | h)
    · rw [← List.take_append_drop (insN g x) g, List.mem_append] at h
      rcases h with h | h
      · exact .inl (.inl h)
      · exact .inr h
    · exact .inl (.inr h)
theorem ins_srt {g : List Vx} {x : Vx} (h : Srt g) (hn : ∀ v ∈ g, ¬ (v.r = x.r ∧ v.a = x.a)) : Srt (insG g x) := by
  unfold Srt insG insN at *
  induction g with
  | nil => simp
  | cons z g ih =>
    obtain ⟨hz, hg⟩ := List.pairwise_cons.1 h
    rw [List.findIdx_cons]
    by_cases hb : befB z x = true
    · simp only [hb, Bool.not_true, cond_false, List.take_succ_cons, List.drop_succ_cons, List.cons_append]
      refine List.pairwise_cons.2 ⟨fun v hv => ?_, ih hg (fun v hv => hn v (List.mem_cons_of_mem _ hv))⟩
      rcases (ins_mem (g := g) (x := x)).1 hv with hv | rfl
      · exact hz v hv
      · exact hb
    · have hb' : befB z x = false := by simpa using hb
      simp only [hb', Bool.not_false, cond_true, List.take_zero, List.drop_zero, List.nil_append, List.singleton_append]
      have hxz := bef_total (hn z (by simp)) hb'
      refine List.pairwise_cons.2 ⟨fun v hv => ?_, h⟩
      rcases List.mem_cons.1 hv with rfl | hv
      · exact hxz
      · exact bef_trans hxz (hz v hv)
theorem ins_last {g : List Vx} {x : Vx} (h : ∀ v ∈ g, befB v x = true) : insG g x = g ++ [x] := by
  have : insN g x = g.length := by
    unfold insN
    exact List.findIdx_eq_length.2 fun y hy => by simp [h y hy]
  unfold insG; rw [this]; simp
theorem addG_lenP (g : List Vx) (x : Vx) : (addG g x).length ≤ g.length + 1 := by
  unfold addG
  split
  · unfold insG
    rw [List.length_append, List.length_append, List.length_take, List.length_drop]
    simp; omega
  · omega
theorem addG_memP {g : List Vx} {x y : Vx} (h : y ∈ addG g x) : y ∈ g ∨ y = x := by
  unfold addG at h
  split at h
  · exact ins_mem.1 h
  · exact .inl h
def arrP (n : Nat) (f : Nat → Value) : Array Value := ((List.range n).map f).toArray
theorem arrP_size (n : Nat) (f : Nat → Value) : (arrP n f).size = n := by simp [arrP]
theorem arrP_get {n : Nat} {f : Nat → Value} {j : Nat} (h : j < n) : (arrP n f)[j]? = some (f j) := by simp [arrP, h]
theorem arrP_set {n : Nat} {f : Nat → Value} {k : Nat} {v : Value} : (arrP n f).setIfInBounds k v = arrP n fun i => if i = k then v else f i := by
  apply Array.ext
  · simp [arrP]
  · intro j h1 h2
    have hj : j < n := by simpa [arrP] using h2
    rw [Array.getElem_setIfInBounds (by simpa [arrP] using hj)]
    by_cases e : k = j
    · subst e; simp [arrP]
    · have e' : ¬ j = k := fun h => e h.symm
      simp [arrP, e, e']

def ptrV (q : Nat) : Value := .pointer (some ⟨q, 0, none⟩)
theorem ptrV_one (q : Nat) : (ptrV q).oneCell' = true := rfl
theorem ptrV_none (q : Nat) : ptrV q ≠ .pointer none := by intro h; cases h
/-- A list of pointers of the call's own. -/
def OwnP (E : TypeId) (w : World) (B : Nat) (v : Value) (qs : List Nat) : Prop := w.ownsRow B E 1 v qs.length (qs.map ptrV)
section
variable {E : TypeId} {w w' : World} {B : Nat} {v : Value} {qs : List Nat}
theorem OwnP.nil (E : TypeId) (w : World) (B : Nat) : OwnP E w B (.slice none 0 0) [] := World.ownsRow_nil _ _ _ _
theorem OwnP.kept {row : Option Nat} (h : OwnP E w B v qs) (hg : w.grownBy w' row) (hne : v.ownBlock = none ∨ v.ownBlock ≠ row) : OwnP E w' B v qs := World.ownsRow.kept h hg hne
theorem OwnP.lt (h : OwnP E w B v qs) : ∀ k, v.ownBlock = some k → B ≤ k ∧ k < w.heap.size := World.ownsRow.lt h
theorem OwnP.below (h : OwnP E w B v qs) (hg : Below w.heap.size w w') : OwnP E w' B v qs := h.kept (below_grown hg) (by cases hv : v.ownBlock <;> simp)
theorem OwnP.slice (h : OwnP E w B v qs) : ∃ a cap, v = .slice a qs.length cap ∧ qs.length ≤ maxLen := by
  rcases h.2 with ⟨rfl, h0⟩ | ⟨g, cap, cur, rfl, hb, hg, hn, hm, hs, ht⟩
  · exact ⟨none, 0, by rw [h0], by rw [h0]; simp⟩
  · exact ⟨_, cap, rfl, by omega⟩
theorem OwnP.cell (h : OwnP E w B v qs) (j : Nat) (hj : j < qs.length) : ∃ g cap, v = .slice (some ⟨g, 0, none⟩) qs.length cap ∧ B ≤ g ∧ g < w.heap.size ∧ w.cell? ⟨g, j, none⟩ = some (ptrV qs[j]) := by
  rcases h.2 with ⟨rfl, h0⟩ | ⟨g, cap, cur, rfl, hb, hg, hn, hm, hs, ht⟩
  · omega
  · refine ⟨g, cap, rfl, hb, (Array.getElem?_eq_some_iff.1 hg).1, ?_⟩
    have hc := World.ownsRow.cells (w := w) (base := B) (e := E) (size := 1) (v := .slice (some ⟨g, 0, none⟩) qs.length cap) (n := qs.length) (xs := qs.map ptrV) h (g := g) rfl j (ptrV qs[j]) (by simp [hj])
    rwa [addr_add] at hc
end

theorem cells_ptr (w : World) (E : TypeId) (q : Nat) : ∀ j u, [ptrV q][j]? = some u → (w.alloc (.cells #[ptrV q] E)).cell? ((⟨w.heap.size, 0, none⟩ : Addr).add j) = some u := by
  intro j u hu
  match j, hu with
  | 0, hu =>
    simp at hu; subst hu
    rw [addr_add, World.cell?_alloc_at _ _ _ _ rfl]; rfl

/-- A vertex with pointers to its parents: its numbers and list as they were at first, the pointers of the call's own. -/
structure Nd (w0 w : World) (hi G : Nat) (h : Nat → Value) (q : Nat) (y : Vx) : Prop where
  lo : w0.heap.size ≤ q
  lt : q < hi
  ne : q ≠ G
  ex : ∃ pa pc pv qs, Str w q 81 #[.int .i64 y.r, .int .i64 y.a, .slice pa y.ps.length pc, .int .i64 y.d, pv] ∧ IntsAt w0 pa y.ps ∧ SrcAt w0 pa pc y.ps ∧ OwnP 73 w w0.heap.size pv qs ∧
    (∀ b, pv.ownBlock = some b → b ≠ G ∧ b < hi) ∧ qs.length = y.ps.length ∧ ∀ j (hj : j < qs.length) (hj' : j < y.ps.length), h (plN (y.r - 1) y.ps[j]) = ptrV qs[j]
theorem Nd.kept {w0 w w' : World} {hi G q : Nat} {h : Nat → Value} {y : Vx} {row : Option Nat} (n : Nd w0 w hi G h q y) (hg : w.grownBy w' row) (hrow : ∀ m, row = some m → hi ≤ m ∨ m = G) : Nd w0 w' hi G h q y := by
  obtain ⟨pa, pc, pv, qs, s, i, c, o, ob, l, p⟩ := n.ex
  refine ⟨n.lo, n.lt, n.ne, pa, pc, pv, qs, s.kept hg fun e => ?_, i, c, o.kept hg ?_, ob, l, p⟩
  · have := n.lt; have := n.ne; rcases hrow q e.symm with h | h <;> omega
  · cases hv : pv.ownBlock with
    | none => exact .inl rfl
    | some b =>
      refine .inr fun e => ?_
      have := ob b hv
      rcases hrow b e.symm with h | h <;> omega
/-- A graph: the places of its block point to its vertices. -/
structure Lk (w0 w : World) (hi G : Nat) (mv : Value) (h : Nat → Value) (g : List Vx) : Prop where
  lo : w0.heap.size ≤ G
  lt : G < hi
  le : hi ≤ w.heap.size
  str : Str w G 77 (arrP 218 h)
  mem : h 0 = mv
  has : ∀ y ∈ g, ∃ q, h (plN y.r y.a) = ptrV q ∧ Nd w0 w hi G h q y
  non : ∀ r a : Int, 0 ≤ r → r ≤ 30 → 0 ≤ a → a ≤ 6 → (∀ y ∈ g, ¬ (y.r = r ∧ y.a = a)) → h (plN r a) = .pointer none
theorem Lk.kept {w0 w w' : World} {hi G : Nat} {mv : Value} {h : Nat → Value} {g : List Vx} {row : Option Nat} (l : Lk w0 w hi G mv h g) (hg : w.grownBy w' row) (hrow : ∀ m, row = some m → hi ≤ m) : Lk w0 w' hi G mv h g := by
  refine ⟨l.lo, l.lt, Nat.le_trans l.le hg.size, l.str.kept hg fun e => ?_, l.mem, fun y hy => ?_, l.non⟩
  · have := hrow G e.symm; have := l.lt; omega
  · obtain ⟨q, e, n⟩ := l.has y hy
    exact ⟨q, e, n.kept hg fun m e => .inl (hrow m e)⟩
theorem Lk.under {w0 w w' : World} {hi G : Nat} {mv : Value} {h : Nat → Value} {g : List Vx} (l : Lk w0 w hi G mv h g) (hb : Below w.heap.size w w') : Lk w0 w' hi G mv h g := l.kept (below_grown hb) fun _ e => by cases e
theorem Lk.cell {w0 w : World} {hi G : Nat} {mv : Value} {h : Nat → Value} {g : List Vx} (l : Lk w0 w hi G mv h g) {k : Nat} (hk : k < 218) : w.cell? ⟨G, k, none⟩ = some (h k) := l.str.cell k (arrP_get hk)
theorem Lk.same {w0 w : World} {hi G : Nat} {mv : Value} {h : Nat → Value} {g g' : List Vx} (l : Lk w0 w hi G mv h g) (hs : ∀ y, y ∈ g' ↔ y ∈ g) : Lk w0 w hi G mv h g' :=
  ⟨l.lo, l.lt, l.le, l.str, l.mem, fun y hy => l.has y ((hs y).1 hy), fun r a h1 h2 h3 h4 hn => l.non r a h1 h2 h3 h4 fun y hy => hn y ((hs y).2 hy)⟩
/-- An empty graph. -/
theorem Lk.new {w0 w' : World} {G hi : Nat} {mv : Value} (hs : Str w' G 77 (arrP 218 fun i => if i = 0 then mv else .pointer none)) (hG : w0.heap.size ≤ G) (hhi : G < hi) (hle : hi ≤ w'.heap.size) :
    Lk w0 w' hi G mv (fun i => if i = 0 then mv else .pointer none) [] :=
  ⟨hG, hhi, hle, hs, by simp, (fun y hy => by cases hy), fun r a h1 h2 h3 h4 _ => by rw [if_neg]; unfold plN; omega⟩
/-- A vertex is put into its place. -/
theorem Lk.put {w0 w w1 : World} {hi G q : Nat} {mv : Value} {h : Nat → Value} {g g' : List Vx} {x : Vx} (l : Lk w0 w hi G mv h g) (hg : w.grownBy w1 none) (hx : inPl x) (hno : ∀ y ∈ g, ¬ (y.r = x.r ∧ y.a = x.a))
    (hq : hi ≤ q) {hi2 : Nat} (hq2 : q < hi2) (hh : hi ≤ hi2) (hz : hi2 ≤ w1.heap.size) {pa : Option Addr} {pc : Nat} {pv : Value} {qs : List Nat} (hs : Str w1 q 81 #[.int .i64 x.r, .int .i64 x.a, .slice pa x.ps.length pc, .int .i64 x.d, pv]) (hi' : IntsAt w0 pa x.ps) (hsr : SrcAt w0 pa pc x.ps)
    (ho : OwnP 73 w1 w0.heap.size pv qs) (hob : ∀ b, pv.ownBlock = some b → b ≠ G ∧ b < hi2) (hl : qs.length = x.ps.length) (hp : ∀ j (hj : j < qs.length) (hj' : j < x.ps.length), h (plN (x.r - 1) x.ps[j]) = ptrV qs[j]) (hg' : ∀ y, y ∈ g' ↔ y ∈ g ∨ y = x) :
    Lk w0 (w1.setCell ⟨G, plN x.r x.a, none⟩ (ptrV q)) hi2 G mv (fun i => if i = plN x.r x.a then ptrV q else h i) g' := by
  have hb := plN_bd hx.2.1 hx.2.2.2
  have hnil : h (plN x.r x.a) = .pointer none := l.non x.r x.a hx.1 hx.2.1 hx.2.2.1 hx.2.2.2 hno
  have hsafe : ∀ k p, h k = ptrV p → k ≠ plN x.r x.a := fun k p e e2 => by rw [e2, hnil] at e; cases e
  have hgs := grownBy_set w1 G (plN x.r x.a) (ptrV q)
  have hgG : q ≠ G := by have := l.lt; omega
  refine ⟨l.lo, Nat.lt_of_lt_of_le l.lt hh, by rw [World.size_setCell]; exact hz, ?_, ?_, fun y hy => ?_, fun r a h1 h2 h3 h4 hn => ?_⟩
  · have := (l.str.kept hg (by simp)).set (plN x.r x.a) (ptrV q)
    rwa [arrP_set] at this
  · rw [if_neg (by omega)]; exact l.mem
  · rcases (hg' y).1 hy with hy | rfl
    · obtain ⟨p, e, n⟩ := l.has y hy
      have n1 := (n.kept hg fun m e => by cases e).kept hgs fun m e => by cases e; exact .inr rfl
      refine ⟨p, by rw [if_neg (hsafe _ _ e)]; exact e, n1.lo, Nat.lt_of_lt_of_le n1.lt hh, n1.ne, ?_⟩
      obtain ⟨pa', pc', pv', qs', s, i, c, o, ob, l', p'⟩ := n1.ex
      refine ⟨pa', pc', pv', qs', s, i, c, o, fun b hb => ⟨(ob b hb).1, Nat.lt_of_lt_of_le (ob b hb).2 hh⟩, l', fun j hj hj' => ?_⟩
      have := p' j hj hj'
      rw [if_neg (hsafe _ _ this)]; exact this
    · refine ⟨q, by simp, Nat.le_trans l.lo (Nat.le_trans (Nat.le_of_lt l.lt) hq), hq2, hgG, pa, pc, pv, qs, hs.kept hgs (by simpa using hgG), hi', hsr, ho.kept hgs ?_, hob, hl, fun j hj hj' => ?_⟩
      · cases hv : pv.ownBlock with
        | none => exact .inl rfl
        | some b => refine .inr fun e => (hob b hv).1 ?_; cases e; rfl
      · have := hp j hj hj'
        rw [if_neg (hsafe _ _ this)]; exact this
  · skip
    rw [if_neg, l.non r a h1 h2 h3 h4 fun y hy => hn y ((hg' y).2 (.inl hy))]
    intro e
    obtain ⟨e1, e2⟩ := plN_inj h1 h3 h4 hx.1 hx.2.2.1 hx.2.2.2 e
    exact hn x ((hg' x).2 (.inr rfl)) ⟨e1.symm, e2.symm⟩
end Go.Proofs.Ythnbjdijcpcafaa

/- What impl's functions of digests and hash trees answer, each by a walk of its text: the answers are those of plain functions on lists; conditions: a list that is read has fewer than 2^40 elements and fits its capacity, the numbers are ints. -/
namespace Go.Proofs.Ythnbjdijcpcafaa
open Go.RowKit

theorem impl_isDigest (n : Int) (w : World) : Calls Try.prog 52 #[.int .i64 n] w fun e w' => e = .returned (.bool (digB n)) ∧ w = w' := by
  by_cases h : 0 ≤ n
  · have Hf := Lib.hid (show digB n = decide (n < 991) by unfold digB; rw [Bool.eq_iff_iff]; simp only [decide_eq_true_eq]; omega)
    go_enter Try.func52, Try.ntmps52
    go_wp2
    go_ret
    exact ⟨ret_bool Hf.out.symm, rfl⟩
  · have Hf := Lib.hid (show digB n = false by unfold digB; exact decide_eq_false (by omega))
    go_enter Try.func52, Try.ntmps52
    go_wp2
    go_ret
    exact ⟨ret_bool Hf.out.symm, rfl⟩

end Go.Proofs.Ythnbjdijcpcafaa

/- The library's test whether two lists of ints are the same, and its copy of a list of ints, by walks of their texts; conditions: the lists have fewer than 2^40 elements. -/
namespace Go.Proofs.Ythnbjdijcpcafaa
open Go.RowKit

def EqTo (xs ys : List Int) (k : Nat) : Prop := ∀ j (h : j < xs.length) (h' : j < ys.length), j < k → xs[j] = ys[j]
theorem eqTo_step {xs ys : List Int} {k : Nat} (h : EqTo xs ys k) (hk : k < xs.length) (hk' : k < ys.length) (e : xs[k] = ys[k]) : EqTo xs ys (k + 1) := by
  intro j hj hj' hjk
  by_cases ej : j = k
  · subst ej; exact e
  · exact h j hj hj' (by omega)
theorem eqTo_all {xs ys : List Int} {k : Nat} (h : EqTo xs ys k) (hk : xs.length ≤ k) (hl : xs.length = ys.length) : xs = ys :=
  List.ext_getElem hl fun j h1 h2 => h j h1 h2 (by omega)

theorem lib_Equal (a a' : Option Addr) (c c' : Nat) (xs ys : List Int) (w : World) (hbig : xs.length ≤ 1099511627776) (hbig' : ys.length ≤ 1099511627776) (hc : IntsAt w a xs) (hc' : IntsAt w a' ys) :
    Calls Try.prog 65 #[.slice a xs.length c, .slice a' ys.length c'] w fun e w' => e = .returned (.bool (decide (xs = ys))) ∧ Drawn w w' := by
  by_cases hl : xs.length = ys.length
  · rcases hc.len with h0 | ⟨b, off, rfl, hb, hc⟩
    · have Hf := Lib.hid (show decide (xs = ys) = true from decide_eq_true (List.ext_getElem hl fun j h1 h2 => by omega))
      have hl0 : xs.length = 0 := by omega
      rw [← hl, hl0]
      go_enter Try.func65, Try.ntmps65
      go_wp2
      go_loopw [13] (fun i wr => i = .int .i64 0 ∧ Drawn w wr) (fun _ _ => 0)
      case atStart => exact ⟨rfl, Drawn.refl _⟩
      case round =>
        obtain ⟨rfl, hdr⟩ := hrel
        go_wp2
        go_ret
        exact ⟨ret_bool Hf.out.symm, hdr⟩
    · rcases hc'.len with h0 | ⟨b', off', rfl, hb', hc'⟩
      · have Hf := Lib.hid (show decide (xs = ys) = true from decide_eq_true (List.ext_getElem hl fun j h1 h2 => by omega))
        have hl0 : xs.length = 0 := by omega
        rw [← hl, hl0]
        go_enter Try.func65, Try.ntmps65
        go_wp2
        go_loopw [13] (fun i wr => i = .int .i64 0 ∧ Drawn w wr) (fun _ _ => 0)
        case atStart => exact ⟨rfl, Drawn.refl _⟩
        case round =>
          obtain ⟨rfl, hdr⟩ := hrel
          go_wp2
          go_ret
          exact ⟨ret_bool Hf.out.symm, hdr⟩
      have Hl := Lib.hid hl
      rw [← hl]
      clear hl
      have Hc := Lib.hid hc; clear hc
      have Hc' := Lib.hid hc'; clear hc'
      go_enter Try.func65, Try.ntmps65
      go_wp2
      go_loopw [13] (fun i wr => ∃ k : Nat, k ≤ xs.length ∧ i = .int .i64 k ∧ EqTo xs ys k ∧ Drawn w wr) (fun i _ => xs.length - (intOf i).toNat)
      case atStart => exact ⟨0, by omega, rfl, fun j _ _ h => by omega, Drawn.refl _⟩
      case round =>
        obtain ⟨k, hk, rfl, heq, hdr⟩ := hrel
        have Heq := Lib.hid heq; clear heq
        by_cases hlt : k < xs.length
        · have hlt' : k < ys.length := by have := Hl.out; omega
          have c1 := (hdr.cell _).trans (Hc.out k hlt)
          have c2 := (hdr.cell _).trans (Hc'.out k hlt')
          by_cases he : xs[k] = ys[k]
          · have Hs := Lib.hid (eqTo_step Heq.out hlt hlt' he)
            rw [← he] at c2
            clear he
            generalize xs[k] = x at *
            go_wp2_with fail
            go_quiet (fail)
            go_wp2
            go_roundw
            case rel => exact ⟨k + 1, by omega, by go_num, Hs.out, hdr.drewN _⟩
            case measure => simp [intOf]; omega
          · have Hf := Lib.hid (show decide (xs = ys) = false from decide_eq_false fun e => he (by subst e; rfl))
            have hq : (xs[k] != ys[k]) = true := by simpa using he
            clear he
            generalize xs[k] = x at *
            generalize ys[k] = y at *
            go_wp2_with fail
            go_quiet (fail)
            go_wp2
            go_ret
            exact ⟨ret_bool Hf.out.symm, hdr.drewN _⟩
        · have Hf := Lib.hid (show decide (xs = ys) = true from decide_eq_true (eqTo_all Heq.out (by omega) Hl.out))
          go_wp2
          go_ret
          exact ⟨ret_bool Hf.out.symm, hdr⟩
  · have Hf := Lib.hid (show decide (xs = ys) = false from decide_eq_false fun e => hl (by rw [e]))
    have hq : ((xs.length : Int) != (ys.length : Int)) = true := by simp; omega
    clear hc hc'
    go_enter Try.func65, Try.ntmps65
    go_wp2
    go_ret
    exact ⟨ret_bool Hf.out.symm, Drawn.refl _⟩

theorem lib_Clone (hT : IntT Try.prog 23 3) (pa : Option Addr) (pc : Nat) (ps : List Int) (w : World) (hbp : ps.length ≤ 1099511627776) (hs : SrcAt w pa pc ps) (hi : IntsAt w pa ps) :
    Calls Try.prog 66 #[.slice pa ps.length pc] w fun e w' => ∃ v, e = .returned v ∧ Own 3 w' w.heap.size v ps ∧ Below w.heap.size w w' := by
  have hq : ∀ (w : World) (a : Option Addr) (n c n' c' : Nat), (binOp .eql 23 (.slice a n c) (.slice none n' c')).run Try.prog w = .ok (.bool a.isNone) w := fun w a n c n' c' => Lib.run_eql_slice_nil w _ _ a n c n' c' Try.underlying23
  cases pa with
  | none =>
    have hp0 : ps = [] := by
      rcases hi with h | ⟨b, off, e, _⟩
      · exact h
      · cases e
    subst hp0
    clear hs hi
    go_enter Try.func66, Try.ntmps66
    go_wp2
    go_ret
    exact ⟨_, rfl, Own.nil _ _ _, Below.refl _ _⟩
  | some ad =>
    have hb2 : Below w.heap.size w (w.alloc (.cells #[] 3)) := (Below.refl _ _).alloc (Nat.le_refl _) _
    have ho := own_empty 3 w (Nat.le_refl _)
    have hsrc : SrcAt (w.alloc (.cells #[] 3)) (some ad) pc ps := by
      rcases hs with h | ⟨ad', e, hc⟩
      · exact .inl h
      · cases e
        refine .inr ⟨ad, rfl, fun j hj => ?_⟩
        obtain ⟨b, off, e, hb, _⟩ := hi.cell (by omega)
        cases e
        have := hc j hj
        rw [addr_add'] at this ⊢
        exact (hb2.cell (p := ⟨b, off + j, none⟩) hb).trans this
    have hzs : (w.alloc (.cells #[] 3)).heap.size = w.heap.size + 1 := by simp
    have Ho := Lib.hid ho; clear ho
    have Hsrc := Lib.hid hsrc; clear hsrc
    have Hb2 := Lib.hid hb2; clear hb2 hs hi
    go_enter Try.func66, Try.ntmps66
    go_wp2_with (at_builtin; refine wpList_appI hT rfl _ _ rfl w.heap.size (.slice (some ⟨w.heap.size, 0, none⟩) 0 0) [] ps _ _ rfl Ho.out rfl Hsrc.out (by simp; omega) (by rw [hzs]; omega) ?_; intro v5 w5 hown hg5; (rw [List.nil_append] at hown))
    go_ret
    exact ⟨_, rfl, hown, Hb2.out.grown hg5 (by omega) (fun g e => by cases e; exact Nat.le_refl _)⟩

end Go.Proofs.Ythnbjdijcpcafaa

/- impl's small functions of vertices, each by a walk of its text; conditions: lists are shorter than 2^40, and where the text asks it, the committee is valid. -/
namespace Go.Proofs.Ythnbjdijcpcafaa
open Go.RowKit

theorem impl_isRound (n : Int) (w : World) : Calls Try.prog 51 #[.int .i64 n] w fun e w' => e = .returned (.bool (rngB n)) ∧ w = w' := by
  by_cases h : 0 ≤ n
  · have Hf := Lib.hid (show rngB n = decide (n ≤ 30) by unfold rngB; rw [Bool.eq_iff_iff]; simp only [decide_eq_true_eq]; omega)
    go_enter Try.func51, Try.ntmps51
    go_wp2
    go_ret
    exact ⟨ret_bool Hf.out.symm, rfl⟩
  · have Hf := Lib.hid (show rngB n = false by unfold rngB; exact decide_eq_false (by omega))
    go_enter Try.func51, Try.ntmps51
    go_wp2
    go_ret
    exact ⟨ret_bool Hf.out.symm, rfl⟩

def qmB (c ps : List Int) : Bool := membersB c.length ps && decide (quorumZ c ≤ weightZ c ps)
theorem committee_isQuorum (ac : Option Addr) (capc : Nat) (c : List Int) (pa : Option Addr) (pc : Nat) (ps : List Int) (w : World) (hv : validB c = true) (hbig : ps.length ≤ 1099511627776) (hc : IntsAt w ac c) (hp : IntsAt w pa ps) :
    Calls Try.prog 53 #[.slice ac c.length capc, .slice pa ps.length pc] w fun e w' => e = .returned (.bool (qmB c ps)) ∧ w = w' := by
  obtain ⟨hn1, hn7⟩ := validB_len hv
  have H1 := Lib.hid (committee_hasMembers ac capc c.length pa pc ps w (by omega) hbig hp)
  have H2 := Lib.hid (fun (hm : membersB c.length ps = true) => committee_weight ac capc c pa pc ps w hv hm hbig hc hp)
  have H3 := Lib.hid (committee_quorum ac capc c w hv hc)
  clear hc hp
  have Hq := Lib.hid (show qmB c ps = (membersB c.length ps && decide (quorumZ c ≤ weightZ c ps)) from rfl)
  go_enter Try.func53, Try.ntmps53
  go_wp2_with fail
  refine H1.out.mono ?_
  rintro e w1 ⟨rfl, rfl⟩
  cases hm : membersB c.length ps with
  | false =>
    go_wp2
    go_ret
    exact ⟨ret_bool (by rw [Hq.out, hm]; rfl), rfl⟩
  | true =>
    have H2 := Lib.hid (H2.out hm)
    go_wp2_with fail
    refine H2.out.mono ?_
    rintro e w1 ⟨rfl, rfl⟩
    go_wp2_with fail
    refine H3.out.mono ?_
    rintro e w1 ⟨rfl, rfl⟩
    go_wp2
    go_ret
    exact ⟨ret_bool (by rw [Hq.out, hm]; rfl), rfl⟩

theorem vertex_isBefore (x y : Vx) (pa pa' : Option Addr) (pc pc' : Nat) (w : World) :
    Calls Try.prog 59 #[.agg #[.int .i64 x.r, .int .i64 x.a, .slice pa x.ps.length pc, .int .i64 x.d], .agg #[.int .i64 y.r, .int .i64 y.a, .slice pa' y.ps.length pc', .int .i64 y.d]] w fun e w' => e = .returned (.bool (befB x y)) ∧ Below w.heap.size w w' := by
  have hb : Below w.heap.size w ((w.alloc (.cells #[.int .i64 x.r, .int .i64 x.a, .slice pa x.ps.length pc, .int .i64 x.d] 25)).alloc (.cells #[.int .i64 y.r, .int .i64 y.a, .slice pa' y.ps.length pc', .int .i64 y.d] 25)) := ((Below.refl _ w).alloc (Nat.le_refl _) _).alloc (by simp) _
  by_cases h1 : x.r < y.r
  · have hz : befB x y = true := decide_eq_true (.inl h1)
    go_enter Try.func59, Try.ntmps59
    go_wp2
    go_ret
    exact ⟨by first | rfl | exact ret_bool (by first | rfl | rw [hz]), hb⟩
  · have h1' : decide (x.r < y.r) = false := decide_eq_false h1
    by_cases h2 : x.r = y.r
    · have hz : befB x y = decide (x.a < y.a) := by unfold befB; rw [Bool.eq_iff_iff, decide_eq_true_iff, decide_eq_true_iff]; omega
      have h2' : (x.r == y.r) = true := by simpa using h2
      clear h1 h2
      go_enter Try.func59, Try.ntmps59
      go_wp2
      go_ret
      exact ⟨by first | rfl | exact ret_bool (by first | rfl | rw [hz]), hb⟩
    · have hz : befB x y = false := decide_eq_false (by omega)
      have h2' : (x.r == y.r) = false := by simpa using h2
      go_enter Try.func59, Try.ntmps59
      go_wp2
      go_ret
      exact ⟨by first | rfl | exact ret_bool (by first | rfl | rw [hz]), hb⟩

theorem vtx_no1 {c : List Int} {x : Vx} (h : rngB x.r = false) : vtxB c x = false := by unfold vtxB; rw [h]; rfl
theorem vtx_no2 {c : List Int} {x : Vx} (h : ¬ (0 ≤ x.a ∧ x.a < (c.length : Int))) : vtxB c x = false := by
  unfold vtxB; rw [show autB c.length x.a = false from decide_eq_false (by omega)]; simp
theorem vtx_no3 {c : List Int} {x : Vx} (h : digB x.d = false) : vtxB c x = false := by unfold vtxB; rw [h]; simp
theorem vtx_0 {c : List Int} {x : Vx} (h1 : rngB x.r = true) (h2 : 0 ≤ x.a ∧ x.a < (c.length : Int)) (h3 : digB x.d = true) (h0 : x.r = 0) : vtxB c x = decide (x.ps.length = 0) := by
  unfold vtxB quoB
  rw [h1, h3, show autB c.length x.a = true from decide_eq_true (by omega), if_pos h0]
  by_cases hp : x.ps.length = 0
  · have : x.ps = [] := List.eq_nil_of_length_eq_zero hp
    rw [this]; rfl
  · rw [decide_eq_false hp]; simp
theorem vtx_1 {c : List Int} {x : Vx} (h1 : rngB x.r = true) (h2 : 0 ≤ x.a ∧ x.a < (c.length : Int)) (h3 : digB x.d = true) (h0 : ¬ x.r = 0) : vtxB c x = qmB c x.ps := by
  unfold vtxB quoB qmB
  rw [h1, h3, show autB c.length x.a = true from decide_eq_true (by omega), if_neg h0]
  simp
set_option maxHeartbeats 1000000 in
theorem vertex_fits (ac : Option Addr) (capc : Nat) (c : List Int) (x : Vx) (pa : Option Addr) (pc : Nat) (w : World) (hv : validB c = true) (hbig : x.ps.length ≤ 1099511627776) (hc : IntsAt w ac c) (hp : IntsAt w pa x.ps) :
    Calls Try.prog 28 #[.agg #[.int .i64 x.r, .int .i64 x.a, .slice pa x.ps.length pc, .int .i64 x.d], .slice ac c.length capc] w fun e w' => e = .returned (.bool (vtxB c x)) ∧ Below w.heap.size w w' := by
  obtain ⟨hn1, hn7⟩ := validB_len hv
  have hb0 : Below w.heap.size w (w.alloc (.cells #[.int .i64 x.r, .int .i64 x.a, .slice pa x.ps.length pc, .int .i64 x.d] 25)) := (Below.refl _ _).alloc (Nat.le_refl _) _
  have s0 := Str.new w 25 #[.int .i64 x.r, .int .i64 x.a, .slice pa x.ps.length pc, .int .i64 x.d]
  have k0 := s0.cell 0 (v := .int .i64 x.r) rfl
  have k1 := s0.cell 1 (v := .int .i64 x.a) rfl
  have k2 := s0.cell 2 (v := .slice pa x.ps.length pc) rfl
  have k3 := s0.cell 3 (v := .int .i64 x.d) rfl
  have H4 := Lib.hid (committee_isQuorum ac capc c pa pc x.ps _ hv hbig (hc.below hb0) (hp.below hb0))
  have Hb0 := Lib.hid hb0
  have N1 := Lib.hid (vtx_no1 (c := c) (x := x))
  have N2 := Lib.hid (vtx_no2 (c := c) (x := x))
  have N3 := Lib.hid (vtx_no3 (c := c) (x := x))
  have Y0 := Lib.hid (vtx_0 (c := c) (x := x))
  have Y1 := Lib.hid (vtx_1 (c := c) (x := x))
  clear hb0 s0 hc hp
  go_enter Try.func28, Try.ntmps28
  go_wp2_with fail
  generalize w.alloc (.cells #[.int .i64 x.r, .int .i64 x.a, .slice pa x.ps.length pc, .int .i64 x.d] 25) = W0 at *
  refine (impl_isRound x.r W0).mono ?_
  rintro e w1 ⟨rfl, rfl⟩
  cases h1 : rngB x.r with
  | false =>
    have hz := N1.out h1
    go_wp2
    go_ret
    exact ⟨ret_bool (by rw [hz]), Hb0.out⟩
  | true =>
  by_cases h2 : 0 ≤ x.a
  case neg =>
    have Hz := Lib.hid (N2.out (by omega))
    have h2' : x.a < 0 := by omega
    go_wp2
    go_ret
    exact ⟨ret_bool (by rw [Hz.out]), Hb0.out⟩
  by_cases h3 : x.a < (c.length : Int)
  case neg =>
    have Hz := Lib.hid (N2.out (by omega))
    have h3' : (c.length : Int) ≤ x.a := by omega
    go_wp2
    go_ret
    exact ⟨ret_bool (by rw [Hz.out]), Hb0.out⟩
  have h3' : ¬ (c.length : Int) ≤ x.a := by omega
  go_wp2_with fail
  refine (impl_isDigest x.d W0).mono ?_
  rintro e w1 ⟨rfl, rfl⟩
  cases h4 : digB x.d with
  | false =>
    have Hz := Lib.hid (N3.out h4)
    go_wp2
    go_ret
    exact ⟨ret_bool (by rw [Hz.out]), Hb0.out⟩
  | true =>
  by_cases h0 : x.r = 0
  · have Hz := Lib.hid (Y0.out h1 ⟨h2, h3⟩ h4 h0)
    have h0' : (x.r == 0) = true := by simpa using h0
    clear h0 N1 N2 N3 Y0 Y1
    go_wp2
    go_ret
    exact ⟨ret_bool (by rw [Hz.out, Bool.eq_iff_iff, beq_iff_eq, decide_eq_true_iff]; omega), Hb0.out⟩
  · have Hz := Lib.hid (Y1.out h1 ⟨h2, h3⟩ h4 h0)
    have h0' : (x.r == 0) = false := by simpa using h0
    clear N1 N2 N3 Y0 Y1
    go_wp2_with fail
    refine H4.out.mono ?_
    rintro e w1 ⟨rfl, rfl⟩
    go_wp2
    go_ret
    exact ⟨ret_bool (by rw [Hz.out]), Hb0.out⟩

theorem same_yes {x y : Vx} (h1 : x.r = y.r) (h2 : x.a = y.a) (h4 : x.d = y.d) : sameB x y = decide (x.ps = y.ps) := by
  by_cases h : x.ps = y.ps
  · rw [decide_eq_true h]; exact decide_eq_true (vx_ext h1 h2 h h4)
  · rw [decide_eq_false h]; exact decide_eq_false fun e => h (by rw [e])
set_option maxHeartbeats 1000000 in
theorem impl_sameVertex (x y : Vx) (pa pa' : Option Addr) (pc pc' : Nat) (w : World) (hx : x.ps.length ≤ 1099511627776) (hy : y.ps.length ≤ 1099511627776) (hp : IntsAt w pa x.ps) (hp' : IntsAt w pa' y.ps) :
    Calls Try.prog 60 #[.agg #[.int .i64 x.r, .int .i64 x.a, .slice pa x.ps.length pc, .int .i64 x.d], .agg #[.int .i64 y.r, .int .i64 y.a, .slice pa' y.ps.length pc', .int .i64 y.d]] w fun e w' => e = .returned (.bool (sameB x y)) ∧ Below w.heap.size w w' := by
  have hb : Below w.heap.size w ((w.alloc (.cells #[.int .i64 x.r, .int .i64 x.a, .slice pa x.ps.length pc, .int .i64 x.d] 25)).alloc (.cells #[.int .i64 y.r, .int .i64 y.a, .slice pa' y.ps.length pc', .int .i64 y.d] 25)) := ((Below.refl _ w).alloc (Nat.le_refl _) _).alloc (by simp) _
  have H4 := Lib.hid (lib_Equal pa pa' pc pc' x.ps y.ps _ hx hy (hp.below hb) (hp'.below hb))
  have Hb := Lib.hid hb; clear hb hp hp'
  by_cases h1 : x.r = y.r
  case neg =>
    have Hz := Lib.hid (sameB_no (x := x) (y := y) (fun e => h1 (by rw [e])))
    have e1 : (x.r == y.r) = false := by simpa using h1
    clear h1
    go_enter Try.func60, Try.ntmps60
    go_wp2
    go_ret
    exact ⟨by first | rfl | exact ret_bool (by rw [Hz.out]), Hb.out⟩
  have e1 : (x.r == y.r) = true := by simpa using h1
  by_cases h2 : x.a = y.a
  case neg =>
    have Hz := Lib.hid (sameB_no (x := x) (y := y) (fun e => h2 (by rw [e])))
    have e2 : (x.a == y.a) = false := by simpa using h2
    clear h1 h2
    go_enter Try.func60, Try.ntmps60
    go_wp2
    go_ret
    exact ⟨by first | rfl | exact ret_bool (by rw [Hz.out]), Hb.out⟩
  have e2 : (x.a == y.a) = true := by simpa using h2
  by_cases h4 : x.d = y.d
  case neg =>
    have Hz := Lib.hid (sameB_no (x := x) (y := y) (fun e => h4 (by rw [e])))
    have e4 : (x.d == y.d) = false := by simpa using h4
    clear h1 h2 h4
    go_enter Try.func60, Try.ntmps60
    go_wp2
    go_ret
    exact ⟨by first | rfl | exact ret_bool (by rw [Hz.out]), Hb.out⟩
  have e4 : (x.d == y.d) = true := by simpa using h4
  have Hz := Lib.hid (same_yes h1 h2 h4)
  clear h1 h2 h4
  go_enter Try.func60, Try.ntmps60
  go_wp2_with fail
  refine H4.out.mono ?_
  rintro e w1 ⟨rfl, hd⟩
  have Hb1 := Lib.hid (below_step Hb.out Hb.out.size (hd.below _))
  clear hd
  go_wp2
  go_ret
  exact ⟨ret_bool (by rw [Hz.out]), Hb1.out⟩

set_option maxHeartbeats 1000000 in
theorem impl_copyOfVertex (r a d : Int) (pa : Option Addr) (pc : Nat) (ps : List Int) (w : World) (hbp : ps.length ≤ 1099511627776) (hs : SrcAt w pa pc ps) (hi : IntsAt w pa ps) :
    Calls Try.prog 61 #[.agg #[.int .i64 r, .int .i64 a, .slice pa ps.length pc, .int .i64 d]] w fun e w' => ∃ v, e = .returned (.agg #[.int .i64 r, .int .i64 a, v, .int .i64 d]) ∧ Own 3 w' w.heap.size v ps ∧ Below w.heap.size w w' := by
  have hbW : Below w.heap.size w ((w.alloc (.cells #[.int .i64 r, .int .i64 a, .slice pa ps.length pc, .int .i64 d] 25)).alloc (.cells #[.int .i64 0, .int .i64 0, .slice none 0 0, .int .i64 0] 25)) := ((Below.refl _ w).alloc (Nat.le_refl _) _).alloc (by simp) _
  have s0 := (Str.new w 25 #[.int .i64 r, .int .i64 a, .slice pa ps.length pc, .int .i64 d]).alloc (.cells #[.int .i64 0, .int .i64 0, .slice none 0 0, .int .i64 0] 25)
  have s1 := Str.new (w.alloc (.cells #[.int .i64 r, .int .i64 a, .slice pa ps.length pc, .int .i64 d] 25)) 25 #[.int .i64 0, .int .i64 0, .slice none 0 0, .int .i64 0]
  have hz1 : (w.alloc (.cells #[.int .i64 r, .int .i64 a, .slice pa ps.length pc, .int .i64 d] 25)).heap.size = w.heap.size + 1 := by simp
  rw [hz1] at s1
  have hzW : ((w.alloc (.cells #[.int .i64 r, .int .i64 a, .slice pa ps.length pc, .int .i64 d] 25)).alloc (.cells #[.int .i64 0, .int .i64 0, .slice none 0 0, .int .i64 0] 25)).heap.size = w.heap.size + 2 := by simp
  have k2 := s0.cell 2 (v := .slice pa ps.length pc) rfl
  have HC := Lib.hid (lib_Clone TIg pa pc ps _ hbp (hs.under hi hbW) (hi.below hbW))
  have Hs0 := Lib.hid s0
  have Hs1 := Lib.hid s1
  have HbW := Lib.hid hbW
  have HzW := Lib.hid hzW
  clear s0 s1 hbW hs hi hz1 hzW
  go_enter Try.func61, Try.ntmps61
  go_wp2_with fail
  generalize (w.alloc (.cells #[.int .i64 r, .int .i64 a, .slice pa ps.length pc, .int .i64 d] 25)).alloc (.cells #[.int .i64 0, .int .i64 0, .slice none 0 0, .int .i64 0] 25) = W at *
  refine HC.out.mono ?_
  rintro e w5 ⟨v, rfl, hown, hb5⟩
  have t0 : Str w5 w.heap.size 25 #[.int .i64 r, .int .i64 a, .slice pa ps.length pc, .int .i64 d] := (hb5.block _ Hs0.out.lt).trans Hs0.out
  have t1 : Str w5 (w.heap.size + 1) 25 #[.int .i64 0, .int .i64 0, .slice none 0 0, .int .i64 0] := (hb5.block _ Hs1.out.lt).trans Hs1.out
  have Hlt := Lib.hid hown.lt
  have Hown := Lib.hid hown
  have Hb5 := Lib.hid (below_step HbW.out HbW.out.size hb5)
  obtain ⟨a5, c5, rfl, _, _⟩ := Hown.out.ints
  clear hown hb5 k2
  have k0 := t0.cell 0 (v := .int .i64 r) rfl
  have k1 := t0.cell 1 (v := .int .i64 a) rfl
  have k2 := t0.cell 2 (v := .slice pa ps.length pc) rfl
  have k3 := t0.cell 3 (v := .int .i64 d) rfl
  have f2 := t0.frozen 2
  have j0 := t1.cell 0 (v := .int .i64 0) rfl
  have j1 := t1.cell 1 (v := .int .i64 0) rfl
  have j2 := t1.cell 2 (v := .slice none 0 0) rfl
  have j3 := t1.cell 3 (v := .int .i64 0) rfl
  have g0 := t1.frozen 0
  have g1 := t1.frozen 1
  have g2 := t1.frozen 2
  have g3 := t1.frozen 3
  have hne : w.heap.size + 1 ≠ w.heap.size := by omega
  have u := ((((t1.other hne 2 (.slice a5 ps.length c5)).set 0 (.int .i64 r)).set 1 (.int .i64 a)).set 2 (.slice a5 ps.length c5)).set 3 (.int .i64 d)
  have e0 := u.cell 0 (v := .int .i64 r) rfl
  have e1 := u.cell 1 (v := .int .i64 a) rfl
  have e2 := u.cell 2 (v := .slice a5 ps.length c5) rfl
  have e3 := u.cell 3 (v := .int .i64 d) rfl
  clear u t0 t1
  go_wp2
  refine bodyPost_ret (v := .agg #[.int .i64 r, .int .i64 a, .slice a5 ps.length c5, .int .i64 d]) (by simp [results, Try.f61, go_sem, e0, e1, e2, e3]) rfl ?_
  have n1 : (Value.slice a5 ps.length c5).ownBlock ≠ some (w.heap.size) := fun e => by have := Hlt.out _ e; have := HzW.out; omega
  have n2 : (Value.slice a5 ps.length c5).ownBlock ≠ some (w.heap.size + 1) := fun e => by have := Hlt.out _ e; have := HzW.out; omega
  exact ⟨_, rfl, ((((((Hown.out.mono (by have := HzW.out; omega)).set_other n1 2 _).set_other n2 0 _).set_other n2 1 _).set_other n2 2 _).set_other n2 3 _), (((((Hb5.out.setCell (p := ⟨w.heap.size, 2, none⟩) (by simp only; omega) _).setCell (p := ⟨w.heap.size + 1, 0, none⟩) (by simp only; omega) _).setCell (p := ⟨w.heap.size + 1, 1, none⟩) (by simp only; omega) _).setCell (p := ⟨w.heap.size + 1, 2, none⟩) (by simp only; omega) _).setCell (p := ⟨w.heap.size + 1, 3, none⟩) (by simp only; omega) _)⟩

end Go.Proofs.Ythnbjdijcpcafaa
