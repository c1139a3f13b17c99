/- Texts that the laws of this folder share, one behind another; no conditions. -/
import Derived.Test.YthnbjdijcpcafaaRows
import Derived.Test.YthnbjdijcpcafaaBu1
import Derived.Test.YthnbjdijcpcafaaBu0
import Derived.Deep.RegionHeld3
import Derived.Deep.QuietTactic
import Derived.BigQuiet
import Derived.WalkSpells

/- The reference's adding of a vertex to a graph: l11Add and GraphAdd, each by a walk of its text; conditions: lists are shorter than 2^40 (a graph: 2^20), and where the text asks it, the committee, the graph and the vertex are valid. -/
namespace Go.Proofs.Ythnbjdijcpcafaa
open Go.RowKit

/-- Where a vertex belongs. -/
def insN (g : List Vx) (x : Vx) : Nat := g.findIdx fun y => !befB y x
def insG (g : List Vx) (x : Vx) : List Vx := (g.take (insN g x) ++ [x]) ++ g.drop (insN g x)
/-- The code of an addition. -/
def addN (g : List Vx) (x : Vx) : Int := if 0 ≤ findZ g x.r x.a then (if sameB (g.getD (findZ g x.r x.a).toNat vx0) x = true then 1 else 2) else if parB g x = true then 0 else 3
def addG (g : List Vx) (x : Vx) : List Vx := if addN g x = 0 then insG g x else g
def befAt (g : List Vx) (x : Vx) (k : Nat) : Bool := befB (g.getD k vx0) x
theorem insN_end {g : List Vx} {x : Vx} {n : Nat} (h : Upto (befAt g x) n) (hn : g.length = n) : insN g x = n := by
  subst hn
  refine List.findIdx_eq_length.2 fun y hy => ?_
  obtain ⟨k, hk, rfl⟩ := List.mem_iff_getElem.1 hy
  have := h k hk
  unfold befAt at this
  rw [getV hk] at this
  simp [this]
theorem insN_at {g : List Vx} {x : Vx} {k : Nat} (hk : k < g.length) (h : Upto (befAt g x) k) (hb : befAt g x k = false) : insN g x = k := by
  refine (List.findIdx_eq hk).2 ⟨?_, fun j hj => ?_⟩
  · unfold befAt at hb; rw [getV hk] at hb; simp [hb]
  · have := h j hj
    unfold befAt at this
    rw [getV (by omega)] at this
    simp [this]
theorem addN_same {g : List Vx} {x : Vx} {k : Nat} (hk : k < g.length) (h : findZ g x.r x.a = k) (hs : sameB g[k] x = true) : addN g x = 1 ∧ addG g x = g := by
  have : addN g x = 1 := by unfold addN; rw [h, if_pos (by omega), Int.toNat_natCast, getV hk, if_pos hs]
  exact ⟨this, by unfold addG; rw [this]; rfl⟩
theorem addN_twice {g : List Vx} {x : Vx} {k : Nat} (hk : k < g.length) (h : findZ g x.r x.a = k) (hs : sameB g[k] x = false) : addN g x = 2 ∧ addG g x = g := by
  have : addN g x = 2 := by unfold addN; rw [h, if_pos (by omega), Int.toNat_natCast, getV hk, if_neg (by simp [hs])]
  exact ⟨this, by unfold addG; rw [this]; rfl⟩
theorem addN_miss {g : List Vx} {x : Vx} (h : findZ g x.r x.a = -1) (hp : parB g x = false) : addN g x = 3 ∧ addG g x = g := by
  have : addN g x = 3 := by unfold addN; rw [h, if_neg (by omega), if_neg (by simp [hp])]
  exact ⟨this, by unfold addG; rw [this]; rfl⟩
theorem addN_done {g : List Vx} {x : Vx} (h : findZ g x.r x.a = -1) (hp : parB g x = true) : addN g x = 0 ∧ addG g x = insG g x := by
  have : addN g x = 0 := by unfold addN; rw [h, if_neg (by omega), if_pos hp]
  exact ⟨this, by unfold addG; rw [this]; rfl⟩

/-- The tail of a graph, and where it lies. -/
theorem Gr.tail {w : World} {g : List Vx} {va : Option Addr} {vc : Nat} {fp : List Nat} (h : Gr w g (.slice va g.length vc) fp) (k : Nat) (hk : k ≤ g.length) :
    ∃ fp2, Gr w (g.drop k) (.slice (if vc = k then va else va.map fun x => x.add (k * 4)) (g.length - k) (vc - k)) fp2 := by
  cases va with
  | none =>
    have hc0 := Rd.nilcap h
    have hg0 : g.length = 0 := by
      rcases Nat.eq_zero_or_pos g.length with h0 | h0
      · exact h0
      · obtain ⟨_, _, e, _⟩ := h.at h0; cases e
    have hk0 : k = 0 := by omega
    have hgn : g = [] := List.eq_nil_of_length_eq_zero hg0
    subst hgn hk0
    exact ⟨[], .nil _ _ (fun _ => by omega)⟩
  | some av =>
    rcases Nat.eq_zero_or_pos g.length with h0 | h0
    · have hgn : g = [] := List.eq_nil_of_length_eq_zero h0
      subst hgn
      have hk0 : k = 0 := by simp at hk; omega
      subst hk0
      exact ⟨[], .nil _ _ (fun e => by split at e <;> cases e)⟩
    · obtain ⟨b, off, e, _⟩ := h.at h0
      cases e
      obtain ⟨o2, hif, fp2, hr2, _⟩ := Rd.tail h (sz := 4) (by intro e he; obtain ⟨e', he', rfl⟩ := List.mem_map.1 he; obtain ⟨y, _, rfl⟩ := List.mem_map.1 he'; rfl) k (by simp; omega)
      refine ⟨fp2, ?_⟩
      have e2 : (if vc = k then some (⟨b, off, none⟩ : Addr) else (some (⟨b, off, none⟩ : Addr)).map fun x => x.add (k * 4)) = some ⟨b, o2, none⟩ := by
        rw [← hif, Option.map_some, addr_add']
      rw [e2]
      unfold Gr rowsD
      rw [List.map_drop, List.map_drop]
      simpa using hr2

set_option maxHeartbeats 2000000 in
theorem spec_l11Add (g : List Vx) (v : Value) (fp : List Nat) (x : Vx) (pa : Option Addr) (pc : Nat) (w : World) (hbig : g.length ≤ 1048576) (hps : ∀ y ∈ g, y.ps.length ≤ 1099511627776) (hbp : x.ps.length ≤ 1099511627776) (hr0 : 0 ≤ x.r) (hr1 : x.r ≤ 1099511627776) (hg : Gr w g v fp) (hs : SrcAt w pa pc x.ps) (hi : IntsAt w pa x.ps) :
    Calls Try.prog 39 #[v, .agg #[.int .i64 x.r, .int .i64 x.a, .slice pa x.ps.length pc, .int .i64 x.d]] w fun e w' => ∃ u, e = .returned (.tuple #[u, .int .i64 (addN g x)]) ∧ OwnR 25 3 4 w' w.heap.size w'.heap.size u ((addG g x).map Vx.fd) ∧ Below w.heap.size w w' := by
  have hb0 : Below w.heap.size w (w.alloc (.cells #[.int .i64 x.r, .int .i64 x.a, .slice pa x.ps.length pc, .int .i64 x.d] 25)) := (Below.refl _ _).alloc (Nat.le_refl _) _
  have s0 := Str.new w 25 #[.int .i64 x.r, .int .i64 x.a, .slice pa x.ps.length pc, .int .i64 x.d]
  have hsz0 : (w.alloc (.cells #[.int .i64 x.r, .int .i64 x.a, .slice pa x.ps.length pc, .int .i64 x.d] 25)).heap.size = w.heap.size + 1 := by simp
  have hsrc : ∀ W, Below (w.alloc (.cells #[.int .i64 x.r, .int .i64 x.a, .slice pa x.ps.length pc, .int .i64 x.d] 25)).heap.size (w.alloc (.cells #[.int .i64 x.r, .int .i64 x.a, .slice pa x.ps.length pc, .int .i64 x.d] 25)) W → SrcAt W pa pc x.ps ∧ IntsAt W pa x.ps := by
    intro W hW
    have hbW := hb0.trans (hW.mono (by omega))
    exact ⟨hs.under hi hbW, hi.below hbW⟩
  have Hg := Lib.hid (hg.under hb0); clear hg
  have Hsrc := Lib.hid hsrc; clear hsrc hs hi
  have Hb0 := Lib.hid hb0; clear hb0
  have Hs0 := Lib.hid s0; clear s0
  have HP := Lib.hid hps; clear hps
  have HF := Lib.hid (fun W (h : Gr W g v fp) => spec_l11Find g v fp x.r x.a W (by omega) h)
  have HC := Lib.hid (fun W (h : Gr W g v fp) => spec_l11Copy g v fp W (by omega) HP.out h)
  have hin : ∀ (n : Nat), (∀ y ∈ g.drop n, y.ps.length ≤ 1099511627776) := fun n y hy => HP.out y (List.mem_of_mem_drop hy)
  have HD := Lib.hid (fun n u fp' W (h : Gr W (g.drop n) u fp') => spec_l11Copy (g.drop n) u fp' W (by rw [List.length_drop]; omega) (hin n) h)
  clear hin
  have HQ := Lib.hid (fun W (h : Gr W g v fp) (h' : IntsAt W pa x.ps) => spec_l11Parents g v fp x.r x.a x.d pa pc x.ps W (by omega) hbp hr0 hr1 h h')
  have HS := Lib.hid (fun (y : Vx) (pa' : Option Addr) (pc' : Nat) W (hy : y.ps.length ≤ 1099511627776) (h : IntsAt W pa' y.ps) (h' : IntsAt W pa x.ps) => spec_l11Same y x pa' pa pc' pc W hy hbp h h')
  have HO := Lib.hid (fun (y : Vx) (pa' : Option Addr) (pc' : Nat) W (hy : y.ps.length ≤ 1099511627776) (h : SrcAt W pa' pc' y.ps) (h' : IntsAt W pa' y.ps) => spec_l11One y.r y.a y.d pa' pc' y.ps W hy h h')
  have HB := Lib.hid (fun (y : Vx) (pa' : Option Addr) (pc' : Nat) W => spec_l11Before y x pa' pa pc' pc W)
  obtain ⟨va, vc, rfl⟩ := Hg.out.slice
  have k0 := Hs0.out.cell 0 (v := .int .i64 x.r) rfl
  have k1 := Hs0.out.cell 1 (v := .int .i64 x.a) rfl
  have k2 := Hs0.out.cell 2 (v := .slice pa x.ps.length pc) rfl
  have k3 := Hs0.out.cell 3 (v := .int .i64 x.d) rfl
  have Hfc := Lib.hid (findZ_cases g x.r x.a)
  have HA1 := Lib.hid (fun k hk => addN_same (g := g) (x := x) (k := k) hk)
  have HA2 := Lib.hid (fun k hk => addN_twice (g := g) (x := x) (k := k) hk)
  have HA3 := Lib.hid (addN_miss (g := g) (x := x))
  have HA4 := Lib.hid (addN_done (g := g) (x := x))
  go_enter Try.func39, Try.ntmps39
  go_wp2_with fail
  generalize w.alloc (.cells #[.int .i64 x.r, .int .i64 x.a, .slice pa x.ps.length pc, .int .i64 x.d] 25) = W0 at *
  refine (HF.out W0 Hg.out).mono ?_
  rintro e w1 ⟨rfl, rfl⟩
  rcases Hfc.out with ⟨hz, hno⟩ | ⟨k, hlt, hz, hsame, hbef⟩
  case inr =>
    clear hsame hbef
    have Hz := Lib.hid hz; clear hz
    rw [Hz.out]
    obtain ⟨b, off, rfl, hb, hat⟩ := Hg.out.at (by omega)
    obtain ⟨c0, c1, ⟨pa', pc', c2, i2, _⟩, c3⟩ := hat k hlt
    have hpy := HP.out _ (List.getElem_mem hlt)
    have HS1 := Lib.hid (fun W => HS.out (g[k]'hlt) pa' pc' W hpy)
    have HA1 := Lib.hid (fun h => HA1.out k hlt Hz.out h)
    have HA2 := Lib.hid (fun h => HA2.out k hlt Hz.out h)
    clear hat hpy HS HO HB HD HQ HA3 HA4
    generalize g[k] = y at *
    have hb0 : Below W0.heap.size W0 W0.drew := (Below.refl _ _).drew
    have Hbs := Lib.hid (fun w' (h : Below W0.heap.size W0 w') => (⟨Nat.lt_of_lt_of_le hb h.size, Nat.lt_of_lt_of_le Hs0.out.lt h.size⟩ : b < w'.heap.size ∧ w.heap.size < w'.heap.size))
    have Hi2 := Lib.hid i2; clear i2
    have hge : decide ((0 : Int) ≤ (k : Int)) = true := decide_eq_true (by omega)
    cases hsb : sameB y x with
    | true =>
      rw [hsb] at HS1
      obtain ⟨hz1, hz2⟩ := HA1.out hsb
      have Hz1 := Lib.hid hz1
      have Hz2 := Lib.hid hz2
      clear HA1 HA2 hz1 hz2
      go_wp2_with fail
      refine wp_region_held_drew (S := fun w' => Below W0.heap.size W0 w' ∧ w'.cell? ⟨b, off + k * 4, none⟩ = some (.int .i64 y.r) ∧ w'.cell? ⟨b, off + k * 4 + 1, none⟩ = some (.int .i64 y.a) ∧ w'.cell? ⟨b, off + k * 4 + 2, none⟩ = some (.slice pa' y.ps.length pc') ∧ w'.cell? ⟨b, off + k * 4 + 3, none⟩ = some (.int .i64 y.d) ∧ w'.cell? ⟨w.heap.size, 0, none⟩ = some (.int .i64 x.r) ∧ w'.cell? ⟨w.heap.size, 1, none⟩ = some (.int .i64 x.a) ∧ w'.cell? ⟨w.heap.size, 2, none⟩ = some (.slice pa x.ps.length pc) ∧ w'.cell? ⟨w.heap.size, 3, none⟩ = some (.int .i64 x.d)) (by kernel_rfl) ⟨hb0, c0, c1, c2, c3, k0, k1, k2, k3⟩ (fun hH => ?_)
      refine takeH 0 (v := ?va0) rfl (by kernel_rfl) (by kernel_rfl) (by kernel_rfl) (fun _ _ _ h => h) hH rfl ?ya0 ?ra0
      case ya0 => intro W hSw; go_simp; try with_reducible rfl
      try simp only [Act.put, List.setIfInBounds_toArray, List.set_cons_zero, List.set_cons_succ]
      refine takeH 1 (v := .bool true) rfl (by kernel_rfl) (by kernel_rfl) (by kernel_rfl) (fun _ _ _ h => h) hH rfl ?ya1 ?ra1
      case ya1 => intro W hSw; go_simp; first | done | simp only [hge] | omega | (simp; omega)
      try simp only [Act.put, List.setIfInBounds_toArray, List.set_cons_zero, List.set_cons_succ]
      refine takeH 2 (v := ?va2) rfl (by kernel_rfl) (by kernel_rfl) (by kernel_rfl) (fun _ _ _ h => h) hH rfl ?ya2 ?ra2
      case ya2 => intro W hSw; go_simp; try with_reducible rfl
      try simp only [Act.put, List.setIfInBounds_toArray, List.set_cons_zero, List.set_cons_succ]
      refine takeH 3 (v := ?va3) rfl (by kernel_rfl) (by kernel_rfl) (by kernel_rfl) (fun _ _ _ h => h) hH rfl ?ya3 ?ra3
      case ya3 => intro W hSw; go_simp; try with_reducible rfl
      try simp only [Act.put, List.setIfInBounds_toArray, List.set_cons_zero, List.set_cons_succ]
      refine takeH 4 (v := ?va4) rfl (by kernel_rfl) (by kernel_rfl) (by kernel_rfl) (fun _ _ _ h => h) hH rfl ?ya4 ?ra4
      case ya4 => intro W hSw; go_simp; try with_reducible rfl
      try simp only [Act.put, List.setIfInBounds_toArray, List.set_cons_zero, List.set_cons_succ]
      refine takeH 5 (v := ?va5) rfl (by kernel_rfl) (by kernel_rfl) (by kernel_rfl) (fun _ _ _ h => h) hH rfl ?ya5 ?ra5
      case ya5 => intro W hSw; go_simp; try with_reducible rfl
      try simp only [Act.put, List.setIfInBounds_toArray, List.set_cons_zero, List.set_cons_succ]
      refine takeH 6 (v := ?va6) rfl (by kernel_rfl) (by kernel_rfl) (by kernel_rfl) (fun _ _ _ h => h) hH rfl ?ya6 ?ra6
      case ya6 => intro W hSw; go_simp; try with_reducible rfl
      try simp only [Act.put, List.setIfInBounds_toArray, List.set_cons_zero, List.set_cons_succ]
      refine takeH 7 (v := ?va7) rfl (by kernel_rfl) (by kernel_rfl) (by kernel_rfl) (fun _ _ _ h => h) hH rfl ?ya7 ?ra7
      case ya7 => intro W hSw; go_simp; try with_reducible rfl
      try simp only [Act.put, List.setIfInBounds_toArray, List.set_cons_zero, List.set_cons_succ]
      refine callH 8 rfl (by kernel_rfl) rfl (fun K hK => ?_)
      go_simp
      go_at_call 63
      refine (HS1.out _ (Hi2.out.below hH.1) (Hsrc.out _ hH.1).2).mono ?_
      rintro e wx ⟨rfl, hbx⟩
      refine hK.out _ _ ⟨hH.1.trans (hbx.mono hH.1.size), (hbx.cell (p := ⟨b, off + k * 4, none⟩) (Hbs.out _ hH.1).1).trans hH.2.1, (hbx.cell (p := ⟨b, off + k * 4 + 1, none⟩) (Hbs.out _ hH.1).1).trans hH.2.2.1, (hbx.cell (p := ⟨b, off + k * 4 + 2, none⟩) (Hbs.out _ hH.1).1).trans hH.2.2.2.1, (hbx.cell (p := ⟨b, off + k * 4 + 3, none⟩) (Hbs.out _ hH.1).1).trans hH.2.2.2.2.1, (hbx.cell (p := ⟨w.heap.size, 0, none⟩) (Hbs.out _ hH.1).2).trans hH.2.2.2.2.2.1, (hbx.cell (p := ⟨w.heap.size, 1, none⟩) (Hbs.out _ hH.1).2).trans hH.2.2.2.2.2.2.1, (hbx.cell (p := ⟨w.heap.size, 2, none⟩) (Hbs.out _ hH.1).2).trans hH.2.2.2.2.2.2.2.1, (hbx.cell (p := ⟨w.heap.size, 3, none⟩) (Hbs.out _ hH.1).2).trans hH.2.2.2.2.2.2.2.2⟩ (fun hH => ?_)
      clear hK K
      try simp only [Act.put, List.setIfInBounds_toArray, List.set_cons_zero, List.set_cons_succ]
      refine takeH 9 (v := ?va9) rfl (by kernel_rfl) (by kernel_rfl) (by kernel_rfl) (fun _ _ _ h => h) hH rfl ?ya9 ?ra9
      case ya9 => intro W hSw; go_simp; try with_reducible rfl
      try simp only [Act.put, List.setIfInBounds_toArray, List.set_cons_zero, List.set_cons_succ]
      refine takeH 10 (v := ?va10) rfl (by kernel_rfl) (by kernel_rfl) (by kernel_rfl) (fun _ _ _ h => h) hH rfl ?ya10 ?ra10
      case ya10 => intro W hSw; go_simp; try with_reducible rfl
      try simp only [Act.put, List.setIfInBounds_toArray, List.set_cons_zero, List.set_cons_succ]
      refine wpAnyH_done (by kernel_rfl) ?_ _
      try simp only [Act.put]
      obtain ⟨hbw, _⟩ := hH
      have Hbw := Lib.hid hbw; clear hbw
      go_wp2_with fail
      refine (HC.out _ (Hg.out.under Hbw.out)).mono ?_
      rintro e w2 ⟨u, rfl, ho, hb2⟩
      have Ho := Lib.hid ho; clear ho
      have Hb2 := Lib.hid (below_step (Hb0.out.trans (Hbw.out.mono (by omega))) (by have := Hbw.out.size; omega) hb2)
      have Hle := Lib.hid (show w.heap.size ≤ _ from Nat.le_trans Hb0.out.size Hbw.out.size)
      clear hb2
      go_wp2
      go_ret2
      exact ⟨_, by rw [Hz1.out]; rfl, by rw [Hz2.out]; exact Ho.out.from Hle.out, Hb2.out⟩
    | false =>
      rw [hsb] at HS1
      obtain ⟨hz1, hz2⟩ := HA2.out hsb
      have Hz1 := Lib.hid hz1
      have Hz2 := Lib.hid hz2
      clear HA1 HA2 hz1 hz2
      go_wp2_with fail
      refine wp_region_held_drew (S := fun w' => Below W0.heap.size W0 w' ∧ w'.cell? ⟨b, off + k * 4, none⟩ = some (.int .i64 y.r) ∧ w'.cell? ⟨b, off + k * 4 + 1, none⟩ = some (.int .i64 y.a) ∧ w'.cell? ⟨b, off + k * 4 + 2, none⟩ = some (.slice pa' y.ps.length pc') ∧ w'.cell? ⟨b, off + k * 4 + 3, none⟩ = some (.int .i64 y.d) ∧ w'.cell? ⟨w.heap.size, 0, none⟩ = some (.int .i64 x.r) ∧ w'.cell? ⟨w.heap.size, 1, none⟩ = some (.int .i64 x.a) ∧ w'.cell? ⟨w.heap.size, 2, none⟩ = some (.slice pa x.ps.length pc) ∧ w'.cell? ⟨w.heap.size, 3, none⟩ = some (.int .i64 x.d)) (by kernel_rfl) ⟨hb0, c0, c1, c2, c3, k0, k1, k2, k3⟩ (fun hH => ?_)
      refine takeH 0 (v := ?vb0) rfl (by kernel_rfl) (by kernel_rfl) (by kernel_rfl) (fun _ _ _ h => h) hH rfl ?yb0 ?rb0
      case yb0 => intro W hSw; go_simp; try with_reducible rfl
      try simp only [Act.put, List.setIfInBounds_toArray, List.set_cons_zero, List.set_cons_succ]
      refine takeH 1 (v := .bool true) rfl (by kernel_rfl) (by kernel_rfl) (by kernel_rfl) (fun _ _ _ h => h) hH rfl ?yb1 ?rb1
      case yb1 => intro W hSw; go_simp; first | done | simp only [hge] | omega | (simp; omega)
      try simp only [Act.put, List.setIfInBounds_toArray, List.set_cons_zero, List.set_cons_succ]
      refine takeH 2 (v := ?vb2) rfl (by kernel_rfl) (by kernel_rfl) (by kernel_rfl) (fun _ _ _ h => h) hH rfl ?yb2 ?rb2
      case yb2 => intro W hSw; go_simp; try with_reducible rfl
      try simp only [Act.put, List.setIfInBounds_toArray, List.set_cons_zero, List.set_cons_succ]
      refine takeH 3 (v := ?vb3) rfl (by kernel_rfl) (by kernel_rfl) (by kernel_rfl) (fun _ _ _ h => h) hH rfl ?yb3 ?rb3
      case yb3 => intro W hSw; go_simp; try with_reducible rfl
      try simp only [Act.put, List.setIfInBounds_toArray, List.set_cons_zero, List.set_cons_succ]
      refine takeH 4 (v := ?vb4) rfl (by kernel_rfl) (by kernel_rfl) (by kernel_rfl) (fun _ _ _ h => h) hH rfl ?yb4 ?rb4
      case yb4 => intro W hSw; go_simp; try with_reducible rfl
      try simp only [Act.put, List.setIfInBounds_toArray, List.set_cons_zero, List.set_cons_succ]
      refine takeH 5 (v := ?vb5) rfl (by kernel_rfl) (by kernel_rfl) (by kernel_rfl) (fun _ _ _ h => h) hH rfl ?yb5 ?rb5
      case yb5 => intro W hSw; go_simp; try with_reducible rfl
      try simp only [Act.put, List.setIfInBounds_toArray, List.set_cons_zero, List.set_cons_succ]
      refine takeH 6 (v := ?vb6) rfl (by kernel_rfl) (by kernel_rfl) (by kernel_rfl) (fun _ _ _ h => h) hH rfl ?yb6 ?rb6
      case yb6 => intro W hSw; go_simp; try with_reducible rfl
      try simp only [Act.put, List.setIfInBounds_toArray, List.set_cons_zero, List.set_cons_succ]
      refine takeH 7 (v := ?vb7) rfl (by kernel_rfl) (by kernel_rfl) (by kernel_rfl) (fun _ _ _ h => h) hH rfl ?yb7 ?rb7
      case yb7 => intro W hSw; go_simp; try with_reducible rfl
      try simp only [Act.put, List.setIfInBounds_toArray, List.set_cons_zero, List.set_cons_succ]
      refine callH 8 rfl (by kernel_rfl) rfl (fun K hK => ?_)
      go_simp
      go_at_call 63
      refine (HS1.out _ (Hi2.out.below hH.1) (Hsrc.out _ hH.1).2).mono ?_
      rintro e wx ⟨rfl, hbx⟩
      refine hK.out _ _ ⟨hH.1.trans (hbx.mono hH.1.size), (hbx.cell (p := ⟨b, off + k * 4, none⟩) (Hbs.out _ hH.1).1).trans hH.2.1, (hbx.cell (p := ⟨b, off + k * 4 + 1, none⟩) (Hbs.out _ hH.1).1).trans hH.2.2.1, (hbx.cell (p := ⟨b, off + k * 4 + 2, none⟩) (Hbs.out _ hH.1).1).trans hH.2.2.2.1, (hbx.cell (p := ⟨b, off + k * 4 + 3, none⟩) (Hbs.out _ hH.1).1).trans hH.2.2.2.2.1, (hbx.cell (p := ⟨w.heap.size, 0, none⟩) (Hbs.out _ hH.1).2).trans hH.2.2.2.2.2.1, (hbx.cell (p := ⟨w.heap.size, 1, none⟩) (Hbs.out _ hH.1).2).trans hH.2.2.2.2.2.2.1, (hbx.cell (p := ⟨w.heap.size, 2, none⟩) (Hbs.out _ hH.1).2).trans hH.2.2.2.2.2.2.2.1, (hbx.cell (p := ⟨w.heap.size, 3, none⟩) (Hbs.out _ hH.1).2).trans hH.2.2.2.2.2.2.2.2⟩ (fun hH => ?_)
      clear hK K
      try simp only [Act.put, List.setIfInBounds_toArray, List.set_cons_zero, List.set_cons_succ]
      refine takeH 9 (v := ?vb9) rfl (by kernel_rfl) (by kernel_rfl) (by kernel_rfl) (fun _ _ _ h => h) hH rfl ?yb9 ?rb9
      case yb9 => intro W hSw; go_simp; try with_reducible rfl
      try simp only [Act.put, List.setIfInBounds_toArray, List.set_cons_zero, List.set_cons_succ]
      refine takeH 10 (v := ?vb10) rfl (by kernel_rfl) (by kernel_rfl) (by kernel_rfl) (fun _ _ _ h => h) hH rfl ?yb10 ?rb10
      case yb10 => intro W hSw; go_simp; try with_reducible rfl
      try simp only [Act.put, List.setIfInBounds_toArray, List.set_cons_zero, List.set_cons_succ]
      refine wpAnyH_done (by kernel_rfl) ?_ _
      try simp only [Act.put]
      obtain ⟨hbw, _⟩ := hH
      have Hbw := Lib.hid hbw; clear hbw
      have hge' : (0 : Int) ≤ (k : Int) := by omega
      go_wp2_with fail
      refine (HC.out _ (Hg.out.under Hbw.out)).mono ?_
      rintro e w2 ⟨u, rfl, ho, hb2⟩
      have Ho := Lib.hid ho; clear ho
      have Hb2 := Lib.hid (below_step (Hb0.out.trans (Hbw.out.mono (by omega))) (by have := Hbw.out.size; omega) hb2)
      have Hle := Lib.hid (show w.heap.size ≤ _ from Nat.le_trans Hb0.out.size Hbw.out.size)
      clear hb2
      go_wp2
      go_ret2
      exact ⟨_, by rw [Hz1.out]; rfl, by rw [Hz2.out]; exact Ho.out.from Hle.out, Hb2.out⟩
  case inl =>
    clear hno HA1 HA2 HS
    have Hz := Lib.hid hz; clear hz
    rw [Hz.out]
    have hge : decide ((0 : Int) ≤ (-1 : Int)) = false := rfl
    have hb0 : Below W0.heap.size W0 W0.drew := (Below.refl _ _).drew
    go_wp2_with fail
    refine wp_region_held_drew (S := fun w' => Below W0.heap.size W0 w' ∧ w'.cell? ⟨w.heap.size, 0, none⟩ = some (.int .i64 x.r) ∧ w'.cell? ⟨w.heap.size, 1, none⟩ = some (.int .i64 x.a) ∧ w'.cell? ⟨w.heap.size, 2, none⟩ = some (.slice pa x.ps.length pc) ∧ w'.cell? ⟨w.heap.size, 3, none⟩ = some (.int .i64 x.d)) (by kernel_rfl) ⟨hb0, k0, k1, k2, k3⟩ (fun hH => ?_)
    refine takeH 0 (v := ?vc0) rfl (by kernel_rfl) (by kernel_rfl) (by kernel_rfl) (fun _ _ _ h => h) hH rfl ?yc0 ?rc0
    case yc0 => intro W hSw; go_simp; try with_reducible rfl
    try simp only [Act.put, List.setIfInBounds_toArray, List.set_cons_zero, List.set_cons_succ]
    refine takeH 1 (v := .bool false) rfl (by kernel_rfl) (by kernel_rfl) (by kernel_rfl) (fun _ _ _ h => h) hH rfl ?yc1 ?rc1
    case yc1 => intro W hSw; go_simp; first | done | simp only [hge] | omega | (simp; omega)
    try simp only [Act.put, List.setIfInBounds_toArray, List.set_cons_zero, List.set_cons_succ]
    refine takeH 2 (v := ?vc2) rfl (by kernel_rfl) (by kernel_rfl) (by kernel_rfl) (fun _ _ _ h => h) hH rfl ?yc2 ?rc2
    case yc2 => intro W hSw; go_simp; try with_reducible rfl
    try simp only [Act.put, List.setIfInBounds_toArray, List.set_cons_zero, List.set_cons_succ]
    refine skipH 3 rfl (by kernel_rfl) (by kernel_rfl) (by kernel_rfl) (fun _ _ _ h => h) hH rfl ?_
    try simp only [Act.put, List.setIfInBounds_toArray, List.set_cons_zero, List.set_cons_succ]
    refine skipH 4 rfl (by kernel_rfl) (by kernel_rfl) (by kernel_rfl) (fun _ _ _ h => h) hH rfl ?_
    try simp only [Act.put, List.setIfInBounds_toArray, List.set_cons_zero, List.set_cons_succ]
    refine skipH 5 rfl (by kernel_rfl) (by kernel_rfl) (by kernel_rfl) (fun _ _ _ h => h) hH rfl ?_
    try simp only [Act.put, List.setIfInBounds_toArray, List.set_cons_zero, List.set_cons_succ]
    refine skipH 6 rfl (by kernel_rfl) (by kernel_rfl) (by kernel_rfl) (fun _ _ _ h => h) hH rfl ?_
    try simp only [Act.put, List.setIfInBounds_toArray, List.set_cons_zero, List.set_cons_succ]
    refine skipH 7 rfl (by kernel_rfl) (by kernel_rfl) (by kernel_rfl) (fun _ _ _ h => h) hH rfl ?_
    try simp only [Act.put, List.setIfInBounds_toArray, List.set_cons_zero, List.set_cons_succ]
    refine skipH 8 rfl (by kernel_rfl) (by kernel_rfl) (by kernel_rfl) (fun _ _ _ h => h) hH rfl ?_
    try simp only [Act.put, List.setIfInBounds_toArray, List.set_cons_zero, List.set_cons_succ]
    refine takeH 9 (v := ?vc9) rfl (by kernel_rfl) (by kernel_rfl) (by kernel_rfl) (fun _ _ _ h => h) hH rfl ?yc9 ?rc9
    case yc9 => intro W hSw; go_simp; try with_reducible rfl
    try simp only [Act.put, List.setIfInBounds_toArray, List.set_cons_zero, List.set_cons_succ]
    refine takeH 10 (v := ?vc10) rfl (by kernel_rfl) (by kernel_rfl) (by kernel_rfl) (fun _ _ _ h => h) hH rfl ?yc10 ?rc10
    case yc10 => intro W hSw; go_simp; try with_reducible rfl
    try simp only [Act.put, List.setIfInBounds_toArray, List.set_cons_zero, List.set_cons_succ]
    refine wpAnyH_done (by kernel_rfl) ?_ _
    try simp only [Act.put]
    obtain ⟨hbw, k0, k1, k2, k3⟩ := hH
    generalize W0.drew = W1 at *
    have Hbw := Lib.hid hbw; clear hbw
    go_wp2_with fail
    refine (HQ.out W1 (Hg.out.under Hbw.out) (Hsrc.out W1 Hbw.out).2).mono ?_
    rintro e w2 ⟨rfl, hb2⟩
    have Hb2 := Lib.hid (below_step Hbw.out Hbw.out.size hb2)
    have j0 := (hb2.cell (p := ⟨w.heap.size, 0, none⟩) (by have := Hbw.out.size; simp only; omega)).trans k0
    have j1 := (hb2.cell (p := ⟨w.heap.size, 1, none⟩) (by have := Hbw.out.size; simp only; omega)).trans k1
    have j2 := (hb2.cell (p := ⟨w.heap.size, 2, none⟩) (by have := Hbw.out.size; simp only; omega)).trans k2
    have j3 := (hb2.cell (p := ⟨w.heap.size, 3, none⟩) (by have := Hbw.out.size; simp only; omega)).trans k3
    clear hb2 k0 k1 k2 k3 hb0 hge
    have hle2 : w.heap.size ≤ w2.heap.size := by have := Hb2.out.size; omega
    have Hle2 := Lib.hid hle2
    cases hq : parB g ⟨x.r, x.a, x.ps, x.d⟩ with
    | false =>
      obtain ⟨hz1, hz2⟩ := HA3.out Hz.out hq
      have Hz1 := Lib.hid hz1
      have Hz2 := Lib.hid hz2
      clear HA3 HA4 hz1 hz2 HO HD HB
      go_wp2_with fail
      refine (HC.out w2 (Hg.out.under Hb2.out)).mono ?_
      rintro e w3 ⟨u, rfl, ho, hb3⟩
      have Ho := Lib.hid ho; clear ho
      have Hb3 := Lib.hid (below_step (Hb0.out.trans (Hb2.out.mono (by omega))) hle2 hb3)
      clear hb3
      go_wp2
      go_ret2
      exact ⟨_, by rw [Hz1.out]; rfl, by rw [Hz2.out]; exact Ho.out.from Hle2.out, Hb3.out⟩
    | true =>
      obtain ⟨hz1, hz2⟩ := HA4.out Hz.out hq
      have Hz1 := Lib.hid hz1
      have Hz2 := Lib.hid hz2
      clear HA3 HA4 hz1 hz2 HC HQ
      have hbE : Below w2.heap.size w2 (w2.alloc (.cells #[] 25)) := (Below.refl _ _).alloc (Nat.le_refl _) _
      have hv0 : OwnR 25 3 4 (w2.alloc (.cells #[] 25)) w2.heap.size (w2.alloc (.cells #[] 25)).heap.size (.slice (some ⟨w2.heap.size, 0, none⟩) 0 0) [] := .nil (World.ownsRow_made w2 #[] 0 (Nat.le_refl _) (by simp) (by simp)) (fun g e => by cases e; simp)
      have Hv0 := Lib.hid hv0; clear hv0
      have HbE := Lib.hid hbE; clear hbE
      have hX : ∀ W, Below w2.heap.size w2 W → Str W w.heap.size 25 #[.int .i64 x.r, .int .i64 x.a, .slice pa x.ps.length pc, .int .i64 x.d] := fun W hW => ((Hb2.out.trans (hW.mono Hb2.out.size)).block _ (by omega)).trans Hs0.out
      have HX := Lib.hid hX; clear hX
      have Hins := Lib.hid (fun k (hk : k < g.length) => insN_at (g := g) (x := x) (k := k) hk)
      have Hend := Lib.hid (fun n => insN_end (g := g) (x := x) (n := n))
      clear j0 j1 j2 j3
      go_wp2
      go_loopw [7, 8] (fun u i wr => ∃ k : Nat, k ≤ g.length ∧ i = .int .i64 k ∧ Upto (befAt g x) k ∧ OwnR 25 3 4 wr w2.heap.size wr.heap.size u ((g.take k).map Vx.fd) ∧ Below w2.heap.size w2 wr) (fun _ i _ => g.length - (intOf i).toNat)
      case atStart => exact ⟨0, Nat.zero_le _, rfl, upto_zero _, by simpa using Hv0.out, HbE.out⟩
      case round =>
        obtain ⟨k, hk, rfl, hup, hbld, hbel⟩ := hrel
        have Hbld := Lib.hid hbld; clear hbld
        have Hbel := Lib.hid hbel; clear hbel
        have Hup := Lib.hid hup; clear hup
        have sx := HX.out wr Hbel.out
        have k0 := sx.cell 0 (v := .int .i64 x.r) rfl
        have k1 := sx.cell 1 (v := .int .i64 x.a) rfl
        have k2 := sx.cell 2 (v := .slice pa x.ps.length pc) rfl
        have k3 := sx.cell 3 (v := .int .i64 x.d) rfl
        have hwx := sx.lt
        clear sx
        by_cases hlt : k < g.length
        · obtain ⟨b, off, rfl, hb, hat⟩ := (Hg.out.under (Hb2.out.trans (Hbel.out.mono Hb2.out.size))).at (by omega)
          obtain ⟨c0, c1, ⟨pa', pc', c2, i2, s2⟩, c3⟩ := hat k hlt
          have Hi2 := Lib.hid i2
          have Hs2 := Lib.hid s2
          clear i2 s2
          have hpy := HP.out _ (List.getElem_mem hlt)
          have hba : befAt g x k = befB g[k] x := by unfold befAt; rw [getV hlt]
          have HBk := Lib.hid (HB.out (g[k]'hlt) pa' pc')
          have Hex := Lib.hid (show (g.take (k + 1)).map Vx.fd = (g.take k).map Vx.fd ++ [[.i g[k].r, .i g[k].a, .l g[k].ps, .i g[k].d]] by rw [List.take_succ_eq_append_getElem hlt, List.map_append]; rfl)
          have hb0 : Below wr.heap.size wr wr.drew := (Below.refl _ _).drew
          have Hbs := Lib.hid (fun w' (h : Below wr.heap.size wr w') => (⟨Nat.lt_of_lt_of_le hb h.size, Nat.lt_of_lt_of_le hwx h.size⟩ : b < w'.heap.size ∧ w.heap.size < w'.heap.size))
          clear hat hb hwx
          have hll : decide ((k : Int) < (g.length : Int)) = true := decide_eq_true (by omega)
          have Hba := Lib.hid hba; clear hba
          generalize hy : g[k] = y at *
          have Hy := Lib.hid hy; clear hy
          cases hbf : befB y x with
          | true =>
            rw [hbf] at HBk
            have Hup1 := Lib.hid (upto_step Hup.out (by rw [Hba.out, hbf]))
            clear Hins Hend HD
            go_wp2_with fail
            refine wp_region_held_drew (S := fun w' => Below wr.heap.size wr w' ∧ w'.cell? ⟨b, off + k * 4, none⟩ = some (.int .i64 y.r) ∧ w'.cell? ⟨b, off + k * 4 + 1, none⟩ = some (.int .i64 y.a) ∧ w'.cell? ⟨b, off + k * 4 + 2, none⟩ = some (.slice pa' y.ps.length pc') ∧ w'.cell? ⟨b, off + k * 4 + 3, none⟩ = some (.int .i64 y.d) ∧ w'.cell? ⟨w.heap.size, 0, none⟩ = some (.int .i64 x.r) ∧ w'.cell? ⟨w.heap.size, 1, none⟩ = some (.int .i64 x.a) ∧ w'.cell? ⟨w.heap.size, 2, none⟩ = some (.slice pa x.ps.length pc) ∧ w'.cell? ⟨w.heap.size, 3, none⟩ = some (.int .i64 x.d)) (by kernel_rfl) ⟨hb0, c0, c1, c2, c3, k0, k1, k2, k3⟩ (fun hH => ?_)
            refine takeH 0 (v := ?vd0) rfl (by kernel_rfl) (by kernel_rfl) (by kernel_rfl) (fun _ _ _ h => h) hH rfl ?yd0 ?rd0
            case yd0 => intro W hSw; go_simp; try with_reducible rfl
            try simp only [Act.put, List.setIfInBounds_toArray, List.set_cons_zero, List.set_cons_succ]
            refine takeH 1 (v := ?vd1) rfl (by kernel_rfl) (by kernel_rfl) (by kernel_rfl) (fun _ _ _ h => h) hH rfl ?yd1 ?rd1
            case yd1 => intro W hSw; go_simp; try with_reducible rfl
            try simp only [Act.put, List.setIfInBounds_toArray, List.set_cons_zero, List.set_cons_succ]
            refine takeH 2 (v := ?vd2) rfl (by kernel_rfl) (by kernel_rfl) (by kernel_rfl) (fun _ _ _ h => h) hH rfl ?yd2 ?rd2
            case yd2 => intro W hSw; go_simp; try with_reducible rfl
            try simp only [Act.put, List.setIfInBounds_toArray, List.set_cons_zero, List.set_cons_succ]
            refine takeH 3 (v := .bool true) rfl (by kernel_rfl) (by kernel_rfl) (by kernel_rfl) (fun _ _ _ h => h) hH rfl ?yd3 ?rd3
            case yd3 => intro W hSw; go_simp; first | done | simp only [hll] | omega | (simp; omega)
            try simp only [Act.put, List.setIfInBounds_toArray, List.set_cons_zero, List.set_cons_succ]
            refine takeH 4 (v := ?vd4) rfl (by kernel_rfl) (by kernel_rfl) (by kernel_rfl) (fun _ _ _ h => h) hH rfl ?yd4 ?rd4
            case yd4 => intro W hSw; go_simp; try with_reducible rfl
            try simp only [Act.put, List.setIfInBounds_toArray, List.set_cons_zero, List.set_cons_succ]
            refine takeH 5 (v := ?vd5) rfl (by kernel_rfl) (by kernel_rfl) (by kernel_rfl) (fun _ _ _ h => h) hH rfl ?yd5 ?rd5
            case yd5 => intro W hSw; go_simp; try with_reducible rfl
            try simp only [Act.put, List.setIfInBounds_toArray, List.set_cons_zero, List.set_cons_succ]
            refine takeH 6 (v := ?vd6) rfl (by kernel_rfl) (by kernel_rfl) (by kernel_rfl) (fun _ _ _ h => h) hH rfl ?yd6 ?rd6
            case yd6 => intro W hSw; go_simp; try with_reducible rfl
            try simp only [Act.put, List.setIfInBounds_toArray, List.set_cons_zero, List.set_cons_succ]
            refine takeH 7 (v := ?vd7) rfl (by kernel_rfl) (by kernel_rfl) (by kernel_rfl) (fun _ _ _ h => h) hH rfl ?yd7 ?rd7
            case yd7 => intro W hSw; go_simp; try with_reducible rfl
            try simp only [Act.put, List.setIfInBounds_toArray, List.set_cons_zero, List.set_cons_succ]
            refine takeH 8 (v := ?vd8) rfl (by kernel_rfl) (by kernel_rfl) (by kernel_rfl) (fun _ _ _ h => h) hH rfl ?yd8 ?rd8
            case yd8 => intro W hSw; go_simp; try with_reducible rfl
            try simp only [Act.put, List.setIfInBounds_toArray, List.set_cons_zero, List.set_cons_succ]
            refine takeH 9 (v := ?vd9) rfl (by kernel_rfl) (by kernel_rfl) (by kernel_rfl) (fun _ _ _ h => h) hH rfl ?yd9 ?rd9
            case yd9 => intro W hSw; go_simp; try with_reducible rfl
            try simp only [Act.put, List.setIfInBounds_toArray, List.set_cons_zero, List.set_cons_succ]
            refine callH 10 rfl (by kernel_rfl) rfl (fun K hK => ?_)
            go_simp
            go_at_call 40
            refine (HBk.out _).mono ?_
            rintro e wz ⟨rfl, hbx⟩
            refine hK.out _ _ ⟨hH.1.trans (hbx.mono hH.1.size), (hbx.cell (p := ⟨b, off + k * 4, none⟩) (Hbs.out _ hH.1).1).trans hH.2.1, (hbx.cell (p := ⟨b, off + k * 4 + 1, none⟩) (Hbs.out _ hH.1).1).trans hH.2.2.1, (hbx.cell (p := ⟨b, off + k * 4 + 2, none⟩) (Hbs.out _ hH.1).1).trans hH.2.2.2.1, (hbx.cell (p := ⟨b, off + k * 4 + 3, none⟩) (Hbs.out _ hH.1).1).trans hH.2.2.2.2.1, (hbx.cell (p := ⟨w.heap.size, 0, none⟩) (Hbs.out _ hH.1).2).trans hH.2.2.2.2.2.1, (hbx.cell (p := ⟨w.heap.size, 1, none⟩) (Hbs.out _ hH.1).2).trans hH.2.2.2.2.2.2.1, (hbx.cell (p := ⟨w.heap.size, 2, none⟩) (Hbs.out _ hH.1).2).trans hH.2.2.2.2.2.2.2.1, (hbx.cell (p := ⟨w.heap.size, 3, none⟩) (Hbs.out _ hH.1).2).trans hH.2.2.2.2.2.2.2.2⟩ (fun hH => ?_)
            clear hK K
            try simp only [Act.put, List.setIfInBounds_toArray, List.set_cons_zero, List.set_cons_succ]
            refine takeH 11 (v := ?vd11) rfl (by kernel_rfl) (by kernel_rfl) (by kernel_rfl) (fun _ _ _ h => h) hH rfl ?yd11 ?rd11
            case yd11 => intro W hSw; go_simp; try with_reducible rfl
            try simp only [Act.put, List.setIfInBounds_toArray, List.set_cons_zero, List.set_cons_succ]
            refine wpAnyH_done (by kernel_rfl) ?_ _
            try simp only [Act.put]
            obtain ⟨hbw, c0, c1, c2, c3, _⟩ := hH
            have Hbw := Lib.hid hbw
            have Hone := Lib.hid (HO.out y pa' pc' _ hpy (Hs2.out.under Hi2.out hbw) (Hi2.out.below hbw))
            have hbz := below_step Hbel.out Hbel.out.size hbw
            have hel : ((g.take k).map Vx.fd).length ≤ 1048576 := by simp; omega
            have Hbld := Lib.hid (Hbld.out.below hbw (Nat.le_refl _))
            have hsw := hbw.size
            clear hbw
            generalize (g.take k).map Vx.fd = es at *
            go_wp2_with fail
            refine Hone.out.mono ?_
            rintro e w6 ⟨v2, rfl, hown2, hb6⟩
            obtain ⟨a2, c2', rfl, _, _⟩ := hown2.ints
            have hs6 := hb6.size
            have Hbld6 := Lib.hid (Hbld.out.below hb6 hsw)
            have hbz2 := hbz.size
            obtain ⟨hfd, hap, hnew⟩ := vertex_new (B := w2.heap.size) y.r y.a y.d hown2 hbz2
            have Hfd := Lib.hid hfd; clear hfd
            have Hap := Lib.hid hap; clear hap
            have Hnew := Lib.hid (fun c hc g e => Nat.le_trans hsw (hnew c hc g e)); clear hnew hown2 c0 c1 c2 c3
            have hbz6 := below_step hbz hbz2 hb6
            have hB6 := hbz6.size
            have Hbz6 := Lib.hid hbz6; clear hbz6 hbz hb6
            go_wp2_with (at_builtin; refine wpList_push_own (Ei := 3) Try.underlying32 vertex_inf rfl (by decide) (by decide) rfl (.tmp 56) (.tmp 62) rfl w2.heap.size _ es _ _ _ rfl rfl (by intro u hu; simp at hu; rcases hu with rfl | rfl | rfl | rfl <;> rfl) rfl rfl Hfd.out Hap.out wr.heap.size Hbld6.out (by omega) Hnew.out hel rfl hB6 ?_; intro v8 w8 hbld8 hg8 hat8)
            go_roundw
            case rel => exact ⟨k + 1, by omega, by go_num, Hup1.out, by rw [Hex.out]; exact hbld8, Hbz6.out.grown hg8 hB6 (fun g e => (Hbld6.out.lt g e).1)⟩
            case measure => simp [intOf]; omega
          | false =>
            rw [hbf] at HBk
            have hnk := Hins.out k hlt Hup.out (by rw [Hba.out, hbf])
            clear Hins Hend
            go_wp2_with fail
            refine wp_region_held_drew (S := fun w' => Below wr.heap.size wr w' ∧ w'.cell? ⟨b, off + k * 4, none⟩ = some (.int .i64 y.r) ∧ w'.cell? ⟨b, off + k * 4 + 1, none⟩ = some (.int .i64 y.a) ∧ w'.cell? ⟨b, off + k * 4 + 2, none⟩ = some (.slice pa' y.ps.length pc') ∧ w'.cell? ⟨b, off + k * 4 + 3, none⟩ = some (.int .i64 y.d) ∧ w'.cell? ⟨w.heap.size, 0, none⟩ = some (.int .i64 x.r) ∧ w'.cell? ⟨w.heap.size, 1, none⟩ = some (.int .i64 x.a) ∧ w'.cell? ⟨w.heap.size, 2, none⟩ = some (.slice pa x.ps.length pc) ∧ w'.cell? ⟨w.heap.size, 3, none⟩ = some (.int .i64 x.d)) (by kernel_rfl) ⟨hb0, c0, c1, c2, c3, k0, k1, k2, k3⟩ (fun hH => ?_)
            refine takeH 0 (v := ?ve0) rfl (by kernel_rfl) (by kernel_rfl) (by kernel_rfl) (fun _ _ _ h => h) hH rfl ?ye0 ?re0
            case ye0 => intro W hSw; go_simp; try with_reducible rfl
            try simp only [Act.put, List.setIfInBounds_toArray, List.set_cons_zero, List.set_cons_succ]
            refine takeH 1 (v := ?ve1) rfl (by kernel_rfl) (by kernel_rfl) (by kernel_rfl) (fun _ _ _ h => h) hH rfl ?ye1 ?re1
            case ye1 => intro W hSw; go_simp; try with_reducible rfl
            try simp only [Act.put, List.setIfInBounds_toArray, List.set_cons_zero, List.set_cons_succ]
            refine takeH 2 (v := ?ve2) rfl (by kernel_rfl) (by kernel_rfl) (by kernel_rfl) (fun _ _ _ h => h) hH rfl ?ye2 ?re2
            case ye2 => intro W hSw; go_simp; try with_reducible rfl
            try simp only [Act.put, List.setIfInBounds_toArray, List.set_cons_zero, List.set_cons_succ]
            refine takeH 3 (v := .bool true) rfl (by kernel_rfl) (by kernel_rfl) (by kernel_rfl) (fun _ _ _ h => h) hH rfl ?ye3 ?re3
            case ye3 => intro W hSw; go_simp; first | done | simp only [hll] | omega | (simp; omega)
            try simp only [Act.put, List.setIfInBounds_toArray, List.set_cons_zero, List.set_cons_succ]
            refine takeH 4 (v := ?ve4) rfl (by kernel_rfl) (by kernel_rfl) (by kernel_rfl) (fun _ _ _ h => h) hH rfl ?ye4 ?re4
            case ye4 => intro W hSw; go_simp; try with_reducible rfl
            try simp only [Act.put, List.setIfInBounds_toArray, List.set_cons_zero, List.set_cons_succ]
            refine takeH 5 (v := ?ve5) rfl (by kernel_rfl) (by kernel_rfl) (by kernel_rfl) (fun _ _ _ h => h) hH rfl ?ye5 ?re5
            case ye5 => intro W hSw; go_simp; try with_reducible rfl
            try simp only [Act.put, List.setIfInBounds_toArray, List.set_cons_zero, List.set_cons_succ]
            refine takeH 6 (v := ?ve6) rfl (by kernel_rfl) (by kernel_rfl) (by kernel_rfl) (fun _ _ _ h => h) hH rfl ?ye6 ?re6
            case ye6 => intro W hSw; go_simp; try with_reducible rfl
            try simp only [Act.put, List.setIfInBounds_toArray, List.set_cons_zero, List.set_cons_succ]
            refine takeH 7 (v := ?ve7) rfl (by kernel_rfl) (by kernel_rfl) (by kernel_rfl) (fun _ _ _ h => h) hH rfl ?ye7 ?re7
            case ye7 => intro W hSw; go_simp; try with_reducible rfl
            try simp only [Act.put, List.setIfInBounds_toArray, List.set_cons_zero, List.set_cons_succ]
            refine takeH 8 (v := ?ve8) rfl (by kernel_rfl) (by kernel_rfl) (by kernel_rfl) (fun _ _ _ h => h) hH rfl ?ye8 ?re8
            case ye8 => intro W hSw; go_simp; try with_reducible rfl
            try simp only [Act.put, List.setIfInBounds_toArray, List.set_cons_zero, List.set_cons_succ]
            refine takeH 9 (v := ?ve9) rfl (by kernel_rfl) (by kernel_rfl) (by kernel_rfl) (fun _ _ _ h => h) hH rfl ?ye9 ?re9
            case ye9 => intro W hSw; go_simp; try with_reducible rfl
            try simp only [Act.put, List.setIfInBounds_toArray, List.set_cons_zero, List.set_cons_succ]
            refine callH 10 rfl (by kernel_rfl) rfl (fun K hK => ?_)
            go_simp
            go_at_call 40
            refine (HBk.out _).mono ?_
            rintro e wz ⟨rfl, hbx⟩
            refine hK.out _ _ ⟨hH.1.trans (hbx.mono hH.1.size), (hbx.cell (p := ⟨b, off + k * 4, none⟩) (Hbs.out _ hH.1).1).trans hH.2.1, (hbx.cell (p := ⟨b, off + k * 4 + 1, none⟩) (Hbs.out _ hH.1).1).trans hH.2.2.1, (hbx.cell (p := ⟨b, off + k * 4 + 2, none⟩) (Hbs.out _ hH.1).1).trans hH.2.2.2.1, (hbx.cell (p := ⟨b, off + k * 4 + 3, none⟩) (Hbs.out _ hH.1).1).trans hH.2.2.2.2.1, (hbx.cell (p := ⟨w.heap.size, 0, none⟩) (Hbs.out _ hH.1).2).trans hH.2.2.2.2.2.1, (hbx.cell (p := ⟨w.heap.size, 1, none⟩) (Hbs.out _ hH.1).2).trans hH.2.2.2.2.2.2.1, (hbx.cell (p := ⟨w.heap.size, 2, none⟩) (Hbs.out _ hH.1).2).trans hH.2.2.2.2.2.2.2.1, (hbx.cell (p := ⟨w.heap.size, 3, none⟩) (Hbs.out _ hH.1).2).trans hH.2.2.2.2.2.2.2.2⟩ (fun hH => ?_)
            clear hK K
            try simp only [Act.put, List.setIfInBounds_toArray, List.set_cons_zero, List.set_cons_succ]
            refine takeH 11 (v := ?ve11) rfl (by kernel_rfl) (by kernel_rfl) (by kernel_rfl) (fun _ _ _ h => h) hH rfl ?ye11 ?re11
            case ye11 => intro W hSw; go_simp; try with_reducible rfl
            try simp only [Act.put, List.setIfInBounds_toArray, List.set_cons_zero, List.set_cons_succ]
            refine wpAnyH_done (by kernel_rfl) ?_ _
            try simp only [Act.put]
            have hbw := hH.1
            clear hH
            have Hbz := Lib.hid (below_step Hbel.out Hbel.out.size hbw)
            have Hbldz := Lib.hid (Hbld.out.below hbw (Nat.le_refl _))
            have hrz := hbw.size
            clear hbw c0 c1 c2 c3 HBk Hbs Hex Hbld
            have Hbld := Hbldz
            generalize (some (⟨b, off, none⟩ : Addr)) = va at *
            have hlk : ((g.take k).map Vx.fd).length = k := by simp; omega
            have hel : ((g.take k).map Vx.fd).length ≤ 1048576 := by omega
            obtain ⟨au, cu, rfl, _⟩ := Hbld.out.slice
            have Hlk := Lib.hid hlk
            rw [hlk] at Hbldz
            clear hlk hel Hbld
            have sx := HX.out wz Hbz.out
            have k0 := sx.cell 0 (v := .int .i64 x.r) rfl
            have k1 := sx.cell 1 (v := .int .i64 x.a) rfl
            have k2 := sx.cell 2 (v := .slice pa x.ps.length pc) rfl
            have k3 := sx.cell 3 (v := .int .i64 x.d) rfl
            clear sx
            have hbz0 := Hb2.out.trans (Hbz.out.mono Hb2.out.size)
            have Hbz0 := Lib.hid hbz0; clear hbz0
            obtain ⟨hsz1, hsz2⟩ := Hsrc.out wz Hbz0.out
            have Hone := Lib.hid (HO.out x pa pc wz hbp hsz1 hsz2); clear hsz1 hsz2
            have Hex := Lib.hid (show (insG g x).map Vx.fd = ((g.take k).map Vx.fd ++ [[.i x.r, .i x.a, .l x.ps, .i x.d]]) ++ (g.drop k).map Vx.fd by unfold insG; rw [hnk, List.map_append, List.map_append]; rfl)
            have hdl : (g.drop k).length = g.length - k := List.length_drop
            rw [Hlk.out]
            generalize (g.take k).map Vx.fd = es at *
            go_wp2_with fail
            refine Hone.out.mono ?_
            rintro e w7 ⟨v7, rfl, hown7, hb7⟩
            obtain ⟨a7, c7, rfl, _, _⟩ := hown7.ints
            have hs7 := hb7.size
            have hbz2 := Hbz.out.size
            have Hbld7 := Lib.hid ((Hbldz.out.below hb7 hrz))
            obtain ⟨hfd, hap, hnew⟩ := vertex_new (B := w2.heap.size) x.r x.a x.d hown7 hbz2
            have Hfd := Lib.hid hfd; clear hfd
            have Hap := Lib.hid hap; clear hap
            have Hnew := Lib.hid (fun c hc g e => Nat.le_trans hrz (hnew c hc g e)); clear hnew hown7 k0 k1 k2 k3
            have Hbz7 := Lib.hid (below_step Hbz.out Hbz.out.size hb7); clear hb7
            have hB7 : w2.heap.size ≤ w7.heap.size := by omega
            have hlk := Hlk.out
            have hel : es.length ≤ 1048576 := by omega
            clear hlk
            obtain ⟨ad2, hif⟩ : ∃ ad2, (if vc = k then va else va.map fun x => x.add (k * 4)) = ad2 := ⟨_, rfl⟩
            go_wp2_with (at_builtin; refine wpList_push_own (Ei := 3) Try.underlying32 vertex_inf rfl (by decide) (by decide) rfl (.tmp 66) (.tmp 69) rfl w2.heap.size _ es _ _ _ rfl rfl (by intro u hu; simp at hu; rcases hu with rfl | rfl | rfl | rfl <;> rfl) rfl rfl Hfd.out Hap.out wr.heap.size Hbld7.out (by omega) Hnew.out hel rfl hB7 ?_; intro v8 w8 hbld8 hg8 hat8)
            have hown8 := hbld8
            obtain ⟨a8, c8, rfl, hm8⟩ := hown8.slice
            have hl8 : (es ++ [[Fd.i x.r, .i x.a, .l x.ps, .i x.d]]).length = k + 1 := by rw [List.length_append, Hlk.out]; rfl
            rw [hl8] at hbld8 ⊢
            clear hm8 hl8
            have Hbz8 := Lib.hid (Hbz7.out.grown hg8 hB7 (fun g e => (Hbld7.out.lt g e).1))
            have Hbld8 := Lib.hid hbld8; clear hbld8 hown8 hg8 hat8 Hfd Hap Hnew
            have hgr := Hg.out.under (Hb2.out.trans (Hbz8.out.mono Hb2.out.size))
            have hB8 := Hbz8.out.size
            obtain ⟨fp2, hgr2⟩ := hgr.tail k hk
            rw [hif] at hgr2
            have Hcopy := Lib.hid (HD.out k _ fp2 w8 hgr2); clear hgr2 hgr HD hif
            refine Hcopy.out.mono ?_
            rintro e w9 ⟨u9, rfl, ho9, hb9⟩
            have Hbld9 := Lib.hid (Hbld8.out.below hb9 (Nat.le_refl _))
            have Ho9 := Lib.hid ho9; clear ho9
            have hs9 := hb9.size
            have Hbz9 := Lib.hid (below_step Hbz8.out hB8 hb9); clear hb9
            have hB9 : w2.heap.size ≤ w9.heap.size := by omega
            have hmm : (es ++ [[Fd.i x.r, .i x.a, .l x.ps, .i x.d]]).length + ((g.drop k).map Vx.fd).length ≤ 2097152 := by rw [List.length_append, List.length_map, hdl, Hlk.out]; simp; omega
            go_wp2_with (at_builtin; refine wpList_app_own (Ei := 3) Try.underlying32 vertex_inf rfl (by decide) (by decide) rfl (.tmp 71) (.tmp 75) rfl w2.heap.size _ u9 _ _ rfl w8.heap.size w8.heap.size w9.heap.size Hbld9.out Ho9.out (Nat.le_refl _) (Nat.le_refl _) hB8 hmm rfl hB9 ?_; intro v10 w10 hbld10 hg10)
            go_ret2
            exact ⟨_, by rw [Hz1.out]; rfl, by rw [Hz2.out, Hex.out]; exact hbld10.from (by omega), Hb0.out.trans ((Hb2.out.trans ((Hbz9.out.grown hg10 hB9 (fun g e => (Hbld9.out.lt g e).1)).mono Hb2.out.size)).mono (by omega))⟩
        · have hnk := Hend.out k Hup.out (by omega)
          have hll : decide ((k : Int) < (g.length : Int)) = false := decide_eq_false (by omega)
          have hb0 : Below wr.heap.size wr wr.drew := (Below.refl _ _).drew
          clear Hins Hend
          go_wp2_with fail
          refine wp_region_held_drew (S := fun w' => Below wr.heap.size wr w' ∧ w'.cell? ⟨w.heap.size, 0, none⟩ = some (.int .i64 x.r) ∧ w'.cell? ⟨w.heap.size, 1, none⟩ = some (.int .i64 x.a) ∧ w'.cell? ⟨w.heap.size, 2, none⟩ = some (.slice pa x.ps.length pc) ∧ w'.cell? ⟨w.heap.size, 3, none⟩ = some (.int .i64 x.d)) (by kernel_rfl) ⟨hb0, k0, k1, k2, k3⟩ (fun hH => ?_)
          refine takeH 0 (v := ?vf0) rfl (by kernel_rfl) (by kernel_rfl) (by kernel_rfl) (fun _ _ _ h => h) hH rfl ?yf0 ?rf0
          case yf0 => intro W hSw; go_simp; try with_reducible rfl
          try simp only [Act.put, List.setIfInBounds_toArray, List.set_cons_zero, List.set_cons_succ]
          refine takeH 1 (v := ?vf1) rfl (by kernel_rfl) (by kernel_rfl) (by kernel_rfl) (fun _ _ _ h => h) hH rfl ?yf1 ?rf1
          case yf1 => intro W hSw; go_simp; try with_reducible rfl
          try simp only [Act.put, List.setIfInBounds_toArray, List.set_cons_zero, List.set_cons_succ]
          refine takeH 2 (v := ?vf2) rfl (by kernel_rfl) (by kernel_rfl) (by kernel_rfl) (fun _ _ _ h => h) hH rfl ?yf2 ?rf2
          case yf2 => intro W hSw; go_simp; try with_reducible rfl
          try simp only [Act.put, List.setIfInBounds_toArray, List.set_cons_zero, List.set_cons_succ]
          refine takeH 3 (v := .bool false) rfl (by kernel_rfl) (by kernel_rfl) (by kernel_rfl) (fun _ _ _ h => h) hH rfl ?yf3 ?rf3
          case yf3 => intro W hSw; go_simp; first | done | simp only [hll] | omega | (simp; omega)
          try simp only [Act.put, List.setIfInBounds_toArray, List.set_cons_zero, List.set_cons_succ]
          refine takeH 4 (v := ?vf4) rfl (by kernel_rfl) (by kernel_rfl) (by kernel_rfl) (fun _ _ _ h => h) hH rfl ?yf4 ?rf4
          case yf4 => intro W hSw; go_simp; try with_reducible rfl
          try simp only [Act.put, List.setIfInBounds_toArray, List.set_cons_zero, List.set_cons_succ]
          refine skipH 5 rfl (by kernel_rfl) (by kernel_rfl) (by kernel_rfl) (fun _ _ _ h => h) hH rfl ?_
          try simp only [Act.put, List.setIfInBounds_toArray, List.set_cons_zero, List.set_cons_succ]
          refine skipH 6 rfl (by kernel_rfl) (by kernel_rfl) (by kernel_rfl) (fun _ _ _ h => h) hH rfl ?_
          try simp only [Act.put, List.setIfInBounds_toArray, List.set_cons_zero, List.set_cons_succ]
          refine skipH 7 rfl (by kernel_rfl) (by kernel_rfl) (by kernel_rfl) (fun _ _ _ h => h) hH rfl ?_
          try simp only [Act.put, List.setIfInBounds_toArray, List.set_cons_zero, List.set_cons_succ]
          refine skipH 8 rfl (by kernel_rfl) (by kernel_rfl) (by kernel_rfl) (fun _ _ _ h => h) hH rfl ?_
          try simp only [Act.put, List.setIfInBounds_toArray, List.set_cons_zero, List.set_cons_succ]
          refine skipH 9 rfl (by kernel_rfl) (by kernel_rfl) (by kernel_rfl) (fun _ _ _ h => h) hH rfl ?_
          try simp only [Act.put, List.setIfInBounds_toArray, List.set_cons_zero, List.set_cons_succ]
          refine skipH 10 rfl (by kernel_rfl) (by kernel_rfl) (by kernel_rfl) (fun _ _ _ h => h) hH rfl ?_
          try simp only [Act.put, List.setIfInBounds_toArray, List.set_cons_zero, List.set_cons_succ]
          refine takeH 11 (v := ?vf11) rfl (by kernel_rfl) (by kernel_rfl) (by kernel_rfl) (fun _ _ _ h => h) hH rfl ?yf11 ?rf11
          case yf11 => intro W hSw; go_simp; try with_reducible rfl
          try simp only [Act.put, List.setIfInBounds_toArray, List.set_cons_zero, List.set_cons_succ]
          refine wpAnyH_done (by kernel_rfl) ?_ _
          try simp only [Act.put]
          have hbw := hH.1
          clear hH hb0 k0 k1 k2 k3
          generalize wr.drew = wz at *
          have Hbz := Lib.hid (below_step Hbel.out Hbel.out.size hbw)
          have Hbldz := Lib.hid (Hbld.out.below hbw (Nat.le_refl _))
          have hrz := hbw.size
          clear hbw Hbld
          have Hbld := Hbldz
          have hlk : ((g.take k).map Vx.fd).length = k := by simp; omega
          have hel : ((g.take k).map Vx.fd).length ≤ 1048576 := by omega
          obtain ⟨au, cu, rfl, _⟩ := Hbld.out.slice
          have Hlk := Lib.hid hlk
          rw [hlk] at Hbldz
          clear hlk hel Hbld
          have sx := HX.out wz Hbz.out
          have k0 := sx.cell 0 (v := .int .i64 x.r) rfl
          have k1 := sx.cell 1 (v := .int .i64 x.a) rfl
          have k2 := sx.cell 2 (v := .slice pa x.ps.length pc) rfl
          have k3 := sx.cell 3 (v := .int .i64 x.d) rfl
          clear sx
          have hbz0 := Hb2.out.trans (Hbz.out.mono Hb2.out.size)
          have Hbz0 := Lib.hid hbz0; clear hbz0
          obtain ⟨hsz1, hsz2⟩ := Hsrc.out wz Hbz0.out
          have Hone := Lib.hid (HO.out x pa pc wz hbp hsz1 hsz2); clear hsz1 hsz2
          have Hex := Lib.hid (show (insG g x).map Vx.fd = ((g.take k).map Vx.fd ++ [[.i x.r, .i x.a, .l x.ps, .i x.d]]) ++ (g.drop k).map Vx.fd by unfold insG; rw [hnk, List.map_append, List.map_append]; rfl)
          have hdl : (g.drop k).length = g.length - k := List.length_drop
          rw [Hlk.out]
          generalize (g.take k).map Vx.fd = es at *
          go_wp2_with fail
          refine Hone.out.mono ?_
          rintro e w7 ⟨v7, rfl, hown7, hb7⟩
          obtain ⟨a7, c7, rfl, _, _⟩ := hown7.ints
          have hs7 := hb7.size
          have hbz2 := Hbz.out.size
          have Hbld7 := Lib.hid ((Hbldz.out.below hb7 hrz))
          obtain ⟨hfd, hap, hnew⟩ := vertex_new (B := w2.heap.size) x.r x.a x.d hown7 hbz2
          have Hfd := Lib.hid hfd; clear hfd
          have Hap := Lib.hid hap; clear hap
          have Hnew := Lib.hid (fun c hc g e => Nat.le_trans hrz (hnew c hc g e)); clear hnew hown7 k0 k1 k2 k3
          have Hbz7 := Lib.hid (below_step Hbz.out Hbz.out.size hb7); clear hb7
          have hB7 : w2.heap.size ≤ w7.heap.size := by omega
          have hlk := Hlk.out
          have hel : es.length ≤ 1048576 := by omega
          clear hlk
          obtain ⟨ad2, hif⟩ : ∃ ad2, (if vc = k then va else va.map fun x => x.add (k * 4)) = ad2 := ⟨_, rfl⟩
          go_wp2_with (at_builtin; refine wpList_push_own (Ei := 3) Try.underlying32 vertex_inf rfl (by decide) (by decide) rfl (.tmp 66) (.tmp 69) rfl w2.heap.size _ es _ _ _ rfl rfl (by intro u hu; simp at hu; rcases hu with rfl | rfl | rfl | rfl <;> rfl) rfl rfl Hfd.out Hap.out wr.heap.size Hbld7.out (by omega) Hnew.out hel rfl hB7 ?_; intro v8 w8 hbld8 hg8 hat8)
          have hown8 := hbld8
          obtain ⟨a8, c8, rfl, hm8⟩ := hown8.slice
          have hl8 : (es ++ [[Fd.i x.r, .i x.a, .l x.ps, .i x.d]]).length = k + 1 := by rw [List.length_append, Hlk.out]; rfl
          rw [hl8] at hbld8 ⊢
          clear hm8 hl8
          have Hbz8 := Lib.hid (Hbz7.out.grown hg8 hB7 (fun g e => (Hbld7.out.lt g e).1))
          have Hbld8 := Lib.hid hbld8; clear hbld8 hown8 hg8 hat8 Hfd Hap Hnew
          have hgr := Hg.out.under (Hb2.out.trans (Hbz8.out.mono Hb2.out.size))
          have hB8 := Hbz8.out.size
          obtain ⟨fp2, hgr2⟩ := hgr.tail k hk
          rw [hif] at hgr2
          have Hcopy := Lib.hid (HD.out k _ fp2 w8 hgr2); clear hgr2 hgr HD hif
          refine Hcopy.out.mono ?_
          rintro e w9 ⟨u9, rfl, ho9, hb9⟩
          have Hbld9 := Lib.hid (Hbld8.out.below hb9 (Nat.le_refl _))
          have Ho9 := Lib.hid ho9; clear ho9
          have hs9 := hb9.size
          have Hbz9 := Lib.hid (below_step Hbz8.out hB8 hb9); clear hb9
          have hB9 : w2.heap.size ≤ w9.heap.size := by omega
          have hmm : (es ++ [[Fd.i x.r, .i x.a, .l x.ps, .i x.d]]).length + ((g.drop k).map Vx.fd).length ≤ 2097152 := by rw [List.length_append, List.length_map, hdl, Hlk.out]; simp; omega
          go_wp2_with (at_builtin; refine wpList_app_own (Ei := 3) Try.underlying32 vertex_inf rfl (by decide) (by decide) rfl (.tmp 71) (.tmp 75) rfl w2.heap.size _ u9 _ _ rfl w8.heap.size w8.heap.size w9.heap.size Hbld9.out Ho9.out (Nat.le_refl _) (Nat.le_refl _) hB8 hmm rfl hB9 ?_; intro v10 w10 hbld10 hg10)
          go_ret2
          exact ⟨_, by rw [Hz1.out]; rfl, by rw [Hz2.out, Hex.out]; exact hbld10.from (by omega), Hb0.out.trans ((Hb2.out.trans ((Hbz9.out.grown hg10 hB9 (fun g e => (Hbld9.out.lt g e).1)).mono Hb2.out.size)).mono (by omega))⟩

end Go.Proofs.Ythnbjdijcpcafaa

/- The reference's adding, merging and measuring of graphs, each by a walk of its text; conditions: lists are shorter than 2^40 (a graph: 2^20). -/
namespace Go.Proofs.Ythnbjdijcpcafaa
open Go.RowKit

theorem vtx_round {c : List Int} {x : Vx} (h : vtxB c x = true) : 0 ≤ x.r ∧ x.r ≤ 30 := by
  unfold vtxB rngB at h; simp only [Bool.and_eq_true, decide_eq_true_eq] at h; exact h.1
theorem graph_vtx {c : List Int} {g : List Vx} (h : graphB c g = true) : ∀ x ∈ g, vtxB c x = true := by
  intro x hx
  obtain ⟨k, hk, rfl⟩ := List.mem_iff_getElem.1 hx
  unfold graphB at h
  simp only [Bool.and_eq_true] at h
  have := allB_upto h.2 k hk
  unfold okV at this
  rw [getV hk] at this
  simp only [Bool.and_eq_true] at this
  exact this.1

def gaB (c : List Int) (g : List Vx) (x : Vx) : Bool := graphB c g && vtxB c x
def gaN (c : List Int) (g : List Vx) (x : Vx) : Int := if gaB c g x = true then addN g x else 4
def gaG (c : List Int) (g : List Vx) (x : Vx) : List Vx := if gaB c g x = true then addG g x else []
theorem ga_no {c : List Int} {g : List Vx} {x : Vx} (h : gaB c g x = false) : gaN c g x = 4 ∧ gaG c g x = [] := ⟨by unfold gaN; rw [if_neg (by simp [h])], by unfold gaG; rw [if_neg (by simp [h])]⟩
theorem ga_yes {c : List Int} {g : List Vx} {x : Vx} (h : gaB c g x = true) : gaN c g x = addN g x ∧ gaG c g x = addG g x := ⟨by unfold gaN; rw [if_pos h], by unfold gaG; rw [if_pos h]⟩
theorem ownR_none (w : World) (w0 : Nat) (h : w0 ≤ w.heap.size) : OwnR 25 3 4 (w.alloc (.cells #[] 25)) w0 (w.alloc (.cells #[] 25)).heap.size (.slice (some ⟨w.heap.size, 0, none⟩) 0 0) (([] : List Vx).map Vx.fd) :=
  .nil (World.ownsRow_made w #[] 0 h (by simp) (by simp)) (fun g e => by cases e; simp)
/-- The graphs' vertices added one after the other, from index k on; none where two contradict. -/
def mrgF : List Vx → List Vx → Option (List Vx)
  | out, [] => some out
  | out, x :: b => if addN out x = 2 then none else mrgF (addG out x) b
def mgO (c : List Int) (a b : List Vx) : Option (List Vx) := if graphB c a = true ∧ graphB c b = true then mrgF a b else none
def mgG (c : List Int) (a b : List Vx) : List Vx := (mgO c a b).getD []
def mgB (c : List Int) (a b : List Vx) : Bool := (mgO c a b).isSome
theorem mg_no {c : List Int} {a b : List Vx} (h : ¬ (graphB c a = true ∧ graphB c b = true)) : mgG c a b = [] ∧ mgB c a b = false := by unfold mgG mgB mgO; rw [if_neg h]; exact ⟨rfl, rfl⟩
theorem mrg_stop {a b : List Vx} {k : Nat} {out : List Vx} (hk : k < b.length) (h : mrgF out (b.drop k) = mrgF a b) (h2 : addN out b[k] = 2) : mrgF a b = none := by
  rw [← h, List.drop_eq_getElem_cons hk, mrgF, if_pos h2]
theorem mrg_step {a b : List Vx} {k : Nat} {out : List Vx} (hk : k < b.length) (h : mrgF out (b.drop k) = mrgF a b) (h2 : addN out b[k] ≠ 2) : mrgF (addG out b[k]) (b.drop (k + 1)) = mrgF a b := by
  rw [← h, List.drop_eq_getElem_cons hk, mrgF, if_neg h2]
theorem mrg_end {a b : List Vx} {out : List Vx} (h : mrgF out (b.drop b.length) = mrgF a b) : mrgF a b = some out := by rw [← h, List.drop_length]; rfl
theorem addG_len (g : List Vx) (x : Vx) : (addG g x).length ≤ g.length + 1 := by
  unfold addG
  split
  · unfold insG
    rw [List.length_append, List.length_append, List.length_take, List.length_drop]
    simp; omega
  · omega
theorem addG_mem {g : List Vx} {x y : Vx} (h : y ∈ addG g x) : y ∈ g ∨ y = x := by
  unfold addG at h
  split at h
  · unfold insG at h
    rcases List.mem_append.1 h with h | h
    · rcases List.mem_append.1 h with h | h
      · exact .inl (List.mem_of_mem_take h)
      · simp at h; exact .inr h
    · exact .inl (List.mem_of_mem_drop h)
  · exact .inl h
set_option maxHeartbeats 1000000 in
theorem spec_GraphMerge (ac : Option Addr) (capc : Nat) (c : List Int) (a b : List Vx) (va vb : Value) (fa fb : List Nat) (w : World) (hn : c.length ≤ 1099511627776) (hbig : a.length + b.length ≤ 1048576) (hpa : ∀ y ∈ a, y.ps.length ≤ 1099511627776) (hpb : ∀ y ∈ b, y.ps.length ≤ 1099511627776) (hc : IntsAt w ac c) (ha : Gr w a va fa) (hb : Gr w b vb fb) :
    Calls Try.prog 14 #[.slice ac c.length capc, va, vb] w fun e w' => ∃ u, e = .returned (.tuple #[u, .bool (mgB c a b)]) ∧ OwnR 25 3 4 w' w.heap.size w'.heap.size u ((mgG c a b).map Vx.fd) ∧ Below w.heap.size w w' := by
  have HVa := Lib.hid (spec_GraphValid ac capc c a va fa w hn (by omega) hpa hc ha)
  have HVb := Lib.hid (fun W h h' => spec_GraphValid ac capc c b vb fb W hn (by omega) hpb h h')
  have Hc := Lib.hid hc; clear hc
  have Ha := Lib.hid ha; clear ha
  have Hb := Lib.hid hb; clear hb
  have hno := mg_no (c := c) (a := a) (b := b)
  cases hga : graphB c a with
  | false =>
    rw [hga] at HVa
    obtain ⟨hz2, hz1⟩ := hno (fun h => by rw [hga] at h; exact absurd h.1 (by simp))
    have Hz1 := Lib.hid hz1
    have Hz2 := Lib.hid hz2
    clear hz1 hz2 hno
    go_enter Try.func14, Try.ntmps14
    go_wp2_with fail
    refine HVa.out.mono ?_
    rintro e w1 ⟨rfl, hb1⟩
    have Hb1 := Lib.hid hb1; clear hb1
    go_wp2
    go_ret2
    exact ⟨_, by rw [Hz1.out]; rfl, by rw [Hz2.out]; exact ownR_none _ _ Hb1.out.size, Hb1.out.alloc Hb1.out.size _⟩
  | true =>
  rw [hga] at HVa
  cases hgb : graphB c b with
  | false =>
    rw [hgb] at HVb
    obtain ⟨hz2, hz1⟩ := hno (fun h => by rw [hgb] at h; exact absurd h.2 (by simp))
    have Hz1 := Lib.hid hz1
    have Hz2 := Lib.hid hz2
    clear hz1 hz2 hno
    go_enter Try.func14, Try.ntmps14
    go_wp2_with fail
    refine HVa.out.mono ?_
    rintro e w1 ⟨rfl, hb1⟩
    go_wp2_with fail
    refine (HVb.out w1 (Hc.out.below hb1) (Hb.out.under hb1)).mono ?_
    rintro e w2 ⟨rfl, hb2⟩
    have Hb1 := Lib.hid (below_step hb1 hb1.size hb2); clear hb1 hb2
    go_wp2
    go_ret2
    exact ⟨_, by rw [Hz1.out]; rfl, by rw [Hz2.out]; exact ownR_none _ _ Hb1.out.size, Hb1.out.alloc Hb1.out.size _⟩
  | true =>
  rw [hgb] at HVb
  have hO : mgO c a b = mrgF a b := by unfold mgO; rw [if_pos ⟨hga, hgb⟩]
  have Hnone := Lib.hid (show mrgF a b = none → mgB c a b = false ∧ mgG c a b = [] from fun h => by unfold mgB mgG; rw [hO, h]; exact ⟨rfl, rfl⟩)
  have Hsome := Lib.hid (show ∀ out, mrgF a b = some out → mgB c a b = true ∧ mgG c a b = out from fun out h => by unfold mgB mgG; rw [hO, h]; exact ⟨rfl, rfl⟩)
  have HC := Lib.hid (fun W h => spec_l11Copy a va fa W (by omega) hpa h)
  have Hvb := Lib.hid (graph_vtx hgb)
  have HPb := Lib.hid hpb; clear hpb
  have HPa := Lib.hid hpa; clear hpa
  obtain ⟨ab, cb, rfl⟩ := Hb.out.slice
  clear hno hO hga hgb
  go_enter Try.func14, Try.ntmps14
  go_wp2_with fail
  refine HVa.out.mono ?_
  rintro e w1 ⟨rfl, hb1⟩
  go_wp2_with fail
  refine (HVb.out w1 (Hc.out.below hb1) (Hb.out.under hb1)).mono ?_
  rintro e w2 ⟨rfl, hb2⟩
  have Hb1 := Lib.hid (below_step hb1 hb1.size hb2); clear hb1 hb2
  go_wp2_with fail
  refine (HC.out w2 (Ha.out.under Hb1.out)).mono ?_
  rintro e w3 ⟨u3, rfl, ho3, hb3⟩
  have Ho3 := Lib.hid (ho3.from Hb1.out.size)
  have Hb3 := Lib.hid (below_step Hb1.out Hb1.out.size hb3); clear ho3 hb3
  go_wp2
  go_loopw [8, 9] (fun u i wr => ∃ (k : Nat) (out : List Vx), k ≤ b.length ∧ i = .int .i64 k ∧ out.length ≤ a.length + k ∧ (∀ y ∈ out, y.ps.length ≤ 1099511627776) ∧ mrgF out (b.drop k) = mrgF a b ∧ OwnR 25 3 4 wr w.heap.size wr.heap.size u (out.map Vx.fd) ∧ Below w.heap.size w wr) (fun _ i _ => b.length - (intOf i).toNat)
  case atStart => exact ⟨0, a, Nat.zero_le _, rfl, by omega, HPa.out, rfl, Ho3.out, Hb3.out⟩
  case round =>
    obtain ⟨k, out, hk, rfl, hol, hop, hmr, hbld, hbel⟩ := hrel
    have Hbld := Lib.hid hbld; clear hbld
    have Hbel := Lib.hid hbel; clear hbel
    have Hmr := Lib.hid hmr; clear hmr
    by_cases hlt : k < b.length
    · obtain ⟨gb, off, rfl, hbb, hat⟩ := (Hb.out.under Hbel.out).at (by omega)
      obtain ⟨c0, c1, ⟨pa, pc, c2, i2, s2⟩, c3⟩ := hat k hlt
      have hpy := HPb.out _ (List.getElem_mem hlt)
      have hrr := vtx_round (Hvb.out _ (List.getElem_mem hlt))
      obtain ⟨fo, hro⟩ := Hbld.out.reads
      have Hadd := Lib.hid (spec_l11Add out _ fo b[k] pa pc wr (by omega) hop hpy hrr.1 (by omega) hro s2 i2)
      have Hstop := Lib.hid (mrg_stop hlt Hmr.out)
      have Hstep := Lib.hid (mrg_step hlt Hmr.out)
      have hal := addG_len out b[k]
      have Hin := Lib.hid (show ∀ y ∈ addG out b[k], y.ps.length ≤ 1099511627776 from fun y hy => by
        rcases addG_mem hy with h | rfl
        · exact hop y h
        · exact hpy)
      clear hat i2 s2 hro hpy hrr hop
      generalize b[k] = y at *
      go_wp2_with fail
      refine Hadd.out.mono ?_
      rintro e w6 ⟨u6, rfl, ho6, hb6⟩
      have Ho6 := Lib.hid (ho6.from Hbel.out.size)
      have Hb6 := Lib.hid (below_step Hbel.out Hbel.out.size hb6); clear ho6 hb6 c0 c1 c2 c3
      by_cases h2 : addN out y = 2
      · obtain ⟨hz1, hz2⟩ := Hnone.out (Hstop.out h2)
        have Hz1 := Lib.hid hz1
        have Hz2 := Lib.hid hz2
        have e2 : (addN out y == 2) = true := by simpa using h2
        clear hz1 hz2 h2
        go_wp2
        go_ret2
        exact ⟨_, by rw [Hz1.out]; rfl, by rw [Hz2.out]; exact ownR_none _ _ Hb6.out.size, Hb6.out.alloc Hb6.out.size _⟩
      · have Hst := Lib.hid (Hstep.out h2)
        have e2 : (addN out y == 2) = false := by simpa using h2
        clear h2
        go_wp2
        go_roundw
        case rel => exact ⟨k + 1, _, by omega, by go_num, by omega, Hin.out, Hst.out, Ho6.out, Hb6.out⟩
        case measure => simp [intOf]; omega
    · have hke : k = b.length := by omega
      subst hke
      obtain ⟨hz1, hz2⟩ := Hsome.out out (mrg_end Hmr.out)
      have Hz1 := Lib.hid hz1
      have Hz2 := Lib.hid hz2
      clear hz1 hz2
      go_wp2
      go_ret2
      exact ⟨_, by rw [Hz1.out]; rfl, by rw [Hz2.out]; exact Hbld.out, Hbel.out⟩

end Go.Proofs.Ythnbjdijcpcafaa

/- Lists of truth values in memory of their own; general steps, nothing here speaks of the program. -/
namespace Go.Proofs.Ythnbjdijcpcafaa
open Go.RowKit

/-- The slice value v owns the truth values bs in memory made from block B on. -/
def OwnB (E : TypeId) (w : World) (B : Nat) (v : Value) (bs : List Bool) : Prop := w.ownsRow B E 1 v bs.length (bs.map Value.bool)
section
variable {E : TypeId} {w w' : World} {B : Nat} {v : Value} {bs : List Bool}
theorem OwnB.kept {row : Option Nat} (h : OwnB E w B v bs) (hg : w.grownBy w' row) (hne : v.ownBlock = none ∨ v.ownBlock ≠ row) : OwnB E w' B v bs := World.ownsRow.kept h hg hne
theorem OwnB.below (h : OwnB E w B v bs) (hg : Below w.heap.size w w') : OwnB E w' B v bs := h.kept (below_grown hg) (by cases hv : v.ownBlock <;> simp)
theorem OwnB.lt (h : OwnB E w B v bs) : ∀ k, v.ownBlock = some k → B ≤ k ∧ k < w.heap.size := World.ownsRow.lt h
theorem OwnB.mono {B' : Nat} (h : OwnB E w B v bs) (hB : B' ≤ B) : OwnB E w B' v bs := by
  refine ⟨h.1, ?_⟩
  rcases h.2 with h0 | ⟨g, cap, cur, e, hb, rest⟩
  · exact .inl h0
  · exact .inr ⟨g, cap, cur, e, by omega, rest⟩
theorem OwnB.slice (h : OwnB E w B v bs) : ∃ a cap, v = .slice a bs.length cap ∧ bs.length ≤ maxLen := by
  rcases h.2 with ⟨rfl, h0⟩ | ⟨g, cap, cur, rfl, hb, hg, hn, hm, hs, ht⟩
  · exact ⟨none, 0, by rw [h0], by rw [h0]; simp⟩
  · exact ⟨_, cap, rfl, by omega⟩
theorem OwnB.row (h : OwnB E w B v bs) (hx : 0 < bs.length) : ∃ g cap, v = .slice (some ⟨g, 0, none⟩) bs.length cap ∧ B ≤ g ∧ g < w.heap.size ∧ bs.length ≤ cap ∧
    (∀ j (h : j < bs.length), w.cell? ⟨g, j, none⟩ = some (.bool bs[j])) ∧ ∀ j, w.frozen? ⟨g, j, none⟩ = false := by
  rcases h.2 with ⟨rfl, h0⟩ | ⟨g, cap, cur, rfl, hb, hg, hn, hm, hs, ht⟩
  · omega
  · refine ⟨g, cap, rfl, hb, (Array.getElem?_eq_some_iff.1 hg).1, hn, fun j hj => ?_, fun j => frozen_of_row w g j cur E hg⟩
    have hc := World.ownsRow.cells (w := w) (base := B) (e := E) (size := 1) (v := .slice (some ⟨g, 0, none⟩) bs.length cap) (n := bs.length) (xs := bs.map Value.bool) h (g := g) rfl j (.bool bs[j]) (by simp [hj])
    rwa [addr_add] at hc
theorem OwnB.store {g cap n : Nat} (h : OwnB E w B (.slice (some ⟨g, 0, none⟩) n cap) bs) (hn : n = bs.length) (j : Nat) (z : Bool) :
    OwnB E (w.setCell ⟨g, j, none⟩ (.bool z)) B (.slice (some ⟨g, 0, none⟩) n cap) (bs.set j z) ∧ w.grownBy (w.setCell ⟨g, j, none⟩ (.bool z)) (some g) := by
  subst hn
  have := World.ownsRow.stored (w := w) (base := B) (e := E) (size := 1) (g := g) (n := bs.length) (cap := cap) h j (.bool z)
  refine ⟨?_, this.2⟩
  unfold OwnB
  rw [List.map_set, List.length_set]
  exact this.1
theorem OwnB.apart {E' : TypeId} {B' : Nat} {u : Value} {xs : List Int} (h' : OwnB E w B v bs) (h : Own E' w B' u xs) (hE : E ≠ E') : v.ownBlock = none ∨ v.ownBlock ≠ u.ownBlock := by
  rcases h'.2 with ⟨rfl, _⟩ | ⟨g, cap, cur, rfl, _, hg, _⟩
  · exact .inl rfl
  · rcases h.2 with ⟨rfl, _⟩ | ⟨g', cap', cur', rfl, _, hg', _⟩
    · exact .inr (fun e => by cases e)
    · refine .inr fun e => hE ?_
      have e' : g = g' := by cases e; rfl
      subst e'
      rw [hg] at hg'
      cases hg'
      rfl
/-- New memory holds no truth. -/
theorem ownB_new (E : TypeId) (w : World) (n : Nat) (hm : n ≤ maxLen) : OwnB E (w.alloc (.cells (madeCells #[.bool false] n) E)) w.heap.size (.slice (some ⟨w.heap.size, 0, none⟩) n n) (List.replicate n false) := by
  have e : (madeCells #[Value.bool false] n).toList = (List.replicate n false).map Value.bool := by
    refine List.ext_getElem (by simp [madeCells]) fun i h1 h2 => ?_
    simp [madeCells, Nat.mod_one]
  have hs : (madeCells #[Value.bool false] n).size = n := by simp [madeCells]
  refine ⟨by simp, .inr ⟨w.heap.size, n, _, by simp, Nat.le_refl _, heap_alloc_new w _, by simp, hm, by rw [hs, Nat.mul_one], ?_⟩⟩
  rw [e]
  exact List.take_of_length_le (by simp)
end

end Go.Proofs.Ythnbjdijcpcafaa

/- A region that draws its order, operation by operation, where the condition on the world is kept up to a last operation alone (a store into what was loaded): general steps, nothing here speaks of the program. -/
namespace Go.Proofs.Ythnbjdijcpcafaa
open Go.RowKit

/-- Whatever order is picked from here on; S holds behind every operation until number m has come up. -/
def wpAnyL (P : Program) (md : Region.Mode) (ops : Array Oper) (Q : Exit → Act → World → Prop) (m : Nat) (S : World → Prop) : Nat → Array Bool → Act → World → Prop
  | 0, listed, a, w => Region.ready md ops listed = [] ∧ Q .normal a w
  | fuel + 1, listed, a, w =>
    (Region.ready md ops listed = [] → Q .normal a w) ∧
    ∀ i ∈ Region.ready md ops listed, wpOp P ops Q i (fun a' w' => ((listed.setIfInBounds i true).getD m true = false → S w') ∧ wpAnyL P md ops Q m S fuel (listed.setIfInBounds i true) a' w') a w

section
variable {P : Program} {md : Region.Mode} {ops : Array Oper} {Q : Exit → Act → World → Prop} {S : World → Prop} {m : Nat}

theorem any_of_L : ∀ (fuel : Nat) (listed : Array Bool) (a : Act) (w : World), wpAnyL P md ops Q m S fuel listed a w → wpAny P md ops Q fuel listed a w
  | 0, _, _, _, h => h
  | fuel + 1, _, _, _, h => ⟨h.1, fun i hi => wpOp_mono (fun a' w' h' => any_of_L fuel _ a' w' h'.2) (h.2 i hi)⟩

/-- Of two that may come up, neither waits for the other. -/
theorem ready_pair {listed : Array Bool} {i j : Nat} (hi : i ∈ Region.ready md ops listed) (hj : j ∈ Region.ready md ops listed) :
    listed.getD j true = false ∧ ∃ o, ops[j]? = some o ∧ ∀ e ∈ o.after, Region.binds md e = true → e.on ≠ i := by
  obtain ⟨hun, o, ho, hall⟩ := mem_ready.1 hj
  refine ⟨hun, o, ho, fun e he hb heq => ?_⟩
  have h1 := hall e he hb
  have h0 := (mem_ready.1 hi).1
  rw [heq] at h1
  by_cases hlt : i < listed.size <;> simp [hlt] at h0 h1
  rw [h0] at h1; cases h1
/-- Number m waits for number i. -/
def waits (md : Region.Mode) (ops : Array Oper) (m i : Nat) : Bool := (ops[m]?.map fun o => o.after.any fun e => Region.binds md e && e.on == i).getD false
theorem waits_not {listed : Array Bool} {i : Nat} (hw : waits md ops m i = true) (hi : i ∈ Region.ready md ops listed) : m ∉ Region.ready md ops listed := by
  intro hm
  obtain ⟨_, o, ho, hno⟩ := ready_pair hi hm
  unfold waits at hw
  rw [ho, Option.map_some, Option.getD_some, Array.any_eq_true'] at hw
  obtain ⟨e, he, hb⟩ := hw
  rw [Bool.and_eq_true, beq_iff_eq] at hb
  exact hno e he hb.1 hb.2

/-- Whoever may come up ahead of number i leaves its temporaries alone. -/
def FreeAt (md : Region.Mode) (ops : Array Oper) (oi : Oper) (i : Nat) (listed : Array Bool) : Prop :=
  ∀ j oj, ops[j]? = some oj → j ≠ i → listed.getD j true = false → (∀ e ∈ oj.after, Region.binds md e = true → e.on ≠ i) → oi.apart ops oj = true
theorem FreeAt.set {oi : Oper} {i j : Nat} {listed : Array Bool} (h : FreeAt md ops oi i listed) (hj : listed.getD j true = false) : FreeAt md ops oi i (listed.setIfInBounds j true) := by
  intro k ok hk hki hun hno
  refine h k ok hk hki ?_ hno
  rcases Nat.decEq j k with hjk | hjk
  · rwa [getD_set_ne true hjk] at hun
  · exact hjk ▸ hj
theorem firstL {i : Nat} {oi : Oper} {v : Value} (hi : ops[i]? = some oi) (hsel : ∀ (j : Nat) (o : Oper) cs b, ops[j]? = some o → o.op ≠ .select cs b)
    (hQ : ∀ c a w, Q (.panic c) (a.put oi.dst v) w → Q (.panic c) a w) (hw : waits md ops m i = true) (fuel : Nat) :
    ∀ (listed : Array Bool) (a : Act) (w : World), FreeAt md ops oi i listed → listed.getD m true = false → i ∈ Region.ready md ops listed → YieldsIf P ops S oi v a → S w →
      wpAnyL P md ops Q m S fuel (listed.setIfInBounds i true) (a.put oi.dst v) w → wpAnyL P md ops Q m S (fuel + 1) listed a w := by
  have im : ∀ {listed}, i ∈ Region.ready md ops listed → i ≠ m := fun hr e => waits_not hw hr (e ▸ hr)
  induction fuel with
  | zero =>
    intro listed a w _ _ hr hy hS H
    refine ⟨fun h => absurd hr (by rw [h]; simp), fun j hj => ?_⟩
    rcases Nat.decEq j i with hji | rfl
    · exact absurd (ready_mono hj hji) (by rw [H.1]; simp)
    · exact hy.wpOp hi hS ⟨fun _ => hS, H⟩
  | succ fuel ih =>
    intro listed a w hfree hmf hr hy hS H
    refine ⟨fun h => absurd hr (by rw [h]; simp), fun j hj => ?_⟩
    rcases Nat.decEq j i with hji | rfl
    · have hjm : j ≠ m := fun e => waits_not hw hr (e ▸ hj)
      obtain ⟨hjun, oj, hoj, hno⟩ := ready_pair hr hj
      refine wpOp_mono (fun a' w' h3 => ?_) (wpOp_putIf hoj (hfree j oj hoj hji hjun hno) (fun cs b => hsel i oi cs b hi) (fun cs b => hsel j oj cs b hoj) hQ hy (H.2 j (ready_mono hj hji)))
      have hS' : S w' := h3.2.1 (by rw [getD_set_ne true hjm, getD_set_ne true (im hr)]; exact hmf)
      exact ⟨fun _ => hS', ih _ a' w' (hfree.set hjun) (by rw [getD_set_ne true hjm]; exact hmf) (ready_mono hr (Ne.symm hji)) h3.1 hS' (by rw [Array.setIfInBounds_comm _ _ hji]; exact h3.2.2)⟩
    · exact hy.wpOp hi hS ⟨fun _ => hS, H⟩
end

section
variable {P : Program} {md : Region.Mode} {l : List Oper} {Q : Exit → Act → World → Prop} {S : World → Prop} {oi : Oper} {rest : List Oper} {fuel m : Nat} {listed : Array Bool} {a : Act} {w : World}

/-- Take number i first: it is carried out and yields v in every world that meets S. -/
theorem takeL (i : Nat) {v : Value} (hi : l.drop i = oi :: rest) (hs : Region.noSelect l.toArray = true) (hf : Region.free md l.toArray listed i = true) (hr : (Region.ready md l.toArray listed).contains i = true) (hm : waits md l.toArray m i = true) (hm' : listed.getD m true = false)
    (hQ : ∀ c a w, Q (.panic c) (a.put oi.dst v) w → Q (.panic c) a w) (hS : S w) (hw : Region.wanted oi (yielded l.toArray a.tmps) = true)
    (hy : ∀ w, S w → (execOp a.eval oi).run P w = .ok (.value v) w)
    (h : wpAnyL P md l.toArray Q m S fuel (listed.setIfInBounds i true) (a.put oi.dst v) w) : wpAnyL P md l.toArray Q m S (fuel + 1) listed a w :=
  firstL (drop_at hi) (Region.noSelect_spec hs) hQ hm fuel listed a w (Region.free_spec (drop_at hi) hf) hm' (by simpa using hr) (.inl ⟨hw, hy⟩) hS h
/-- Number i is left out by its guard. -/
theorem skipL (i : Nat) (hi : l.drop i = oi :: rest) (hs : Region.noSelect l.toArray = true) (hf : Region.free md l.toArray listed i = true) (hr : (Region.ready md l.toArray listed).contains i = true) (hm : waits md l.toArray m i = true) (hm' : listed.getD m true = false)
    (hQ : ∀ c a w, Q (.panic c) (a.put oi.dst undef) w → Q (.panic c) a w) (hS : S w) (hw : Region.wanted oi (yielded l.toArray a.tmps) = false)
    (h : wpAnyL P md l.toArray Q m S fuel (listed.setIfInBounds i true) (a.put oi.dst undef) w) : wpAnyL P md l.toArray Q m S (fuel + 1) listed a w :=
  firstL (drop_at hi) (Region.noSelect_spec hs) hQ hm fuel listed a w (Region.free_spec (drop_at hi) hf) hm' (by simpa using hr) (.inr ⟨hw, rfl⟩) hS h
/-- Number i alone may come up, and is not the last: it is carried out, and S is shown behind it. -/
theorem callL (i : Nat) (hi : l.drop i = oi :: rest) (hr : Region.ready md l.toArray listed = [i]) (hw : Region.wanted oi (yielded l.toArray a.tmps) = true)
    (h : ∀ K' : Act → World → Prop, Shut (∀ a w, S w → (S w → wpAnyL P md l.toArray Q m S fuel (listed.setIfInBounds i true) a w) → K' a w) → Oper.wp P oi a w K' Q) : wpAnyL P md l.toArray Q m S (fuel + 1) listed a w := by
  refine ⟨fun h0 => absurd (hr ▸ h0) (by simp), fun j hj => ?_⟩
  rw [hr] at hj
  have : j = i := by simpa using hj
  subst this
  exact wpOp_step (drop_at hi) fun K' hK => by rw [if_pos hw]; exact h K' fun a w hS hW => hK a w ⟨fun _ => hS, hW hS⟩
/-- The last one. -/
theorem lastL (hi : l.drop m = oi :: rest) (hr : Region.ready md l.toArray listed = [m]) (hend : Region.ready md l.toArray (listed.setIfInBounds m true) = []) (hm : (listed.setIfInBounds m true).getD m true = true) (hw : Region.wanted oi (yielded l.toArray a.tmps) = true)
    (h : ∀ K' : Act → World → Prop, Shut (∀ a w, Q .normal a w → K' a w) → Oper.wp P oi a w K' Q) : wpAnyL P md l.toArray Q m S (fuel + 1) listed a w := by
  refine ⟨fun h0 => absurd (hr ▸ h0) (by simp), fun j hj => ?_⟩
  rw [hr] at hj
  have : j = m := by simpa using hj
  subst this
  refine wpOp_step (drop_at hi) fun K' hK => by
    rw [if_pos hw]
    refine h K' fun a w hq => hK a w ⟨fun e => absurd (hm.symm.trans e) (by simp), ?_⟩
    cases fuel with
    | zero => exact ⟨hend, hq⟩
    | succ f => exact ⟨fun _ => hq, by rw [hend]; simp⟩
theorem wp_region_L (m : Nat) (S : World → Prop) {id : Nat} {ops : Array Oper} {a : Act} {w : World} (hm : P.follows .mixedOrders = true) (hS : S w.drew)
    (h : S w.drew → wpAnyL P .any ops Q m S ops.size (Array.replicate ops.size false) a w.drew) : (Code.region id ops true).wp P Q a w :=
  wp_region_any hm (any_of_L _ _ _ _ (h hS))
end

end Go.Proofs.Ythnbjdijcpcafaa

/- The reference's height of a graph and the past of a vertex, each by a walk of its text; conditions: lists are shorter than 2^40 (a graph: 2^20), and where the text asks it, the graph is valid. -/
namespace Go.Proofs.Ythnbjdijcpcafaa
open Go.RowKit

/-! the order of a graph -/
theorem bef_trans {a b c : Vx} (h : befB a b = true) (k : befB b c = true) : befB a c = true := by
  have h := of_decide_eq_true h
  have k := of_decide_eq_true k
  exact decide_eq_true (by omega)
theorem graph_sorted {c : List Int} {g : List Vx} (h : graphB c g = true) : g.Pairwise fun a b => befB a b = true := by
  unfold graphB at h
  simp only [Bool.and_eq_true] at h
  have hup := allB_upto h.2
  have next : ∀ i (hi : i + 1 < g.length), befB g[i] g[i + 1] = true := by
    intro i hi
    have := hup (i + 1) hi
    unfold okV at this
    rw [getV hi, Nat.add_sub_cancel, getV (show i < g.length by omega)] at this
    simp only [Bool.and_eq_true, Bool.or_eq_true] at this
    rcases this.2.1 with h | h
    · simp at h
    · exact h
  have step : ∀ d i (hi : i + 1 + d < g.length), befB g[i] g[i + 1 + d] = true := by
    intro d
    induction d with
    | zero => intro i hi; exact next i hi
    | succ d ih => intro i hi; exact bef_trans (ih i (by omega)) (next (i + 1 + d) hi)
  refine List.pairwise_iff_getElem.2 fun i j hi hj hij => ?_
  have := step (j - i - 1) i (by omega)
  simpa [show i + 1 + (j - i - 1) = j by omega] using this
theorem members_pairwise {n : Nat} {ms : List Int} (h : ms.Pairwise (· < ·)) (hb : ∀ m ∈ ms, 0 ≤ m ∧ m < n) : membersB n ms = true := by
  unfold membersB
  refine allB_yes (k := ms.length) (fun j hj => ?_) (Nat.le_refl _)
  have hb := hb ms[j] (List.getElem_mem hj)
  refine okAt_yes hj hb.1 hb.2 ?_
  by_cases h0 : j = 0
  · exact .inl h0
  · refine .inr ?_
    rw [getD_get (by omega)]
    exact List.pairwise_iff_getElem.1 h (j - 1) j (by omega) hj (by omega)
theorem vtx_author {c : List Int} {x : Vx} (h : vtxB c x = true) : 0 ≤ x.a ∧ x.a < c.length := by
  unfold vtxB autB at h; simp only [Bool.and_eq_true, decide_eq_true_eq] at h; omega
theorem auth_members {c : List Int} {g : List Vx} (h : graphB c g = true) (r : Int) : membersB c.length (authZ g r) = true := by
  refine members_pairwise ?_ fun m hm => ?_
  · unfold authZ
    rw [List.pairwise_map]
    refine List.Pairwise.imp_of_mem (R := fun a b => befB a b = true) (fun {a b} ha hb hab => ?_) ((graph_sorted h).filter _)
    have ha := of_decide_eq_true (List.mem_filter.1 ha).2
    have hb := of_decide_eq_true (List.mem_filter.1 hb).2
    have := of_decide_eq_true hab
    omega
  · unfold authZ at hm
    obtain ⟨x, hx, rfl⟩ := List.mem_map.1 hm
    exact vtx_author (graph_vtx h x (List.mem_filter.1 hx).1)

def qAt (c : List Int) (g : List Vx) (r : Int) : Bool := decide (quorumZ c ≤ weightZ c (authZ g r))
/-- The largest round below n with a quorum, or -1. -/
def hgtTo (c : List Int) (g : List Vx) : Nat → Int
  | 0 => -1
  | n + 1 => if qAt c g n = true then n else hgtTo c g n
def hgtZ (c : List Int) (g : List Vx) : Int := hgtTo c g 31
set_option maxHeartbeats 1000000 in
theorem spec_l11Height (ac : Option Addr) (capc : Nat) (c : List Int) (g : List Vx) (v : Value) (fp : List Nat) (w : World) (hv : graphB c g = true) (hbig : g.length ≤ 1048576) (hc : IntsAt w ac c) (hg : Gr w g v fp) :
    Calls Try.prog 47 #[.slice ac c.length capc, v] w fun e w' => e = .returned (.int .i64 (hgtZ c g)) ∧ Below w.heap.size w w' := by
  have hcv : validB c = true := by have h := hv; unfold graphB at h; simp only [Bool.and_eq_true] at h; exact h.1
  have Hm := Lib.hid (fun r => auth_members hv r)
  have HA := Lib.hid (fun r W h => spec_l11Authors g v fp r W (by omega) h)
  have hal := fun r => authZ_len g r
  have HW := Lib.hid (fun r am cap W (h : IntsAt W ac c) h' => spec_l1Weight ac capc c am cap (authZ g r) W hcv (Hm.out r) (Nat.le_trans (hal r) (by omega)) h h')
  have HQ := Lib.hid (fun W h => spec_l1Quorum ac capc c W hcv h)
  have Hc := Lib.hid hc; clear hc
  have Hg := Lib.hid hg; clear hg hal
  go_enter Try.func47, Try.ntmps47
  go_wp2
  go_loopw [5] (fun i wr => ∃ n : Nat, n ≤ 31 ∧ i = .int .i64 ((n : Int) - 1) ∧ hgtTo c g n = hgtZ c g ∧ Below w.heap.size w wr) (fun i _ => (intOf i + 1).toNat)
  case atStart => exact ⟨31, by omega, rfl, rfl, Below.refl _ _⟩
  case round =>
    obtain ⟨n, hn, rfl, hh, hbel⟩ := hrel
    have Hbel := Lib.hid hbel; clear hbel
    have Hh := Lib.hid hh; clear hh
    by_cases h0 : n = 0
    · subst h0
      have hz : hgtZ c g = -1 := Hh.out.symm
      have Hz := Lib.hid hz; clear hz
      go_wp2
      go_ret
      exact ⟨by rw [Hz.out]; rfl, Hbel.out⟩
    · obtain ⟨m, rfl⟩ : ∃ m, n = m + 1 := ⟨n - 1, by omega⟩
      have e1 : ((m + 1 : Nat) : Int) - 1 = m := by omega
      rw [e1]
      have hge : decide ((0 : Int) ≤ (m : Int)) = true := decide_eq_true (by omega)
      have hge' : (0 : Int) ≤ (m : Int) := by omega
      have hw1 : IntKind.i64.wrap ((m : Int) - 1) = m - 1 := IntWalk.i64_in _ (by omega)
      clear e1 h0
      go_wp2_with fail
      refine (HA.out m wr (Hg.out.under Hbel.out)).mono ?_
      rintro e w2 ⟨u, rfl, ho, hb2⟩
      obtain ⟨au, cu, rfl, hi, _⟩ := ho.ints
      have Hi := Lib.hid hi
      have Hb2 := Lib.hid (below_step Hbel.out Hbel.out.size hb2); clear hb2 ho hi
      go_wp2_with fail
      refine (HW.out m au cu w2 (Hc.out.below Hb2.out) Hi.out).mono ?_
      rintro e w3 ⟨rfl, rfl⟩
      go_wp2_with fail
      refine (HQ.out w2 (Hc.out.below Hb2.out)).mono ?_
      rintro e w3 ⟨rfl, rfl⟩
      have hst := Hh.out
      unfold hgtTo at hst
      cases hq : qAt c g m with
      | true =>
        rw [if_pos hq] at hst
        have hd := of_decide_eq_true hq
        unfold quorumZ at hd
        have Hz := Lib.hid hst; clear hst hq
        go_wp2
        go_ret
        exact ⟨by rw [← Hz.out]; rfl, Hb2.out⟩
      | false =>
        rw [if_neg (by simp [hq])] at hst
        have hd := of_decide_eq_false hq
        unfold quorumZ at hd
        have Hz := Lib.hid hst; clear hst hq
        go_wp2
        go_roundw
        case rel => exact ⟨m, by omega, by first | rfl | go_num, Hz.out, Hb2.out⟩
        case measure => simp [intOf]

end Go.Proofs.Ythnbjdijcpcafaa

/- The reference's past of a vertex, each text by a walk; conditions: lists are shorter than 2^40 (a graph: 2^20), and where the text asks it, the graph is valid. -/
namespace Go.Proofs.Ythnbjdijcpcafaa
open Go.RowKit

/-! the past, as the text marks it -/
def putB (g : List Vx) (r : Int) (bs : List Bool) (p : Int) : List Bool := bs.set (findZ g (r - 1) p).toNat true
def fromB (g : List Vx) (bs : List Bool) (x : Vx) (i k : Nat) : List Bool := if bs.getD i false = true then (x.ps.drop k).foldl (putB g x.r) bs else bs
def downB (g : List Vx) : Nat → List Bool → List Bool
  | 0, bs => bs
  | i + 1, bs => downB g i (fromB g bs (g.getD i vx0) i 0)
def pastB (g : List Vx) (at' : Int) : List Bool := if at' < 0 then List.replicate g.length false else downB g (at'.toNat + 1) ((List.replicate g.length false).set at'.toNat true)
theorem fromB_step {g : List Vx} {bs : List Bool} {x : Vx} {i k : Nat} (hk : k < x.ps.length) (hb : bs.getD i false = true) : (putB g x.r bs x.ps[k]).getD i false = true ∧ fromB g (putB g x.r bs x.ps[k]) x i (k + 1) = fromB g bs x i k := by
  have h1 : (putB g x.r bs x.ps[k]).getD i false = true := by
    unfold putB
    rw [List.getD_eq_getElem?_getD, List.getElem?_set]
    rw [List.getD_eq_getElem?_getD] at hb
    split
    · split
      · rfl
      · rename_i h1 h2
        rw [List.getElem?_eq_none (by omega)] at hb
        simp at hb
    · exact hb
  refine ⟨h1, ?_⟩
  unfold fromB
  rw [if_pos h1, if_pos hb, List.drop_eq_getElem_cons hk, List.foldl_cons]
theorem fromB_end {g : List Vx} {bs : List Bool} {x : Vx} {i : Nat} : fromB g bs x i x.ps.length = bs := by
  unfold fromB
  split
  · rw [List.drop_length]; rfl
  · rfl
theorem fromB_off {g : List Vx} {bs : List Bool} {x : Vx} {i k : Nat} (h : bs.getD i false = false) : fromB g bs x i k = bs := by unfold fromB; rw [if_neg (by rw [h]; decide)]
theorem putB_len (g : List Vx) (r : Int) (bs : List Bool) (p : Int) : (putB g r bs p).length = bs.length := by simp [putB]
/-- Each parent of a graph's vertex is found. -/
theorem graph_parents {c : List Int} {g : List Vx} (h : graphB c g = true) (i : Nat) (hi : i < g.length) (k : Nat) (hk : k < g[i].ps.length) : ∃ j : Nat, j < g.length ∧ findZ g (g[i].r - 1) g[i].ps[k] = j := by
  unfold graphB at h
  simp only [Bool.and_eq_true] at h
  have := allB_upto h.2 i hi
  unfold okV at this
  rw [getV hi] at this
  simp only [Bool.and_eq_true] at this
  have := allB_upto this.2.2 k hk
  unfold hasP at this
  rw [getD_get hk] at this
  have := of_decide_eq_true this
  rcases findZ_cases g (g[i].r - 1) g[i].ps[k] with ⟨e, _⟩ | ⟨j, hj, e, _⟩
  · omega
  · exact ⟨j, hj, e⟩

set_option maxRecDepth 8000 in
set_option maxHeartbeats 2000000 in
theorem spec_l11Past (c : List Int) (g : List Vx) (v : Value) (fp : List Nat) (at' : Int) (w : World) (hv : graphB c g = true) (hbig : g.length ≤ 1048576) (hps : ∀ x ∈ g, x.ps.length ≤ 1099511627776) (ha : at' = -1 ∨ ∃ j : Nat, j < g.length ∧ at' = j) (hg : Gr w g v fp) :
    Calls Try.prog 58 #[v, .int .i64 at'] w fun e w' => ∃ u, e = .returned u ∧ OwnB 4 w' w.heap.size u (pastB g at') ∧ Below w.heap.size w w' := by
  have hmk : ∀ w, (Instr.makeSlice 71 (.int .i64 (g.length : Int)) (.int .i64 (g.length : Int))).run Try.prog w = .ok (.slice (some ⟨w.heap.size, 0, none⟩) g.length g.length) (w.alloc (.cells (madeCells #[.bool false] g.length) 4)) :=
    fun w => run_make_row' 71 4 (.bool false) 1 Try.underlying71 (by kernel_rfl) rfl .i64 .i64 g.length (by omega) (by omega) w
  have hb1 : Below w.heap.size w (w.alloc (.cells (madeCells #[.bool false] g.length) 4)) := (Below.refl _ _).alloc (Nat.le_refl _) _
  have ho1 := ownB_new 4 w g.length (by unfold maxLen; omega)
  obtain ⟨va, vc, rfl⟩ := hg.slice
  have Hb1 := Lib.hid hb1; clear hb1
  have hsz : (w.alloc (.cells (madeCells #[.bool false] g.length) 4)).heap.size = w.heap.size + 1 := by simp
  rcases ha with rfl | ⟨a, haL, rfl⟩
  · have hz : pastB g (-1) = List.replicate g.length false := by unfold pastB; rw [if_pos (by omega)]
    have Hz := Lib.hid hz; clear hz
    have Ho1 := Lib.hid ho1; clear ho1
    go_enter Try.func58, Try.ntmps58
    go_wp2
    go_ret
    exact ⟨_, rfl, by rw [Hz.out]; exact Ho1.out, Hb1.out⟩
  have hz : pastB g (a : Int) = downB g (a + 1) ((List.replicate g.length false).set a true) := by unfold pastB; rw [if_neg (by omega)]; rfl
  have Hz := Lib.hid hz; clear hz
  obtain ⟨hst1, hst2⟩ := ho1.store (by simp) a true
  obtain ⟨hcell, hfr⟩ : (w.alloc (.cells (madeCells #[.bool false] g.length) 4)).cell? ⟨w.heap.size, a, none⟩ = some (.bool false) ∧ (w.alloc (.cells (madeCells #[.bool false] g.length) 4)).frozen? ⟨w.heap.size, a, none⟩ = false := by
    obtain ⟨g', cap', e, _, _, _, hc, hf⟩ := ho1.row (by simp; omega)
    simp only [Value.slice.injEq, Option.some.injEq, Addr.mk.injEq, List.length_replicate, and_true, true_and] at e
    obtain ⟨rfl, rfl⟩ := e
    have := hc a (by simpa using haL)
    exact ⟨by simpa using this, hf a⟩
  rw [show (w.alloc (.cells (madeCells #[.bool false] g.length) 4)).setCell ⟨w.heap.size, a, none⟩ (.bool true) = w.alloc (.cells ((madeCells #[.bool false] g.length).setIfInBounds a (.bool true)) 4) from World.setCell_alloc_at _ _ _ _ _ rfl] at hst1 hst2
  have Hst1 := Lib.hid hst1; clear hst1
  have HB1 := Lib.hid (Hb1.out.grown hst2 (by omega) (fun g' e => by cases e; exact Nat.le_refl _)); clear hst2 Hb1
  have HF := Lib.hid (fun r p W h => spec_l11Find g (.slice va g.length vc) fp r p W (by omega) h)
  have Hpar := Lib.hid (graph_parents hv)
  have Hrd := Lib.hid (graph_vtx hv)
  have HP := Lib.hid hps; clear hps
  clear ho1 hsz
  go_enter Try.func58, Try.ntmps58
  go_wp2
  clear hcell hfr hmk
  generalize w.alloc (.cells ((madeCells #[.bool false] g.length).setIfInBounds a (.bool true)) 4) = W1 at *
  go_loopw [6] (fun i wr => ∃ (n : Nat) (bs : List Bool), n ≤ a + 1 ∧ i = .int .i64 ((n : Int) - 1) ∧ bs.length = g.length ∧ downB g n bs = pastB g (a : Int) ∧ OwnB 4 wr w.heap.size (.slice (some ⟨w.heap.size, 0, none⟩) g.length g.length) bs ∧ Below w.heap.size w wr) (fun i _ => (intOf i + 1).toNat)
  case atStart => exact ⟨a + 1, _, Nat.le_refl _, by first | rfl | simp, by simp, Hz.out.symm, Hst1.out, HB1.out⟩
  case round =>
    obtain ⟨n, bs, hn, rfl, hbl, hres, hown, hbel⟩ := hrel
    have Hown := Lib.hid hown; clear hown
    have Hbel := Lib.hid hbel; clear hbel
    by_cases h0 : n = 0
    · subst h0
      have Hr := Lib.hid (show bs = pastB g (a : Int) from hres); clear hres
      go_wp2
      go_ret
      exact ⟨_, rfl, by rw [← Hr.out]; exact Hown.out, Hbel.out⟩
    · obtain ⟨m, rfl⟩ : ∃ m, n = m + 1 := ⟨n - 1, by omega⟩
      have e1 : ((m + 1 : Nat) : Int) - 1 = m := by omega
      rw [e1]
      have hge' : (0 : Int) ≤ (m : Int) := by omega
      have hw1 : IntKind.i64.wrap ((m : Int) - 1) = m - 1 := IntWalk.i64_in _ (by omega)
      have hmL : m < g.length := by omega
      have hres2 : downB g m (fromB g bs g[m] m 0) = pastB g (a : Int) := by rw [← hres, ← getV hmL]; rfl
      have Hres2 := Lib.hid hres2
      have hrr := vtx_round (Hrd.out _ (List.getElem_mem hmL))
      have hps := HP.out _ (List.getElem_mem hmL)
      have Hpm := Lib.hid (fun k hk => Hpar.out m hmL k hk)
      have Hcell := Lib.hid (fun W (h : Below w.heap.size w W) => by
        obtain ⟨b, off, e, hb, hat⟩ := (hg.under h).at (by omega)
        exact (⟨b, off, e, hat m hmL⟩ : ∃ b off, va = some ⟨b, off, none⟩ ∧ W.cell? ⟨b, off + m * 4, none⟩ = some (.int .i64 g[m].r) ∧ W.cell? ⟨b, off + m * 4 + 1, none⟩ = some (.int .i64 g[m].a) ∧ (∃ pa pc, W.cell? ⟨b, off + m * 4 + 2, none⟩ = some (.slice pa g[m].ps.length pc) ∧ IntsAt W pa g[m].ps ∧ SrcAt W pa pc g[m].ps) ∧ W.cell? ⟨b, off + m * 4 + 3, none⟩ = some (.int .i64 g[m].d)))
      obtain ⟨b, off, rfl, _⟩ := Hcell.out w (Below.refl _ _)
      clear e1 h0 hres hres2
      generalize hx : g[m] = x at *
      have Hx := Lib.hid hx; clear hx
      obtain ⟨W0, hW0⟩ : ∃ W0, W0 = wr := ⟨wr, rfl⟩
      subst hW0
      generalize hR : fromB g bs x m 0 = RES at *
      have HR := Lib.hid hR; clear hR
      go_wp2
      go_loopw [7] (fun i wr => ∃ (k : Nat) (bs' : List Bool), k ≤ x.ps.length ∧ i = .int .i64 k ∧ bs'.length = g.length ∧ fromB g bs' x m k = RES ∧ OwnB 4 wr w.heap.size (.slice (some ⟨w.heap.size, 0, none⟩) g.length g.length) bs' ∧ Below w.heap.size w wr) (fun i _ => x.ps.length - (intOf i).toNat)
      case atStart => exact ⟨0, bs, Nat.zero_le _, rfl, hbl, HR.out, Hown.out, Hbel.out⟩
      case round =>
        obtain ⟨k, bs', hk, rfl, hbl', hfr, hown', hbel'⟩ := hrel
        have Hfr := Lib.hid hfr; clear hfr
        have Hbel' := Lib.hid hbel'; clear hbel'
        obtain ⟨b', off', e, c0, c1, ⟨pa, pc, c2, i2, _⟩, c3⟩ := Hcell.out wr Hbel'.out
        simp only [Option.some.injEq, Addr.mk.injEq, and_true] at e
        obtain ⟨rfl, rfl⟩ := e
        obtain ⟨g', cap', e, _, _, _, hbc, hbf⟩ := hown'.row (by omega)
        simp only [Value.slice.injEq, Option.some.injEq, Addr.mk.injEq, and_true] at e
        obtain ⟨rfl, h9, rfl⟩ := e
        clear h9
        have hin := hbc m (by omega)
        have hbm : bs'.getD m false = bs'[m] := by simp [List.getD, List.getElem?_eq_getElem (show m < bs'.length by omega)]
        have Hown' := Lib.hid hown'; clear hown'
        by_cases hlt : k < x.ps.length
        · have hlt' : (k : Int) < (x.ps.length : Int) := by omega
          cases hbv : bs'[m] with
          | true =>
            rw [hbv] at hin hbm
            obtain ⟨j, hjL, hfz⟩ := Hpm.out k hlt
            obtain ⟨b2, off2, rfl, hb2, hat2⟩ := i2.cell (by omega)
            have q0 : wr.drew.cell? ⟨b, off + m * 4, none⟩ = some (.int .i64 x.r) := c0
            have q2 : wr.drew.cell? ⟨b, off + m * 4 + 2, none⟩ = some (.slice (some ⟨b2, off2, none⟩) x.ps.length pc) := c2
            have q3 : wr.drew.cell? ⟨b2, off2 + k, none⟩ = some (.int .i64 x.ps[k]) := hat2 k hlt
            obtain ⟨y, q4⟩ : ∃ y, wr.drew.cell? ⟨w.heap.size, j, none⟩ = some (.bool y) := ⟨_, hbc j (by omega)⟩
            have q5 : wr.drew.frozen? ⟨w.heap.size, j, none⟩ = false := hbf j
            have hw2 : IntKind.i64.wrap (x.r - 1) = x.r - 1 := IntWalk.i64_in _ (by omega)
            have hj2 : (j : Int) < (g.length : Int) := by omega
            have hm2 : (m : Int) < (g.length : Int) := by omega
            have hput : putB g x.r bs' x.ps[k] = bs'.set j true := by unfold putB; rw [hfz]; rfl
            obtain ⟨hs1, hs2⟩ := fromB_step (g := g) (i := m) hlt hbm
            rw [hput] at hs2
            have Hs2 := Lib.hid (hs2.trans Hfr.out)
            have Hfz := Lib.hid hfz
            have HF1 := Lib.hid (fun W h => HF.out (x.r - 1) x.ps[k] W h)
            have Hg1 := Lib.hid (hg.under Hbel'.out)
            have hb0 : Below wr.heap.size wr wr.drew := (Below.refl _ _).drew
            have Hst := Lib.hid ((show OwnB 4 wr.drew w.heap.size (.slice (some ⟨w.heap.size, 0, none⟩) g.length g.length) bs' from Hown'.out).store hbl'.symm j true)
            clear c1 c3 hfz hput hs1 hs2 hat2 hbc hbf hbm hbv
            generalize x.ps[k] = p at *
            go_wp2_with fail
            refine wp_region_L 18 (fun w' => w' = wr.drew) (by kernel_rfl) rfl (fun hH => ?_)
            refine takeL 0 (v := ?vp0) rfl (by kernel_rfl) (by kernel_rfl) (by kernel_rfl) (by kernel_rfl) (by kernel_rfl) (fun _ _ _ h => h) hH rfl ?yp0 ?rp0
            case yp0 => intro W hSw; subst hSw; go_simp; try with_reducible rfl
            try simp only [Act.put, List.setIfInBounds_toArray, List.set_cons_zero, List.set_cons_succ]
            refine takeL 1 (v := ?vp1) rfl (by kernel_rfl) (by kernel_rfl) (by kernel_rfl) (by kernel_rfl) (by kernel_rfl) (fun _ _ _ h => h) hH rfl ?yp1 ?rp1
            case yp1 => intro W hSw; subst hSw; go_simp; try with_reducible rfl
            try simp only [Act.put, List.setIfInBounds_toArray, List.set_cons_zero, List.set_cons_succ]
            refine takeL 2 (v := ?vp2) rfl (by kernel_rfl) (by kernel_rfl) (by kernel_rfl) (by kernel_rfl) (by kernel_rfl) (fun _ _ _ h => h) hH rfl ?yp2 ?rp2
            case yp2 => intro W hSw; subst hSw; go_simp; try with_reducible rfl
            try simp only [Act.put, List.setIfInBounds_toArray, List.set_cons_zero, List.set_cons_succ]
            refine takeL 3 (v := ?vp3) rfl (by kernel_rfl) (by kernel_rfl) (by kernel_rfl) (by kernel_rfl) (by kernel_rfl) (fun _ _ _ h => h) hH rfl ?yp3 ?rp3
            case yp3 => intro W hSw; subst hSw; go_simp; try with_reducible rfl
            try simp only [Act.put, List.setIfInBounds_toArray, List.set_cons_zero, List.set_cons_succ]
            refine takeL 4 (v := ?vp4) rfl (by kernel_rfl) (by kernel_rfl) (by kernel_rfl) (by kernel_rfl) (by kernel_rfl) (fun _ _ _ h => h) hH rfl ?yp4 ?rp4
            case yp4 => intro W hSw; subst hSw; go_simp; try with_reducible rfl
            try simp only [Act.put, List.setIfInBounds_toArray, List.set_cons_zero, List.set_cons_succ]
            refine takeL 5 (v := ?vp5) rfl (by kernel_rfl) (by kernel_rfl) (by kernel_rfl) (by kernel_rfl) (by kernel_rfl) (fun _ _ _ h => h) hH rfl ?yp5 ?rp5
            case yp5 => intro W hSw; subst hSw; go_simp; try with_reducible rfl
            try simp only [Act.put, List.setIfInBounds_toArray, List.set_cons_zero, List.set_cons_succ]
            refine takeL 6 (v := ?vp6) rfl (by kernel_rfl) (by kernel_rfl) (by kernel_rfl) (by kernel_rfl) (by kernel_rfl) (fun _ _ _ h => h) hH rfl ?yp6 ?rp6
            case yp6 => intro W hSw; subst hSw; go_simp; try with_reducible rfl
            try simp only [Act.put, List.setIfInBounds_toArray, List.set_cons_zero, List.set_cons_succ]
            refine takeL 7 (v := ?vp7) rfl (by kernel_rfl) (by kernel_rfl) (by kernel_rfl) (by kernel_rfl) (by kernel_rfl) (fun _ _ _ h => h) hH rfl ?yp7 ?rp7
            case yp7 => intro W hSw; subst hSw; go_simp; try with_reducible rfl
            try simp only [Act.put, List.setIfInBounds_toArray, List.set_cons_zero, List.set_cons_succ]
            refine takeL 8 (v := ?vp8) rfl (by kernel_rfl) (by kernel_rfl) (by kernel_rfl) (by kernel_rfl) (by kernel_rfl) (fun _ _ _ h => h) hH rfl ?yp8 ?rp8
            case yp8 => intro W hSw; subst hSw; go_simp; try with_reducible rfl
            try simp only [Act.put, List.setIfInBounds_toArray, List.set_cons_zero, List.set_cons_succ]
            refine takeL 9 (v := ?vp9) rfl (by kernel_rfl) (by kernel_rfl) (by kernel_rfl) (by kernel_rfl) (by kernel_rfl) (fun _ _ _ h => h) hH rfl ?yp9 ?rp9
            case yp9 => intro W hSw; subst hSw; go_simp; try with_reducible rfl
            try simp only [Act.put, List.setIfInBounds_toArray, List.set_cons_zero, List.set_cons_succ]
            refine takeL 10 (v := ?vp10) rfl (by kernel_rfl) (by kernel_rfl) (by kernel_rfl) (by kernel_rfl) (by kernel_rfl) (fun _ _ _ h => h) hH rfl ?yp10 ?rp10
            case yp10 => intro W hSw; subst hSw; go_simp; try with_reducible rfl
            try simp only [Act.put, List.setIfInBounds_toArray, List.set_cons_zero, List.set_cons_succ]
            refine takeL 11 (v := ?vp11) rfl (by kernel_rfl) (by kernel_rfl) (by kernel_rfl) (by kernel_rfl) (by kernel_rfl) (fun _ _ _ h => h) hH rfl ?yp11 ?rp11
            case yp11 => intro W hSw; subst hSw; go_simp; try with_reducible rfl
            try simp only [Act.put, List.setIfInBounds_toArray, List.set_cons_zero, List.set_cons_succ]
            refine takeL 12 (v := ?vp12) rfl (by kernel_rfl) (by kernel_rfl) (by kernel_rfl) (by kernel_rfl) (by kernel_rfl) (fun _ _ _ h => h) hH rfl ?yp12 ?rp12
            case yp12 => intro W hSw; subst hSw; go_simp; try with_reducible rfl
            try simp only [Act.put, List.setIfInBounds_toArray, List.set_cons_zero, List.set_cons_succ]
            refine takeL 13 (v := ?vp13) rfl (by kernel_rfl) (by kernel_rfl) (by kernel_rfl) (by kernel_rfl) (by kernel_rfl) (fun _ _ _ h => h) hH rfl ?yp13 ?rp13
            case yp13 => intro W hSw; subst hSw; go_simp; try with_reducible rfl
            try simp only [Act.put, List.setIfInBounds_toArray, List.set_cons_zero, List.set_cons_succ]
            refine takeL 14 (v := ?vp14) rfl (by kernel_rfl) (by kernel_rfl) (by kernel_rfl) (by kernel_rfl) (by kernel_rfl) (fun _ _ _ h => h) hH rfl ?yp14 ?rp14
            case yp14 => intro W hSw; subst hSw; go_simp; try with_reducible rfl
            try simp only [Act.put, List.setIfInBounds_toArray, List.set_cons_zero, List.set_cons_succ]
            refine takeL 15 (v := ?vp15) rfl (by kernel_rfl) (by kernel_rfl) (by kernel_rfl) (by kernel_rfl) (by kernel_rfl) (fun _ _ _ h => h) hH rfl ?yp15 ?rp15
            case yp15 => intro W hSw; subst hSw; go_simp; try with_reducible rfl
            try simp only [Act.put, List.setIfInBounds_toArray, List.set_cons_zero, List.set_cons_succ]
            refine callL 16 rfl (by kernel_rfl) rfl (fun K hK => ?_)
            go_simp
            go_at_call 62
            refine (HF1.out wr.drew (Hg1.out.under hb0)).mono ?_
            rintro e wx ⟨rfl, rfl⟩
            rw [Hfz.out]
            refine hK.out _ _ rfl (fun hH => ?_)
            clear hK K
            try simp only [Act.put, List.setIfInBounds_toArray, List.set_cons_zero, List.set_cons_succ]
            refine takeL 17 (v := ?vp17) rfl (by kernel_rfl) (by kernel_rfl) (by kernel_rfl) (by kernel_rfl) (by kernel_rfl) (fun _ _ _ h => h) hH rfl ?yp17 ?rp17
            case yp17 => intro W hSw; subst hSw; go_simp; try with_reducible rfl
            try simp only [Act.put, List.setIfInBounds_toArray, List.set_cons_zero, List.set_cons_succ]
            refine lastL rfl (by kernel_rfl) (by kernel_rfl) (by kernel_rfl) rfl (fun K hK => ?_)
            go_simp
            refine hK.out _ _ ?_
            clear hK K
            try simp only [Act.put, List.setIfInBounds_toArray, List.set_cons_zero, List.set_cons_succ]
            go_wp2
            go_roundw
            case rel => exact ⟨k + 1, bs'.set j true, by omega, by go_num, by rw [List.length_set]; exact hbl', Hs2.out, Hst.out.1, Hbel'.out.drew.grown Hst.out.2 (by simp only [World.drew]; exact Nat.le_trans Hbel'.out.size (Nat.le_refl _)) (fun g' e => by cases e; exact Nat.le_refl _)⟩
            case measure => simp [intOf]; omega
          | false =>
            rw [hbv] at hin hbm
            have Hr := Lib.hid ((fromB_off (g := g) (x := x) (k := k) hbm).symm.trans Hfr.out)
            clear hbc hbf hbm hbv
            go_wp2
            go_roundw
            case rel => exact ⟨m, bs', by omega, by first | rfl | go_num, hbl', by rw [Hr.out]; exact Hres2.out, Hown'.out, Hbel'.out⟩
            case measure => simp [intOf]
        · have hke : k = x.ps.length := by omega
          subst hke
          have Hr := Lib.hid (fromB_end.symm.trans Hfr.out)
          clear hbc hbf hbm hin
          go_wp2
          go_roundw
          case rel => exact ⟨m, bs', by omega, by first | rfl | go_num, hbl', by rw [Hr.out]; exact Hres2.out, Hown'.out, Hbel'.out⟩
          case measure => simp [intOf]

theorem pastB_len (g : List Vx) (a : Int) : (pastB g a).length = g.length := by
  have hf : ∀ (r : Int) (ps : List Int) (bs : List Bool), (ps.foldl (putB g r) bs).length = bs.length := by
    intro r ps
    induction ps with
    | nil => intro bs; rfl
    | cons p ps ih => intro bs; rw [List.foldl_cons, ih, putB_len]
  have hd : ∀ (n : Nat) (bs : List Bool), (downB g n bs).length = bs.length := by
    intro n
    induction n with
    | zero => intro bs; rfl
    | succ n ih =>
      intro bs
      rw [downB, ih]
      unfold fromB
      split
      · exact hf _ _ _
      · rfl
  unfold pastB
  split
  · simp
  · rw [hd]; simp

/-- The places of truth below n. -/
def idxTo (bs : List Bool) (n : Nat) : List Int := ((List.range n).filter fun i => bs.getD i false).map Int.ofNat
theorem idxTo_zero (bs : List Bool) : idxTo bs 0 = [] := rfl
theorem idxTo_yes {bs : List Bool} {n : Nat} (h : bs.getD n false = true) : idxTo bs (n + 1) = idxTo bs n ++ [(n : Int)] := by simp only [idxTo, List.range_succ, List.filter_append, List.map_append, List.filter_cons, h]; rfl
theorem idxTo_no {bs : List Bool} {n : Nat} (h : bs.getD n false = false) : idxTo bs (n + 1) = idxTo bs n := by simp only [idxTo, List.range_succ, List.filter_append, List.map_append, List.filter_cons, h]; simp
theorem idxTo_len (bs : List Bool) (n : Nat) : (idxTo bs n).length ≤ n := by
  unfold idxTo
  rw [List.length_map]
  exact Nat.le_trans (List.length_filter_le _ _) (by simp)
def gpZ (c : List Int) (g : List Vx) (r a : Int) : List Int := if graphB c g = true then idxTo (pastB g (findZ g r a)) g.length else []
theorem gpZ_len (c : List Int) (g : List Vx) (r a : Int) : (gpZ c g r a).length ≤ g.length := by
  unfold gpZ
  split
  · exact idxTo_len _ _
  · simp

end Go.Proofs.Ythnbjdijcpcafaa

/- Places of a graph by round and author, and a graph whose vertices are linked by pointers: how it lies in memory, what stays of it when other memory is made or written; no conditions. -/
namespace Go.Proofs.Ythnbjdijcpcafaa
open Go.RowKit

/-- The number of the place of a round and an author. -/
def plN (r a : Int) : Nat := 1 + (r.toNat * 7 + a.toNat)
/-- Before the place (r, a). -/
def plB (r a : Nat) (v : Vx) : Bool := decide (v.r < r ∨ v.r = r ∧ v.a < a)
def inPl (v : Vx) : Prop := 0 ≤ v.r ∧ v.r ≤ 30 ∧ 0 ≤ v.a ∧ v.a ≤ 6
theorem plN_inj {r a r' a' : Int} (hr : 0 ≤ r) (ha : 0 ≤ a) (ha' : a ≤ 6) (hr2 : 0 ≤ r') (ha2 : 0 ≤ a') (ha2' : a' ≤ 6) (h : plN r a = plN r' a') : r = r' ∧ a = a' := by
  unfold plN at h; omega
theorem plN_bd {r a : Int} (h : r ≤ 30) (ha : a ≤ 6) : 1 ≤ plN r a ∧ plN r a < 218 := by unfold plN; omega
/-- What stands before a place. -/
def outZ (g : List Vx) (r a : Nat) : List Vx := g.filter (plB r a)
def Srt (g : List Vx) : Prop := g.Pairwise fun a b => befB a b = true
theorem outZ_zero {g : List Vx} (h : ∀ v ∈ g, inPl v) : outZ g 0 0 = [] := by
  unfold outZ
  rw [List.filter_eq_nil_iff]
  intro v hv
  have := h v hv
  unfold inPl at this
  unfold plB
  simp; omega
theorem outZ_row {g : List Vx} (h : ∀ v ∈ g, inPl v) (r : Nat) : outZ g r 7 = outZ g (r + 1) 0 := by
  unfold outZ
  refine List.filter_congr fun v hv => ?_
  have := h v hv
  unfold inPl at this
  unfold plB
  rw [Bool.eq_iff_iff, decide_eq_true_iff, decide_eq_true_iff]; omega
theorem outZ_end {g : List Vx} (h : ∀ v ∈ g, inPl v) : outZ g 31 0 = g := by
  unfold outZ
  rw [List.filter_eq_self]
  intro v hv
  have := h v hv
  unfold inPl at this
  unfold plB
  simp; omega
theorem outZ_len (g : List Vx) (r a : Nat) : (outZ g r a).length ≤ g.length := List.length_filter_le _ _
theorem befB_iff {x y : Vx} : befB x y = true ↔ (x.r < y.r ∨ x.r = y.r ∧ x.a < y.a) := by unfold befB; exact decide_eq_true_iff
theorem outZ_step {g : List Vx} (h : Srt g) (r a : Nat) : outZ g r (a + 1) = outZ g r a ++ g.filter (sameRA r a) := by
  unfold outZ
  induction g with
  | nil => rfl
  | cons x g ih =>
    have hx := (List.pairwise_cons.1 h).1
    have ih := ih (List.pairwise_cons.1 h).2
    by_cases hp : plB r a x = true
    · have h1 : plB r (a + 1) x = true := by unfold plB at hp ⊢; simp at hp ⊢; omega
      have h2 : sameRA r a x = false := by unfold plB at hp; unfold sameRA; simp at hp ⊢; omega
      rw [List.filter_cons, if_pos h1, List.filter_cons, if_pos hp, List.filter_cons (p := sameRA r a), h2, ih]; rfl
    · have hno : g.filter (plB r a) = [] := by
        rw [List.filter_eq_nil_iff]
        intro v hv
        have hb := befB_iff.1 (hx v hv)
        unfold plB at hp ⊢
        simp at hp ⊢
        omega
      rw [hno, List.nil_append] at ih
      rw [List.filter_cons, List.filter_cons (p := plB r a), if_neg hp, hno, List.nil_append, List.filter_cons (p := sameRA r a), ih]
      have e : plB r (a + 1) x = sameRA r a x := by
        unfold plB sameRA at *
        simp at hp
        rw [Bool.eq_iff_iff, decide_eq_true_iff, decide_eq_true_iff]
        omega
      rw [e]
theorem srt_uni {g : List Vx} (h : Srt g) {x y : Vx} (hx : x ∈ g) (hy : y ∈ g) (hr : x.r = y.r) (ha : x.a = y.a) : x = y := by
  induction g with
  | nil => cases hx
  | cons z g ih =>
    have hz := (List.pairwise_cons.1 h).1
    rcases List.mem_cons.1 hx with rfl | hx'
    · rcases List.mem_cons.1 hy with rfl | hy'
      · rfl
      · have := befB_iff.1 (hz y hy'); omega
    · rcases List.mem_cons.1 hy with rfl | hy'
      · have := befB_iff.1 (hz x hx'); omega
      · exact ih (List.pairwise_cons.1 h).2 hx' hy'
theorem filter_uni {g : List Vx} (h : Srt g) {x : Vx} (hx : x ∈ g) : g.filter (sameRA x.r x.a) = [x] := by
  induction g with
  | nil => cases hx
  | cons z g ih =>
    have hz := (List.pairwise_cons.1 h).1
    have hsame : ∀ v, sameRA x.r x.a v = true ↔ v.r = x.r ∧ v.a = x.a := fun v => by unfold sameRA; exact decide_eq_true_iff
    rcases List.mem_cons.1 hx with rfl | hx'
    · rw [List.filter_cons, if_pos ((hsame _).2 ⟨rfl, rfl⟩)]
      congr 1
      rw [List.filter_eq_nil_iff]
      intro v hv e
      have := (hsame v).1 e
      have := befB_iff.1 (hz v hv); omega
    · rw [List.filter_cons, if_neg, ih (List.pairwise_cons.1 h).2 hx']
      intro e
      have := (hsame z).1 e
      have := befB_iff.1 (hz x hx'); omega
theorem filter_none {g : List Vx} {r a : Int} (h : ∀ v ∈ g, ¬ (v.r = r ∧ v.a = a)) : g.filter (sameRA r a) = [] := by
  rw [List.filter_eq_nil_iff]
  intro v hv e
  exact h v hv (of_decide_eq_true e)
theorem outZ_yes {g : List Vx} (h : Srt g) {r a : Nat} {x : Vx} (hx : x ∈ g) (hr : x.r = r) (ha : x.a = a) : outZ g r (a + 1) = outZ g r a ++ [x] := by
  rw [outZ_step h, ← hr, ← ha, filter_uni h hx]
theorem outZ_no {g : List Vx} (h : Srt g) {r a : Nat} (hn : ∀ v ∈ g, ¬ (v.r = r ∧ v.a = a)) : outZ g r (a + 1) = outZ g r a := by
  rw [outZ_step h, filter_none hn, List.append_nil]

/-! finding by a place -/
theorem findZ_mem {g : List Vx} (h : Srt g) {x : Vx} (hx : x ∈ g) : ∃ k : Nat, ∃ hk : k < g.length, findZ g x.r x.a = k ∧ g[k] = x := by
  rcases findZ_cases g x.r x.a with ⟨_, hno⟩ | ⟨k, hk, e, hs, _⟩
  · have := hno x hx; unfold sameRA at this; simp at this
  · refine ⟨k, hk, e, srt_uni h (List.getElem_mem hk) hx ?_ ?_⟩ <;> (unfold sameRA at hs; simp at hs; omega)
theorem findZ_none {g : List Vx} {r a : Int} (h : ∀ v ∈ g, ¬ (v.r = r ∧ v.a = a)) : findZ g r a = -1 := by
  rcases findZ_cases g r a with ⟨e, _⟩ | ⟨k, hk, _, hs, _⟩
  · exact e
  · exact absurd (of_decide_eq_true hs) (h _ (List.getElem_mem hk))

/-! adding by a place -/
theorem bef_total {x y : Vx} (h : ¬ (x.r = y.r ∧ x.a = y.a)) (hb : befB x y = false) : befB y x = true := by
  unfold befB at hb; simp at hb
  refine befB_iff.2 ?_; omega
theorem ins_mem {g : List Vx} {x y : Vx} : y ∈ insG g x ↔ y ∈ g ∨ y = x := by
  unfold insG
  rw [List.mem_append, List.mem_append, List.mem_singleton]
  constructor
  · rintro ((h | h) | h)
    · exact .inl (List.mem_of_mem_take h)
    · exact .inr h
    · exact .inl (List.mem_of_mem_drop h)
  · rintro (h | h)
    · rw [← List.take_append_drop (insN g x) g, List.mem_append] at h
      rcases h with h | h
      · exact .inl (.inl h)
      · exact .inr h
    · exact .inl (.inr h)
theorem ins_srt {g : List Vx} {x : Vx} (h : Srt g) (hn : ∀ v ∈ g, ¬ (v.r = x.r ∧ v.a = x.a)) : Srt (insG g x) := by
  unfold Srt insG insN at *
  induction g with
  | nil => simp
  | cons z g ih =>
    obtain ⟨hz, hg⟩ := List.pairwise_cons.1 h
    rw [List.findIdx_cons]
    by_cases hb : befB z x = true
    · simp only [hb, Bool.not_true, cond_false, List.take_succ_cons, List.drop_succ_cons, List.cons_append]
      refine List.pairwise_cons.2 ⟨fun v hv => ?_, ih hg (fun v hv => hn v (List.mem_cons_of_mem _ hv))⟩
      rcases (ins_mem (g := g) (x := x)).1 hv with hv | rfl
      · exact hz v hv
      · exact hb
    · have hb' : befB z x = false := by simpa using hb
      simp only [hb', Bool.not_false, cond_true, List.take_zero, List.drop_zero, List.nil_append, List.singleton_append]
      have hxz := bef_total (hn z (by simp)) hb'
      refine List.pairwise_cons.2 ⟨fun v hv => ?_, h⟩
      rcases List.mem_cons.1 hv with rfl | hv
      · exact hxz
      · exact bef_trans hxz (hz v hv)
theorem ins_last {g : List Vx} {x : Vx} (h : ∀ v ∈ g, befB v x = true) : insG g x = g ++ [x] := by
  have : insN g x = g.length := by
    unfold insN
    exact List.findIdx_eq_length.2 fun y hy => by simp [h y hy]
  unfold insG; rw [this]; simp
theorem addG_lenP (g : List Vx) (x : Vx) : (addG g x).length ≤ g.length + 1 := by
  unfold addG
  split
  · unfold insG
    rw [List.length_append, List.length_append, List.length_take, List.length_drop]
    simp; omega
  · omega
theorem addG_memP {g : List Vx} {x y : Vx} (h : y ∈ addG g x) : y ∈ g ∨ y = x := by
  unfold addG at h
  split at h
  · exact ins_mem.1 h
  · exact .inl h
def arrP (n : Nat) (f : Nat → Value) : Array Value := ((List.range n).map f).toArray
theorem arrP_size (n : Nat) (f : Nat → Value) : (arrP n f).size = n := by simp [arrP]
theorem arrP_get {n : Nat} {f : Nat → Value} {j : Nat} (h : j < n) : (arrP n f)[j]? = some (f j) := by simp [arrP, h]
theorem arrP_set {n : Nat} {f : Nat → Value} {k : Nat} {v : Value} : (arrP n f).setIfInBounds k v = arrP n fun i => if i = k then v else f i := by
  apply Array.ext
  · simp [arrP]
  · intro j h1 h2
    have hj : j < n := by simpa [arrP] using h2
    rw [Array.getElem_setIfInBounds (by simpa [arrP] using hj)]
    by_cases e : k = j
    · subst e; simp [arrP]
    · have e' : ¬ j = k := fun h => e h.symm
      simp [arrP, e, e']

def ptrV (q : Nat) : Value := .pointer (some ⟨q, 0, none⟩)
theorem ptrV_one (q : Nat) : (ptrV q).oneCell' = true := rfl
theorem ptrV_none (q : Nat) : ptrV q ≠ .pointer none := by intro h; cases h
/-- A list of pointers of the call's own. -/
def OwnP (E : TypeId) (w : World) (B : Nat) (v : Value) (qs : List Nat) : Prop := w.ownsRow B E 1 v qs.length (qs.map ptrV)
section
variable {E : TypeId} {w w' : World} {B : Nat} {v : Value} {qs : List Nat}
theorem OwnP.nil (E : TypeId) (w : World) (B : Nat) : OwnP E w B (.slice none 0 0) [] := World.ownsRow_nil _ _ _ _
theorem OwnP.kept {row : Option Nat} (h : OwnP E w B v qs) (hg : w.grownBy w' row) (hne : v.ownBlock = none ∨ v.ownBlock ≠ row) : OwnP E w' B v qs := World.ownsRow.kept h hg hne
theorem OwnP.lt (h : OwnP E w B v qs) : ∀ k, v.ownBlock = some k → B ≤ k ∧ k < w.heap.size := World.ownsRow.lt h
theorem OwnP.below (h : OwnP E w B v qs) (hg : Below w.heap.size w w') : OwnP E w' B v qs := h.kept (below_grown hg) (by cases hv : v.ownBlock <;> simp)
theorem OwnP.slice (h : OwnP E w B v qs) : ∃ a cap, v = .slice a qs.length cap ∧ qs.length ≤ maxLen := by
  rcases h.2 with ⟨rfl, h0⟩ | ⟨g, cap, cur, rfl, hb, hg, hn, hm, hs, ht⟩
  · exact ⟨none, 0, by rw [h0], by rw [h0]; simp⟩
  · exact ⟨_, cap, rfl, by omega⟩
theorem OwnP.cell (h : OwnP E w B v qs) (j : Nat) (hj : j < qs.length) : ∃ g cap, v = .slice (some ⟨g, 0, none⟩) qs.length cap ∧ B ≤ g ∧ g < w.heap.size ∧ w.cell? ⟨g, j, none⟩ = some (ptrV qs[j]) := by
  rcases h.2 with ⟨rfl, h0⟩ | ⟨g, cap, cur, rfl, hb, hg, hn, hm, hs, ht⟩
  · omega
  · refine ⟨g, cap, rfl, hb, (Array.getElem?_eq_some_iff.1 hg).1, ?_⟩
    have hc := World.ownsRow.cells (w := w) (base := B) (e := E) (size := 1) (v := .slice (some ⟨g, 0, none⟩) qs.length cap) (n := qs.length) (xs := qs.map ptrV) h (g := g) rfl j (ptrV qs[j]) (by simp [hj])
    rwa [addr_add] at hc
end

theorem cells_ptr (w : World) (E : TypeId) (q : Nat) : ∀ j u, [ptrV q][j]? = some u → (w.alloc (.cells #[ptrV q] E)).cell? ((⟨w.heap.size, 0, none⟩ : Addr).add j) = some u := by
  intro j u hu
  match j, hu with
  | 0, hu =>
    simp at hu; subst hu
    rw [addr_add, World.cell?_alloc_at _ _ _ _ rfl]; rfl

/-- A vertex with pointers to its parents: its numbers and list as they were at first, the pointers of the call's own. -/
structure Nd (w0 w : World) (hi G : Nat) (h : Nat → Value) (q : Nat) (y : Vx) : Prop where
  lo : w0.heap.size ≤ q
  lt : q < hi
  ne : q ≠ G
  ex : ∃ pa pc pv qs, Str w q 81 #[.int .i64 y.r, .int .i64 y.a, .slice pa y.ps.length pc, .int .i64 y.d, pv] ∧ IntsAt w0 pa y.ps ∧ SrcAt w0 pa pc y.ps ∧ OwnP 73 w w0.heap.size pv qs ∧
    (∀ b, pv.ownBlock = some b → b ≠ G ∧ b < hi) ∧ qs.length = y.ps.length ∧ ∀ j (hj : j < qs.length) (hj' : j < y.ps.length), h (plN (y.r - 1) y.ps[j]) = ptrV qs[j]
theorem Nd.kept {w0 w w' : World} {hi G q : Nat} {h : Nat → Value} {y : Vx} {row : Option Nat} (n : Nd w0 w hi G h q y) (hg : w.grownBy w' row) (hrow : ∀ m, row = some m → hi ≤ m ∨ m = G) : Nd w0 w' hi G h q y := by
  obtain ⟨pa, pc, pv, qs, s, i, c, o, ob, l, p⟩ := n.ex
  refine ⟨n.lo, n.lt, n.ne, pa, pc, pv, qs, s.kept hg fun e => ?_, i, c, o.kept hg ?_, ob, l, p⟩
  · have := n.lt; have := n.ne; rcases hrow q e.symm with h | h <;> omega
  · cases hv : pv.ownBlock with
    | none => exact .inl rfl
    | some b =>
      refine .inr fun e => ?_
      have := ob b hv
      rcases hrow b e.symm with h | h <;> omega
/-- A graph: the places of its block point to its vertices. -/
structure Lk (w0 w : World) (hi G : Nat) (mv : Value) (h : Nat → Value) (g : List Vx) : Prop where
  lo : w0.heap.size ≤ G
  lt : G < hi
  le : hi ≤ w.heap.size
  str : Str w G 77 (arrP 218 h)
  mem : h 0 = mv
  has : ∀ y ∈ g, ∃ q, h (plN y.r y.a) = ptrV q ∧ Nd w0 w hi G h q y
  non : ∀ r a : Int, 0 ≤ r → r ≤ 30 → 0 ≤ a → a ≤ 6 → (∀ y ∈ g, ¬ (y.r = r ∧ y.a = a)) → h (plN r a) = .pointer none
theorem Lk.kept {w0 w w' : World} {hi G : Nat} {mv : Value} {h : Nat → Value} {g : List Vx} {row : Option Nat} (l : Lk w0 w hi G mv h g) (hg : w.grownBy w' row) (hrow : ∀ m, row = some m → hi ≤ m) : Lk w0 w' hi G mv h g := by
  refine ⟨l.lo, l.lt, Nat.le_trans l.le hg.size, l.str.kept hg fun e => ?_, l.mem, fun y hy => ?_, l.non⟩
  · have := hrow G e.symm; have := l.lt; omega
  · obtain ⟨q, e, n⟩ := l.has y hy
    exact ⟨q, e, n.kept hg fun m e => .inl (hrow m e)⟩
theorem Lk.under {w0 w w' : World} {hi G : Nat} {mv : Value} {h : Nat → Value} {g : List Vx} (l : Lk w0 w hi G mv h g) (hb : Below w.heap.size w w') : Lk w0 w' hi G mv h g := l.kept (below_grown hb) fun _ e => by cases e
theorem Lk.cell {w0 w : World} {hi G : Nat} {mv : Value} {h : Nat → Value} {g : List Vx} (l : Lk w0 w hi G mv h g) {k : Nat} (hk : k < 218) : w.cell? ⟨G, k, none⟩ = some (h k) := l.str.cell k (arrP_get hk)
theorem Lk.same {w0 w : World} {hi G : Nat} {mv : Value} {h : Nat → Value} {g g' : List Vx} (l : Lk w0 w hi G mv h g) (hs : ∀ y, y ∈ g' ↔ y ∈ g) : Lk w0 w hi G mv h g' :=
  ⟨l.lo, l.lt, l.le, l.str, l.mem, fun y hy => l.has y ((hs y).1 hy), fun r a h1 h2 h3 h4 hn => l.non r a h1 h2 h3 h4 fun y hy => hn y ((hs y).2 hy)⟩
/-- An empty graph. -/
theorem Lk.new {w0 w' : World} {G hi : Nat} {mv : Value} (hs : Str w' G 77 (arrP 218 fun i => if i = 0 then mv else .pointer none)) (hG : w0.heap.size ≤ G) (hhi : G < hi) (hle : hi ≤ w'.heap.size) :
    Lk w0 w' hi G mv (fun i => if i = 0 then mv else .pointer none) [] :=
  ⟨hG, hhi, hle, hs, by simp, (fun y hy => by cases hy), fun r a h1 h2 h3 h4 _ => by rw [if_neg]; unfold plN; omega⟩
/-- A vertex is put into its place. -/
theorem Lk.put {w0 w w1 : World} {hi G q : Nat} {mv : Value} {h : Nat → Value} {g g' : List Vx} {x : Vx} (l : Lk w0 w hi G mv h g) (hg : w.grownBy w1 none) (hx : inPl x) (hno : ∀ y ∈ g, ¬ (y.r = x.r ∧ y.a = x.a))
    (hq : hi ≤ q) {hi2 : Nat} (hq2 : q < hi2) (hh : hi ≤ hi2) (hz : hi2 ≤ w1.heap.size) {pa : Option Addr} {pc : Nat} {pv : Value} {qs : List Nat} (hs : Str w1 q 81 #[.int .i64 x.r, .int .i64 x.a, .slice pa x.ps.length pc, .int .i64 x.d, pv]) (hi' : IntsAt w0 pa x.ps) (hsr : SrcAt w0 pa pc x.ps)
    (ho : OwnP 73 w1 w0.heap.size pv qs) (hob : ∀ b, pv.ownBlock = some b → b ≠ G ∧ b < hi2) (hl : qs.length = x.ps.length) (hp : ∀ j (hj : j < qs.length) (hj' : j < x.ps.length), h (plN (x.r - 1) x.ps[j]) = ptrV qs[j]) (hg' : ∀ y, y ∈ g' ↔ y ∈ g ∨ y = x) :
    Lk w0 (w1.setCell ⟨G, plN x.r x.a, none⟩ (ptrV q)) hi2 G mv (fun i => if i = plN x.r x.a then ptrV q else h i) g' := by
  have hb := plN_bd hx.2.1 hx.2.2.2
  have hnil : h (plN x.r x.a) = .pointer none := l.non x.r x.a hx.1 hx.2.1 hx.2.2.1 hx.2.2.2 hno
  have hsafe : ∀ k p, h k = ptrV p → k ≠ plN x.r x.a := fun k p e e2 => by rw [e2, hnil] at e; cases e
  have hgs := grownBy_set w1 G (plN x.r x.a) (ptrV q)
  have hgG : q ≠ G := by have := l.lt; omega
  refine ⟨l.lo, Nat.lt_of_lt_of_le l.lt hh, by rw [World.size_setCell]; exact hz, ?_, ?_, fun y hy => ?_, fun r a h1 h2 h3 h4 hn => ?_⟩
  · have := (l.str.kept hg (by simp)).set (plN x.r x.a) (ptrV q)
    rwa [arrP_set] at this
  · rw [if_neg (by omega)]; exact l.mem
  · rcases (hg' y).1 hy with hy | rfl
    · obtain ⟨p, e, n⟩ := l.has y hy
      have n1 := (n.kept hg fun m e => by cases e).kept hgs fun m e => by cases e; exact .inr rfl
      refine ⟨p, by rw [if_neg (hsafe _ _ e)]; exact e, n1.lo, Nat.lt_of_lt_of_le n1.lt hh, n1.ne, ?_⟩
      obtain ⟨pa', pc', pv', qs', s, i, c, o, ob, l', p'⟩ := n1.ex
      refine ⟨pa', pc', pv', qs', s, i, c, o, fun b hb => ⟨(ob b hb).1, Nat.lt_of_lt_of_le (ob b hb).2 hh⟩, l', fun j hj hj' => ?_⟩
      have := p' j hj hj'
      rw [if_neg (hsafe _ _ this)]; exact this
    · refine ⟨q, by simp, Nat.le_trans l.lo (Nat.le_trans (Nat.le_of_lt l.lt) hq), hq2, hgG, pa, pc, pv, qs, hs.kept hgs (by simpa using hgG), hi', hsr, ho.kept hgs ?_, hob, hl, fun j hj hj' => ?_⟩
      · cases hv : pv.ownBlock with
        | none => exact .inl rfl
        | some b => refine .inr fun e => (hob b hv).1 ?_; cases e; rfl
      · have := hp j hj hj'
        rw [if_neg (hsafe _ _ this)]; exact this
  · skip
    rw [if_neg, l.non r a h1 h2 h3 h4 fun y hy => hn y ((hg' y).2 (.inl hy))]
    intro e
    obtain ⟨e1, e2⟩ := plN_inj h1 h3 h4 hx.1 hx.2.2.1 hx.2.2.2 e
    exact hn x ((hg' x).2 (.inr rfl)) ⟨e1.symm, e2.symm⟩
end Go.Proofs.Ythnbjdijcpcafaa

/- What impl's functions of digests and hash trees answer, each by a walk of its text: the answers are those of plain functions on lists; conditions: a list that is read has fewer than 2^40 elements and fits its capacity, the numbers are ints. -/
namespace Go.Proofs.Ythnbjdijcpcafaa
open Go.RowKit

theorem impl_isDigest (n : Int) (w : World) : Calls Try.prog 52 #[.int .i64 n] w fun e w' => e = .returned (.bool (digB n)) ∧ w = w' := by
  by_cases h : 0 ≤ n
  · have Hf := Lib.hid (show digB n = decide (n < 991) by unfold digB; rw [Bool.eq_iff_iff]; simp only [decide_eq_true_eq]; omega)
    go_enter Try.func52, Try.ntmps52
    go_wp2
    go_ret
    exact ⟨ret_bool Hf.out.symm, rfl⟩
  · have Hf := Lib.hid (show digB n = false by unfold digB; exact decide_eq_false (by omega))
    go_enter Try.func52, Try.ntmps52
    go_wp2
    go_ret
    exact ⟨ret_bool Hf.out.symm, rfl⟩

end Go.Proofs.Ythnbjdijcpcafaa

/- The library's test whether two lists of ints are the same, and its copy of a list of ints, by walks of their texts; conditions: the lists have fewer than 2^40 elements. -/
namespace Go.Proofs.Ythnbjdijcpcafaa
open Go.RowKit

def EqTo (xs ys : List Int) (k : Nat) : Prop := ∀ j (h : j < xs.length) (h' : j < ys.length), j < k → xs[j] = ys[j]
theorem eqTo_step {xs ys : List Int} {k : Nat} (h : EqTo xs ys k) (hk : k < xs.length) (hk' : k < ys.length) (e : xs[k] = ys[k]) : EqTo xs ys (k + 1) := by
  intro j hj hj' hjk
  by_cases ej : j = k
  · subst ej; exact e
  · exact h j hj hj' (by omega)
theorem eqTo_all {xs ys : List Int} {k : Nat} (h : EqTo xs ys k) (hk : xs.length ≤ k) (hl : xs.length = ys.length) : xs = ys :=
  List.ext_getElem hl fun j h1 h2 => h j h1 h2 (by omega)

theorem lib_Equal (a a' : Option Addr) (c c' : Nat) (xs ys : List Int) (w : World) (hbig : xs.length ≤ 1099511627776) (hbig' : ys.length ≤ 1099511627776) (hc : IntsAt w a xs) (hc' : IntsAt w a' ys) :
    Calls Try.prog 65 #[.slice a xs.length c, .slice a' ys.length c'] w fun e w' => e = .returned (.bool (decide (xs = ys))) ∧ Drawn w w' := by
  by_cases hl : xs.length = ys.length
  · rcases hc.len with h0 | ⟨b, off, rfl, hb, hc⟩
    · have Hf := Lib.hid (show decide (xs = ys) = true from decide_eq_true (List.ext_getElem hl fun j h1 h2 => by omega))
      have hl0 : xs.length = 0 := by omega
      rw [← hl, hl0]
      go_enter Try.func65, Try.ntmps65
      go_wp2
      go_loopw [13] (fun i wr => i = .int .i64 0 ∧ Drawn w wr) (fun _ _ => 0)
      case atStart => exact ⟨rfl, Drawn.refl _⟩
      case round =>
        obtain ⟨rfl, hdr⟩ := hrel
        go_wp2
        go_ret
        exact ⟨ret_bool Hf.out.symm, hdr⟩
    · rcases hc'.len with h0 | ⟨b', off', rfl, hb', hc'⟩
      · have Hf := Lib.hid (show decide (xs = ys) = true from decide_eq_true (List.ext_getElem hl fun j h1 h2 => by omega))
        have hl0 : xs.length = 0 := by omega
        rw [← hl, hl0]
        go_enter Try.func65, Try.ntmps65
        go_wp2
        go_loopw [13] (fun i wr => i = .int .i64 0 ∧ Drawn w wr) (fun _ _ => 0)
        case atStart => exact ⟨rfl, Drawn.refl _⟩
        case round =>
          obtain ⟨rfl, hdr⟩ := hrel
          go_wp2
          go_ret
          exact ⟨ret_bool Hf.out.symm, hdr⟩
      have Hl := Lib.hid hl
      rw [← hl]
      clear hl
      have Hc := Lib.hid hc; clear hc
      have Hc' := Lib.hid hc'; clear hc'
      go_enter Try.func65, Try.ntmps65
      go_wp2
      go_loopw [13] (fun i wr => ∃ k : Nat, k ≤ xs.length ∧ i = .int .i64 k ∧ EqTo xs ys k ∧ Drawn w wr) (fun i _ => xs.length - (intOf i).toNat)
      case atStart => exact ⟨0, by omega, rfl, fun j _ _ h => by omega, Drawn.refl _⟩
      case round =>
        obtain ⟨k, hk, rfl, heq, hdr⟩ := hrel
        have Heq := Lib.hid heq; clear heq
        by_cases hlt : k < xs.length
        · have hlt' : k < ys.length := by have := Hl.out; omega
          have c1 := (hdr.cell _).trans (Hc.out k hlt)
          have c2 := (hdr.cell _).trans (Hc'.out k hlt')
          by_cases he : xs[k] = ys[k]
          · have Hs := Lib.hid (eqTo_step Heq.out hlt hlt' he)
            rw [← he] at c2
            clear he
            generalize xs[k] = x at *
            go_wp2_with fail
            go_quiet (fail)
            go_wp2
            go_roundw
            case rel => exact ⟨k + 1, by omega, by go_num, Hs.out, hdr.drewN _⟩
            case measure => simp [intOf]; omega
          · have Hf := Lib.hid (show decide (xs = ys) = false from decide_eq_false fun e => he (by subst e; rfl))
            have hq : (xs[k] != ys[k]) = true := by simpa using he
            clear he
            generalize xs[k] = x at *
            generalize ys[k] = y at *
            go_wp2_with fail
            go_quiet (fail)
            go_wp2
            go_ret
            exact ⟨ret_bool Hf.out.symm, hdr.drewN _⟩
        · have Hf := Lib.hid (show decide (xs = ys) = true from decide_eq_true (eqTo_all Heq.out (by omega) Hl.out))
          go_wp2
          go_ret
          exact ⟨ret_bool Hf.out.symm, hdr⟩
  · have Hf := Lib.hid (show decide (xs = ys) = false from decide_eq_false fun e => hl (by rw [e]))
    have hq : ((xs.length : Int) != (ys.length : Int)) = true := by simp; omega
    clear hc hc'
    go_enter Try.func65, Try.ntmps65
    go_wp2
    go_ret
    exact ⟨ret_bool Hf.out.symm, Drawn.refl _⟩

theorem lib_Clone (hT : IntT Try.prog 23 3) (pa : Option Addr) (pc : Nat) (ps : List Int) (w : World) (hbp : ps.length ≤ 1099511627776) (hs : SrcAt w pa pc ps) (hi : IntsAt w pa ps) :
    Calls Try.prog 66 #[.slice pa ps.length pc] w fun e w' => ∃ v, e = .returned v ∧ Own 3 w' w.heap.size v ps ∧ Below w.heap.size w w' := by
  have hq : ∀ (w : World) (a : Option Addr) (n c n' c' : Nat), (binOp .eql 23 (.slice a n c) (.slice none n' c')).run Try.prog w = .ok (.bool a.isNone) w := fun w a n c n' c' => Lib.run_eql_slice_nil w _ _ a n c n' c' Try.underlying23
  cases pa with
  | none =>
    have hp0 : ps = [] := by
      rcases hi with h | ⟨b, off, e, _⟩
      · exact h
      · cases e
    subst hp0
    clear hs hi
    go_enter Try.func66, Try.ntmps66
    go_wp2
    go_ret
    exact ⟨_, rfl, Own.nil _ _ _, Below.refl _ _⟩
  | some ad =>
    have hb2 : Below w.heap.size w (w.alloc (.cells #[] 3)) := (Below.refl _ _).alloc (Nat.le_refl _) _
    have ho := own_empty 3 w (Nat.le_refl _)
    have hsrc : SrcAt (w.alloc (.cells #[] 3)) (some ad) pc ps := by
      rcases hs with h | ⟨ad', e, hc⟩
      · exact .inl h
      · cases e
        refine .inr ⟨ad, rfl, fun j hj => ?_⟩
        obtain ⟨b, off, e, hb, _⟩ := hi.cell (by omega)
        cases e
        have := hc j hj
        rw [addr_add'] at this ⊢
        exact (hb2.cell (p := ⟨b, off + j, none⟩) hb).trans this
    have hzs : (w.alloc (.cells #[] 3)).heap.size = w.heap.size + 1 := by simp
    have Ho := Lib.hid ho; clear ho
    have Hsrc := Lib.hid hsrc; clear hsrc
    have Hb2 := Lib.hid hb2; clear hb2 hs hi
    go_enter Try.func66, Try.ntmps66
    go_wp2_with (at_builtin; refine wpList_appI hT rfl _ _ rfl w.heap.size (.slice (some ⟨w.heap.size, 0, none⟩) 0 0) [] ps _ _ rfl Ho.out rfl Hsrc.out (by simp; omega) (by rw [hzs]; omega) ?_; intro v5 w5 hown hg5; (rw [List.nil_append] at hown))
    go_ret
    exact ⟨_, rfl, hown, Hb2.out.grown hg5 (by omega) (fun g e => by cases e; exact Nat.le_refl _)⟩

end Go.Proofs.Ythnbjdijcpcafaa

/- impl's small functions of vertices, each by a walk of its text; conditions: lists are shorter than 2^40, and where the text asks it, the committee is valid. -/
namespace Go.Proofs.Ythnbjdijcpcafaa
open Go.RowKit

theorem impl_isRound (n : Int) (w : World) : Calls Try.prog 51 #[.int .i64 n] w fun e w' => e = .returned (.bool (rngB n)) ∧ w = w' := by
  by_cases h : 0 ≤ n
  · have Hf := Lib.hid (show rngB n = decide (n ≤ 30) by unfold rngB; rw [Bool.eq_iff_iff]; simp only [decide_eq_true_eq]; omega)
    go_enter Try.func51, Try.ntmps51
    go_wp2
    go_ret
    exact ⟨ret_bool Hf.out.symm, rfl⟩
  · have Hf := Lib.hid (show rngB n = false by unfold rngB; exact decide_eq_false (by omega))
    go_enter Try.func51, Try.ntmps51
    go_wp2
    go_ret
    exact ⟨ret_bool Hf.out.symm, rfl⟩

def qmB (c ps : List Int) : Bool := membersB c.length ps && decide (quorumZ c ≤ weightZ c ps)
theorem committee_isQuorum (ac : Option Addr) (capc : Nat) (c : List Int) (pa : Option Addr) (pc : Nat) (ps : List Int) (w : World) (hv : validB c = true) (hbig : ps.length ≤ 1099511627776) (hc : IntsAt w ac c) (hp : IntsAt w pa ps) :
    Calls Try.prog 53 #[.slice ac c.length capc, .slice pa ps.length pc] w fun e w' => e = .returned (.bool (qmB c ps)) ∧ w = w' := by
  obtain ⟨hn1, hn7⟩ := validB_len hv
  have H1 := Lib.hid (committee_hasMembers ac capc c.length pa pc ps w (by omega) hbig hp)
  have H2 := Lib.hid (fun (hm : membersB c.length ps = true) => committee_weight ac capc c pa pc ps w hv hm hbig hc hp)
  have H3 := Lib.hid (committee_quorum ac capc c w hv hc)
  clear hc hp
  have Hq := Lib.hid (show qmB c ps = (membersB c.length ps && decide (quorumZ c ≤ weightZ c ps)) from rfl)
  go_enter Try.func53, Try.ntmps53
  go_wp2_with fail
  refine H1.out.mono ?_
  rintro e w1 ⟨rfl, rfl⟩
  cases hm : membersB c.length ps with
  | false =>
    go_wp2
    go_ret
    exact ⟨ret_bool (by rw [Hq.out, hm]; rfl), rfl⟩
  | true =>
    have H2 := Lib.hid (H2.out hm)
    go_wp2_with fail
    refine H2.out.mono ?_
    rintro e w1 ⟨rfl, rfl⟩
    go_wp2_with fail
    refine H3.out.mono ?_
    rintro e w1 ⟨rfl, rfl⟩
    go_wp2
    go_ret
    exact ⟨ret_bool (by rw [Hq.out, hm]; rfl), rfl⟩

theorem vertex_isBefore (x y : Vx) (pa pa' : Option Addr) (pc pc' : Nat) (w : World) :
    Calls Try.prog 59 #[.agg #[.int .i64 x.r, .int .i64 x.a, .slice pa x.ps.length pc, .int .i64 x.d], .agg #[.int .i64 y.r, .int .i64 y.a, .slice pa' y.ps.length pc', .int .i64 y.d]] w fun e w' => e = .returned (.bool (befB x y)) ∧ Below w.heap.size w w' := by
  have hb : Below w.heap.size w ((w.alloc (.cells #[.int .i64 x.r, .int .i64 x.a, .slice pa x.ps.length pc, .int .i64 x.d] 25)).alloc (.cells #[.int .i64 y.r, .int .i64 y.a, .slice pa' y.ps.length pc', .int .i64 y.d] 25)) := ((Below.refl _ w).alloc (Nat.le_refl _) _).alloc (by simp) _
  by_cases h1 : x.r < y.r
  · have hz : befB x y = true := decide_eq_true (.inl h1)
    go_enter Try.func59, Try.ntmps59
    go_wp2
    go_ret
    exact ⟨by first | rfl | exact ret_bool (by first | rfl | rw [hz]), hb⟩
  · have h1' : decide (x.r < y.r) = false := decide_eq_false h1
    by_cases h2 : x.r = y.r
    · have hz : befB x y = decide (x.a < y.a) := by unfold befB; rw [Bool.eq_iff_iff, decide_eq_true_iff, decide_eq_true_iff]; omega
      have h2' : (x.r == y.r) = true := by simpa using h2
      clear h1 h2
      go_enter Try.func59, Try.ntmps59
      go_wp2
      go_ret
      exact ⟨by first | rfl | exact ret_bool (by first | rfl | rw [hz]), hb⟩
    · have hz : befB x y = false := decide_eq_false (by omega)
      have h2' : (x.r == y.r) = false := by simpa using h2
      go_enter Try.func59, Try.ntmps59
      go_wp2
      go_ret
      exact ⟨by first | rfl | exact ret_bool (by first | rfl | rw [hz]), hb⟩

theorem vtx_no1 {c : List Int} {x : Vx} (h : rngB x.r = false) : vtxB c x = false := by unfold vtxB; rw [h]; rfl
theorem vtx_no2 {c : List Int} {x : Vx} (h : ¬ (0 ≤ x.a ∧ x.a < (c.length : Int))) : vtxB c x = false := by
  unfold vtxB; rw [show autB c.length x.a = false from decide_eq_false (by omega)]; simp
theorem vtx_no3 {c : List Int} {x : Vx} (h : digB x.d = false) : vtxB c x = false := by unfold vtxB; rw [h]; simp
theorem vtx_0 {c : List Int} {x : Vx} (h1 : rngB x.r = true) (h2 : 0 ≤ x.a ∧ x.a < (c.length : Int)) (h3 : digB x.d = true) (h0 : x.r = 0) : vtxB c x = decide (x.ps.length = 0) := by
  unfold vtxB quoB
  rw [h1, h3, show autB c.length x.a = true from decide_eq_true (by omega), if_pos h0]
  by_cases hp : x.ps.length = 0
  · have : x.ps = [] := List.eq_nil_of_length_eq_zero hp
    rw [this]; rfl
  · rw [decide_eq_false hp]; simp
theorem vtx_1 {c : List Int} {x : Vx} (h1 : rngB x.r = true) (h2 : 0 ≤ x.a ∧ x.a < (c.length : Int)) (h3 : digB x.d = true) (h0 : ¬ x.r = 0) : vtxB c x = qmB c x.ps := by
  unfold vtxB quoB qmB
  rw [h1, h3, show autB c.length x.a = true from decide_eq_true (by omega), if_neg h0]
  simp
set_option maxHeartbeats 1000000 in
theorem vertex_fits (ac : Option Addr) (capc : Nat) (c : List Int) (x : Vx) (pa : Option Addr) (pc : Nat) (w : World) (hv : validB c = true) (hbig : x.ps.length ≤ 1099511627776) (hc : IntsAt w ac c) (hp : IntsAt w pa x.ps) :
    Calls Try.prog 28 #[.agg #[.int .i64 x.r, .int .i64 x.a, .slice pa x.ps.length pc, .int .i64 x.d], .slice ac c.length capc] w fun e w' => e = .returned (.bool (vtxB c x)) ∧ Below w.heap.size w w' := by
  obtain ⟨hn1, hn7⟩ := validB_len hv
  have hb0 : Below w.heap.size w (w.alloc (.cells #[.int .i64 x.r, .int .i64 x.a, .slice pa x.ps.length pc, .int .i64 x.d] 25)) := (Below.refl _ _).alloc (Nat.le_refl _) _
  have s0 := Str.new w 25 #[.int .i64 x.r, .int .i64 x.a, .slice pa x.ps.length pc, .int .i64 x.d]
  have k0 := s0.cell 0 (v := .int .i64 x.r) rfl
  have k1 := s0.cell 1 (v := .int .i64 x.a) rfl
  have k2 := s0.cell 2 (v := .slice pa x.ps.length pc) rfl
  have k3 := s0.cell 3 (v := .int .i64 x.d) rfl
  have H4 := Lib.hid (committee_isQuorum ac capc c pa pc x.ps _ hv hbig (hc.below hb0) (hp.below hb0))
  have Hb0 := Lib.hid hb0
  have N1 := Lib.hid (vtx_no1 (c := c) (x := x))
  have N2 := Lib.hid (vtx_no2 (c := c) (x := x))
  have N3 := Lib.hid (vtx_no3 (c := c) (x := x))
  have Y0 := Lib.hid (vtx_0 (c := c) (x := x))
  have Y1 := Lib.hid (vtx_1 (c := c) (x := x))
  clear hb0 s0 hc hp
  go_enter Try.func28, Try.ntmps28
  go_wp2_with fail
  generalize w.alloc (.cells #[.int .i64 x.r, .int .i64 x.a, .slice pa x.ps.length pc, .int .i64 x.d] 25) = W0 at *
  refine (impl_isRound x.r W0).mono ?_
  rintro e w1 ⟨rfl, rfl⟩
  cases h1 : rngB x.r with
  | false =>
    have hz := N1.out h1
    go_wp2
    go_ret
    exact ⟨ret_bool (by rw [hz]), Hb0.out⟩
  | true =>
  by_cases h2 : 0 ≤ x.a
  case neg =>
    have Hz := Lib.hid (N2.out (by omega))
    have h2' : x.a < 0 := by omega
    go_wp2
    go_ret
    exact ⟨ret_bool (by rw [Hz.out]), Hb0.out⟩
  by_cases h3 : x.a < (c.length : Int)
  case neg =>
    have Hz := Lib.hid (N2.out (by omega))
    have h3' : (c.length : Int) ≤ x.a := by omega
    go_wp2
    go_ret
    exact ⟨ret_bool (by rw [Hz.out]), Hb0.out⟩
  have h3' : ¬ (c.length : Int) ≤ x.a := by omega
  go_wp2_with fail
  refine (impl_isDigest x.d W0).mono ?_
  rintro e w1 ⟨rfl, rfl⟩
  cases h4 : digB x.d with
  | false =>
    have Hz := Lib.hid (N3.out h4)
    go_wp2
    go_ret
    exact ⟨ret_bool (by rw [Hz.out]), Hb0.out⟩
  | true =>
  by_cases h0 : x.r = 0
  · have Hz := Lib.hid (Y0.out h1 ⟨h2, h3⟩ h4 h0)
    have h0' : (x.r == 0) = true := by simpa using h0
    clear h0 N1 N2 N3 Y0 Y1
    go_wp2
    go_ret
    exact ⟨ret_bool (by rw [Hz.out, Bool.eq_iff_iff, beq_iff_eq, decide_eq_true_iff]; omega), Hb0.out⟩
  · have Hz := Lib.hid (Y1.out h1 ⟨h2, h3⟩ h4 h0)
    have h0' : (x.r == 0) = false := by simpa using h0
    clear N1 N2 N3 Y0 Y1
    go_wp2_with fail
    refine H4.out.mono ?_
    rintro e w1 ⟨rfl, rfl⟩
    go_wp2
    go_ret
    exact ⟨ret_bool (by rw [Hz.out]), Hb0.out⟩

theorem same_yes {x y : Vx} (h1 : x.r = y.r) (h2 : x.a = y.a) (h4 : x.d = y.d) : sameB x y = decide (x.ps = y.ps) := by
  by_cases h : x.ps = y.ps
  · rw [decide_eq_true h]; exact decide_eq_true (vx_ext h1 h2 h h4)
  · rw [decide_eq_false h]; exact decide_eq_false fun e => h (by rw [e])
set_option maxHeartbeats 1000000 in
theorem impl_sameVertex (x y : Vx) (pa pa' : Option Addr) (pc pc' : Nat) (w : World) (hx : x.ps.length ≤ 1099511627776) (hy : y.ps.length ≤ 1099511627776) (hp : IntsAt w pa x.ps) (hp' : IntsAt w pa' y.ps) :
    Calls Try.prog 60 #[.agg #[.int .i64 x.r, .int .i64 x.a, .slice pa x.ps.length pc, .int .i64 x.d], .agg #[.int .i64 y.r, .int .i64 y.a, .slice pa' y.ps.length pc', .int .i64 y.d]] w fun e w' => e = .returned (.bool (sameB x y)) ∧ Below w.heap.size w w' := by
  have hb : Below w.heap.size w ((w.alloc (.cells #[.int .i64 x.r, .int .i64 x.a, .slice pa x.ps.length pc, .int .i64 x.d] 25)).alloc (.cells #[.int .i64 y.r, .int .i64 y.a, .slice pa' y.ps.length pc', .int .i64 y.d] 25)) := ((Below.refl _ w).alloc (Nat.le_refl _) _).alloc (by simp) _
  have H4 := Lib.hid (lib_Equal pa pa' pc pc' x.ps y.ps _ hx hy (hp.below hb) (hp'.below hb))
  have Hb := Lib.hid hb; clear hb hp hp'
  by_cases h1 : x.r = y.r
  case neg =>
    have Hz := Lib.hid (sameB_no (x := x) (y := y) (fun e => h1 (by rw [e])))
    have e1 : (x.r == y.r) = false := by simpa using h1
    clear h1
    go_enter Try.func60, Try.ntmps60
    go_wp2
    go_ret
    exact ⟨by first | rfl | exact ret_bool (by rw [Hz.out]), Hb.out⟩
  have e1 : (x.r == y.r) = true := by simpa using h1
  by_cases h2 : x.a = y.a
  case neg =>
    have Hz := Lib.hid (sameB_no (x := x) (y := y) (fun e => h2 (by rw [e])))
    have e2 : (x.a == y.a) = false := by simpa using h2
    clear h1 h2
    go_enter Try.func60, Try.ntmps60
    go_wp2
    go_ret
    exact ⟨by first | rfl | exact ret_bool (by rw [Hz.out]), Hb.out⟩
  have e2 : (x.a == y.a) = true := by simpa using h2
  by_cases h4 : x.d = y.d
  case neg =>
    have Hz := Lib.hid (sameB_no (x := x) (y := y) (fun e => h4 (by rw [e])))
    have e4 : (x.d == y.d) = false := by simpa using h4
    clear h1 h2 h4
    go_enter Try.func60, Try.ntmps60
    go_wp2
    go_ret
    exact ⟨by first | rfl | exact ret_bool (by rw [Hz.out]), Hb.out⟩
  have e4 : (x.d == y.d) = true := by simpa using h4
  have Hz := Lib.hid (same_yes h1 h2 h4)
  clear h1 h2 h4
  go_enter Try.func60, Try.ntmps60
  go_wp2_with fail
  refine H4.out.mono ?_
  rintro e w1 ⟨rfl, hd⟩
  have Hb1 := Lib.hid (below_step Hb.out Hb.out.size (hd.below _))
  clear hd
  go_wp2
  go_ret
  exact ⟨ret_bool (by rw [Hz.out]), Hb1.out⟩

set_option maxHeartbeats 1000000 in
theorem impl_copyOfVertex (r a d : Int) (pa : Option Addr) (pc : Nat) (ps : List Int) (w : World) (hbp : ps.length ≤ 1099511627776) (hs : SrcAt w pa pc ps) (hi : IntsAt w pa ps) :
    Calls Try.prog 61 #[.agg #[.int .i64 r, .int .i64 a, .slice pa ps.length pc, .int .i64 d]] w fun e w' => ∃ v, e = .returned (.agg #[.int .i64 r, .int .i64 a, v, .int .i64 d]) ∧ Own 3 w' w.heap.size v ps ∧ Below w.heap.size w w' := by
  have hbW : Below w.heap.size w ((w.alloc (.cells #[.int .i64 r, .int .i64 a, .slice pa ps.length pc, .int .i64 d] 25)).alloc (.cells #[.int .i64 0, .int .i64 0, .slice none 0 0, .int .i64 0] 25)) := ((Below.refl _ w).alloc (Nat.le_refl _) _).alloc (by simp) _
  have s0 := (Str.new w 25 #[.int .i64 r, .int .i64 a, .slice pa ps.length pc, .int .i64 d]).alloc (.cells #[.int .i64 0, .int .i64 0, .slice none 0 0, .int .i64 0] 25)
  have s1 := Str.new (w.alloc (.cells #[.int .i64 r, .int .i64 a, .slice pa ps.length pc, .int .i64 d] 25)) 25 #[.int .i64 0, .int .i64 0, .slice none 0 0, .int .i64 0]
  have hz1 : (w.alloc (.cells #[.int .i64 r, .int .i64 a, .slice pa ps.length pc, .int .i64 d] 25)).heap.size = w.heap.size + 1 := by simp
  rw [hz1] at s1
  have hzW : ((w.alloc (.cells #[.int .i64 r, .int .i64 a, .slice pa ps.length pc, .int .i64 d] 25)).alloc (.cells #[.int .i64 0, .int .i64 0, .slice none 0 0, .int .i64 0] 25)).heap.size = w.heap.size + 2 := by simp
  have k2 := s0.cell 2 (v := .slice pa ps.length pc) rfl
  have HC := Lib.hid (lib_Clone TIg pa pc ps _ hbp (hs.under hi hbW) (hi.below hbW))
  have Hs0 := Lib.hid s0
  have Hs1 := Lib.hid s1
  have HbW := Lib.hid hbW
  have HzW := Lib.hid hzW
  clear s0 s1 hbW hs hi hz1 hzW
  go_enter Try.func61, Try.ntmps61
  go_wp2_with fail
  generalize (w.alloc (.cells #[.int .i64 r, .int .i64 a, .slice pa ps.length pc, .int .i64 d] 25)).alloc (.cells #[.int .i64 0, .int .i64 0, .slice none 0 0, .int .i64 0] 25) = W at *
  refine HC.out.mono ?_
  rintro e w5 ⟨v, rfl, hown, hb5⟩
  have t0 : Str w5 w.heap.size 25 #[.int .i64 r, .int .i64 a, .slice pa ps.length pc, .int .i64 d] := (hb5.block _ Hs0.out.lt).trans Hs0.out
  have t1 : Str w5 (w.heap.size + 1) 25 #[.int .i64 0, .int .i64 0, .slice none 0 0, .int .i64 0] := (hb5.block _ Hs1.out.lt).trans Hs1.out
  have Hlt := Lib.hid hown.lt
  have Hown := Lib.hid hown
  have Hb5 := Lib.hid (below_step HbW.out HbW.out.size hb5)
  obtain ⟨a5, c5, rfl, _, _⟩ := Hown.out.ints
  clear hown hb5 k2
  have k0 := t0.cell 0 (v := .int .i64 r) rfl
  have k1 := t0.cell 1 (v := .int .i64 a) rfl
  have k2 := t0.cell 2 (v := .slice pa ps.length pc) rfl
  have k3 := t0.cell 3 (v := .int .i64 d) rfl
  have f2 := t0.frozen 2
  have j0 := t1.cell 0 (v := .int .i64 0) rfl
  have j1 := t1.cell 1 (v := .int .i64 0) rfl
  have j2 := t1.cell 2 (v := .slice none 0 0) rfl
  have j3 := t1.cell 3 (v := .int .i64 0) rfl
  have g0 := t1.frozen 0
  have g1 := t1.frozen 1
  have g2 := t1.frozen 2
  have g3 := t1.frozen 3
  have hne : w.heap.size + 1 ≠ w.heap.size := by omega
  have u := ((((t1.other hne 2 (.slice a5 ps.length c5)).set 0 (.int .i64 r)).set 1 (.int .i64 a)).set 2 (.slice a5 ps.length c5)).set 3 (.int .i64 d)
  have e0 := u.cell 0 (v := .int .i64 r) rfl
  have e1 := u.cell 1 (v := .int .i64 a) rfl
  have e2 := u.cell 2 (v := .slice a5 ps.length c5) rfl
  have e3 := u.cell 3 (v := .int .i64 d) rfl
  clear u t0 t1
  go_wp2
  refine bodyPost_ret (v := .agg #[.int .i64 r, .int .i64 a, .slice a5 ps.length c5, .int .i64 d]) (by simp [results, Try.f61, go_sem, e0, e1, e2, e3]) rfl ?_
  have n1 : (Value.slice a5 ps.length c5).ownBlock ≠ some (w.heap.size) := fun e => by have := Hlt.out _ e; have := HzW.out; omega
  have n2 : (Value.slice a5 ps.length c5).ownBlock ≠ some (w.heap.size + 1) := fun e => by have := Hlt.out _ e; have := HzW.out; omega
  exact ⟨_, rfl, ((((((Hown.out.mono (by have := HzW.out; omega)).set_other n1 2 _).set_other n2 0 _).set_other n2 1 _).set_other n2 2 _).set_other n2 3 _), (((((Hb5.out.setCell (p := ⟨w.heap.size, 2, none⟩) (by simp only; omega) _).setCell (p := ⟨w.heap.size + 1, 0, none⟩) (by simp only; omega) _).setCell (p := ⟨w.heap.size + 1, 1, none⟩) (by simp only; omega) _).setCell (p := ⟨w.heap.size + 1, 2, none⟩) (by simp only; omega) _).setCell (p := ⟨w.heap.size + 1, 3, none⟩) (by simp only; omega) _)⟩

end Go.Proofs.Ythnbjdijcpcafaa

/- impl's adding of a vertex to a graph of pointers, by a walk of its text; conditions: lists are shorter than 2^40, the committee, the graph and its vertices are valid. -/
namespace Go.Proofs.Ythnbjdijcpcafaa
open Go.RowKit

theorem run_index_z {P : Program} {T E : TypeId} {n s k B o : Nat} {z : Int} (hu : P.underlying T = some (.array n E)) (hs : (P.info? E).map (·.size) = some s) (hz : z = (k : Int)) (hk : k < n) (w : World) :
    (Instr.indexAt T (.pointer (some ⟨B, o, none⟩)) (.int .i64 z)).run P w = .ok (.pointer (some ⟨B, o + k * s, none⟩)) w := by
  subst hz
  have h1 := run_underlying hu w
  cases hq : P.info? E with
  | none => simp [hq] at hs
  | some i =>
    have hz : i.size = s := by simpa [hq] using hs
    simp [Instr.indexAt, asIntOf, Instr.sureAddr, Sem.run_bind, h1, sizeOf, typeInfo, hq, hz, hk, addr_add']

theorem below_rowP {w w' : World} (h : Below w.heap.size w w') (row : Option Nat) : w.grownBy w' row := ⟨h.os, h.tape, h.output, h.size, fun k hk _ => h.block k hk⟩

/-- 'append(s, p)', p a pointer. -/
theorem wpList_pushP {P : Program} {T E : TypeId} (hsl : P.underlying T = some (.slice E)) (hinf : (P.info? E).map (fun i => (i.zero, i.size, i.bytes)) = some (some (.pointer none), 1, 8)) {w : World} {ops : Array Oper} {rest : List Oper} {o : Oper} {a : Act} {Q : Exit → Act → World → Prop} (hgd : o.guard = none) (s x : Operand)
    (ho : o.op = .call { callee := .builtin .append, args := #[s, x], argTypes := #[T, T] }) (B : Nat) (v : Value) (qs : List Nat) (q : Nat) (hs : a.eval s = v) (hown : OwnP E w B v qs)
    (hlen : qs.length ≤ 1099511627776) (hx : a.eval x = .slice (some ⟨w.heap.size, 0, none⟩) 1 1) (hB : B ≤ w.heap.size)
    (h : ∀ v' w', OwnP E w' B v' (qs ++ [q]) → w.grownBy w' v.ownBlock → (∀ g, v'.ownBlock = some g → v.ownBlock = some g ∨ w.heap.size ≤ g) → wpList P ops Q rest (a.put o.dst v') w') : wpList P ops Q (o :: rest) a (w.alloc (.cells #[.pointer (some ⟨q, 0, none⟩)] E)) := by
  refine wpList_want (by unfold Region.wanted; rw [hgd]) fun K hK => ?_
  obtain ⟨i, hi, hz, hsz, hby⟩ := info_parts hinf
  obtain ⟨v', w', hrun, h1, h2, _, h4⟩ := run_append_own_at (P := P) (w.alloc (.cells #[.pointer (some ⟨q, 0, none⟩)] E)) B T o.type E i (.pointer none) 1 8 hsl hi hz hsz hby rfl (by decide) v qs.length _ (World.ownsRow.alloc hown _) ⟨w.heap.size, 0, none⟩ 1 1 [ptrV q] rfl
    (cells_ptr w E q) (by intro u hu; simp at hu; subst hu; rfl) (by unfold maxLen; omega) (by omega) (by simp; omega)
  unfold Oper.wp execOp
  simp only [ho, resolve, invoke, builtin, Sem.run_bind, Sem.run_pure, Result.andThen_ok, List.map_toArray, List.map_cons, List.map_nil, hs, hx, hrun]
  refine hK _ _ (h v' w' ?_ (grownBy_trans (World.grownBy_alloc _ _ _) h2) fun g e => ?_)
  · unfold OwnP; simpa using h1
  · rcases h4 with h4 | h4
    · exact .inl (by rw [← h4]; exact e)
    · rw [h4] at e; cases e; exact .inr (by simp)

/-- The code of an addition to a graph that is valid, and the graph after it. -/
def adN (c : List Int) (g : List Vx) (x : Vx) : Int := if vtxB c x = true then addN g x else 4
def adG (c : List Int) (g : List Vx) (x : Vx) : List Vx := if vtxB c x = true then addG g x else g
def AddPost (w0 w : World) (G : Nat) (mv : Value) (c : List Int) (g : List Vx) (x : Vx) : Ending → World → Prop := fun e w' =>
  e = .returned (.int .i64 (adN c g x)) ∧ w.grownBy w' (some G) ∧ ∃ hi h, Lk w0 w' hi G mv h (adG c g x)
theorem vtx_pl {c : List Int} {x : Vx} (hv : validB c = true) (h : vtxB c x = true) : inPl x := by
  obtain ⟨hn1, hn7⟩ := validB_len hv
  unfold vtxB rngB autB at h
  simp only [Bool.and_eq_true, decide_eq_true_eq] at h
  unfold inPl; omega
theorem vtx_mem {c : List Int} {x : Vx} (h : vtxB c x = true) : membersB c.length x.ps = true := by
  unfold vtxB at h
  simp only [Bool.and_eq_true] at h
  exact h.2.2.1
theorem vtx_r0 {c : List Int} {x : Vx} (h : vtxB c x = true) (h0 : x.r = 0) : x.ps.length = 0 := by
  unfold vtxB quoB at h
  simp only [Bool.and_eq_true, if_pos h0, decide_eq_true_eq] at h
  exact h.2.2.2.2
theorem run_place (G : Nat) (r a : Int) (hr : 0 ≤ r) (hr2 : r ≤ 30) (ha : 0 ≤ a) (ha2 : a ≤ 6) : ∃ o1, (∀ w, (Instr.indexAt 75 (.pointer (some ⟨G, 1, none⟩)) (.int .i64 r)).run Try.prog w = .ok (.pointer (some ⟨G, o1, none⟩)) w) ∧
    ∀ w, (Instr.indexAt 74 (.pointer (some ⟨G, o1, none⟩)) (.int .i64 a)).run Try.prog w = .ok (.pointer (some ⟨G, plN r a, none⟩)) w := by
  refine ⟨1 + r.toNat * 7, fun w => ?_, fun w => ?_⟩
  · exact run_index_z (s := 7) Try.underlying75 (by kernel_rfl) (by omega) (by omega) w
  · have := run_index_z (P := Try.prog) (B := G) (o := 1 + r.toNat * 7) (s := 1) (k := a.toNat) (z := a) Try.underlying74 (by kernel_rfl) (by omega) (by omega) w
    rw [this]
    unfold plN
    rw [Nat.mul_one, Nat.add_assoc]
theorem add_found {c : List Int} {g : List Vx} {x y : Vx} (hs : Srt g) (hx : vtxB c x = true) (hy : y ∈ g) (hr : y.r = x.r) (ha : y.a = x.a) :
    (sameB y x = true → adN c g x = 1 ∧ adG c g x = g) ∧ (sameB y x = false → adN c g x = 2 ∧ adG c g x = g) := by
  obtain ⟨k, hk, e, rfl⟩ := findZ_mem hs hy
  rw [hr, ha] at e
  unfold adN adG
  rw [if_pos hx, if_pos hx]
  exact ⟨fun h => addN_same hk e h, fun h => addN_twice hk e h⟩
theorem add_fresh {c : List Int} {g : List Vx} {x : Vx} (hx : vtxB c x = true) (hn : ∀ y ∈ g, ¬ (y.r = x.r ∧ y.a = x.a)) :
    (parB g x = false → adN c g x = 3 ∧ adG c g x = g) ∧ (parB g x = true → adN c g x = 0 ∧ adG c g x = insG g x) := by
  unfold adN adG
  rw [if_pos hx, if_pos hx]
  exact ⟨fun h => addN_miss (findZ_none hn) h, fun h => addN_done (findZ_none hn) h⟩
theorem ad_not {c : List Int} {g : List Vx} {x : Vx} (hx : vtxB c x = false) : adN c g x = 4 ∧ adG c g x = g := by
  unfold adN adG
  rw [if_neg (by simp [hx]), if_neg (by simp [hx])]
  exact ⟨rfl, rfl⟩
theorem Lk.place {w0 w : World} {hi G : Nat} {mv : Value} {h : Nat → Value} {g : List Vx} {r : Int} {ps : List Int} (l : Lk w0 w hi G mv h g) (hs : Srt g) (k : Nat) (hk : k < ps.length) (h0 : 0 ≤ r - 1) (h1 : r - 1 ≤ 30) (h2 : 0 ≤ ps[k]) (h3 : ps[k] ≤ 6) :
    (∃ q, h (plN (r - 1) ps[k]) = ptrV q ∧ hasP g r ps k = true) ∨ (h (plN (r - 1) ps[k]) = .pointer none ∧ hasP g r ps k = false) := by
  unfold hasP
  rw [getD_get hk]
  by_cases he : ∃ y ∈ g, y.r = r - 1 ∧ y.a = ps[k]
  · obtain ⟨y, hy, er, ea⟩ := he
    obtain ⟨q, hq, _⟩ := l.has y hy
    obtain ⟨j, _, e, _⟩ := findZ_mem hs hy
    rw [er, ea] at hq e
    exact .inl ⟨q, hq, by rw [e]; exact decide_eq_true (by omega)⟩
  · have hn : ∀ y ∈ g, ¬ (y.r = r - 1 ∧ y.a = ps[k]) := fun y hy e => he ⟨y, hy, e⟩
    exact .inr ⟨l.non _ _ h0 h1 h2 h3 hn, by rw [findZ_none hn]; rfl⟩
theorem qs_step {h : Nat → Value} {r : Int} {ps : List Int} {qs : List Nat} {q k : Nat} (hq : ∀ j (_ : j < qs.length) (hj' : j < ps.length), h (plN (r - 1) ps[j]) = ptrV qs[j]) (hl : qs.length = k) (hk : k < ps.length) (he : h (plN (r - 1) ps[k]) = ptrV q) :
    ∀ j (hj : j < (qs ++ [q]).length) (hj' : j < ps.length), h (plN (r - 1) ps[j]) = ptrV (qs ++ [q])[j] := by
  intro j hj hj'
  by_cases e : j < qs.length
  · rw [List.getElem_append_left e]; exact hq j e hj'
  · have : j = k := by rw [List.length_append] at hj; simp at hj; omega
    subst this
    rw [he]
    congr 1
    rw [List.getElem_append_right (by omega)]; simp
set_option maxRecDepth 8000 in
set_option maxHeartbeats 4000000 in
theorem graph_add (w0 w : World) (hi G : Nat) (ac : Option Addr) (capc : Nat) (c : List Int) (h : Nat → Value) (g : List Vx) (x : Vx) (pa : Option Addr) (pc : Nat) (hv : validB c = true) (hbp : x.ps.length ≤ 1099511627776) (hgp : ∀ y ∈ g, y.ps.length ≤ 1099511627776)
    (hs : SrcAt w0 pa pc x.ps) (hip : IntsAt w0 pa x.ps) (hc : IntsAt w0 ac c) (hb : Below w0.heap.size w0 w) (hL : Lk w0 w hi G (.slice ac c.length capc) h g) (hsrt : Srt g) (hgv : ∀ y ∈ g, vtxB c y = true) :
    Calls Try.prog 36 #[.pointer (some ⟨G, 0, none⟩), .agg #[.int .i64 x.r, .int .i64 x.a, .slice pa x.ps.length pc, .int .i64 x.d]] w (AddPost w0 w G (.slice ac c.length capc) c g x) := by
  have hb0 : Below w.heap.size w (w.alloc (.cells #[.int .i64 x.r, .int .i64 x.a, .slice pa x.ps.length pc, .int .i64 x.d] 25)) := (Below.refl _ _).alloc (Nat.le_refl _) _
  have hsz0 : (w.alloc (.cells #[.int .i64 x.r, .int .i64 x.a, .slice pa x.ps.length pc, .int .i64 x.d] 25)).heap.size = w.heap.size + 1 := by simp
  have s0 := Str.new w 25 #[.int .i64 x.r, .int .i64 x.a, .slice pa x.ps.length pc, .int .i64 x.d]
  have k0 := s0.cell 0 (v := .int .i64 x.r) rfl
  have k1 := s0.cell 1 (v := .int .i64 x.a) rfl
  have k2 := s0.cell 2 (v := .slice pa x.ps.length pc) rfl
  have k3 := s0.cell 3 (v := .int .i64 x.d) rfl
  have hL0 := hL.under hb0
  have g0 := hL0.cell (k := 0) (by omega)
  rw [hL.mem] at g0
  have hGw : G < w.heap.size := Nat.lt_of_lt_of_le hL.lt hL.le
  have hbW := below_step hb hb.size hb0
  have HbW := Lib.hid hbW; clear hbW
  have HF := Lib.hid (fun W (h : Below (w.alloc (.cells #[.int .i64 x.r, .int .i64 x.a, .slice pa x.ps.length pc, .int .i64 x.d] 25)).heap.size (w.alloc (.cells #[.int .i64 x.r, .int .i64 x.a, .slice pa x.ps.length pc, .int .i64 x.d] 25)) W) => vertex_fits ac capc c x pa pc W hv hbp (hc.below (below_step HbW.out HbW.out.size h)) (hip.below (below_step HbW.out HbW.out.size h)))
  have HL0 := Lib.hid hL0; clear hL0
  have HL := Lib.hid hL; clear hL
  have Hb := Lib.hid hb; clear hb
  have Hb0 := Lib.hid hb0; clear hb0
  have Hs0 := Lib.hid s0; clear s0
  have Hs := Lib.hid hs; clear hs
  have Hip := Lib.hid hip; clear hip
  have Hgv := Lib.hid hgv; clear hgv
  have Hgp := Lib.hid hgp; clear hgp
  have Hsrt := Lib.hid hsrt; clear hsrt
  have Hv := Lib.hid hv; clear hv hc
  go_enter Try.func36, Try.ntmps36
  go_wp2_with fail
  generalize w.alloc (.cells #[.int .i64 x.r, .int .i64 x.a, .slice pa x.ps.length pc, .int .i64 x.d] 25) = W0 at *
  refine wp_region_held_drew (S := fun w' => Below W0.heap.size W0 w' ∧ w'.cell? ⟨w.heap.size, 0, none⟩ = some (.int .i64 x.r) ∧ w'.cell? ⟨w.heap.size, 1, none⟩ = some (.int .i64 x.a) ∧ w'.cell? ⟨w.heap.size, 2, none⟩ = some (.slice pa x.ps.length pc) ∧ w'.cell? ⟨w.heap.size, 3, none⟩ = some (.int .i64 x.d) ∧ w'.cell? ⟨G, 0, none⟩ = some (.slice ac c.length capc)) (by kernel_rfl) ⟨(Below.refl _ _).drew, k0, k1, k2, k3, g0⟩ (fun hH => ?_)
  refine takeH 0 (v := ?va0) rfl (by kernel_rfl) (by kernel_rfl) (by kernel_rfl) (fun _ _ _ h => h) hH rfl ?ya0 ?ra0
  case ya0 => intro W hSw; go_simp; try with_reducible rfl
  try simp only [Act.put, List.setIfInBounds_toArray, List.set_cons_zero, List.set_cons_succ]
  refine takeH 1 (v := ?va1) rfl (by kernel_rfl) (by kernel_rfl) (by kernel_rfl) (fun _ _ _ h => h) hH rfl ?ya1 ?ra1
  case ya1 => intro W hSw; go_simp; try with_reducible rfl
  try simp only [Act.put, List.setIfInBounds_toArray, List.set_cons_zero, List.set_cons_succ]
  refine takeH 2 (v := ?va2) rfl (by kernel_rfl) (by kernel_rfl) (by kernel_rfl) (fun _ _ _ h => h) hH rfl ?ya2 ?ra2
  case ya2 => intro W hSw; go_simp; try with_reducible rfl
  try simp only [Act.put, List.setIfInBounds_toArray, List.set_cons_zero, List.set_cons_succ]
  refine takeH 3 (v := ?va3) rfl (by kernel_rfl) (by kernel_rfl) (by kernel_rfl) (fun _ _ _ h => h) hH rfl ?ya3 ?ra3
  case ya3 => intro W hSw; go_simp; try with_reducible rfl
  try simp only [Act.put, List.setIfInBounds_toArray, List.set_cons_zero, List.set_cons_succ]
  refine takeH 4 (v := ?va4) rfl (by kernel_rfl) (by kernel_rfl) (by kernel_rfl) (fun _ _ _ h => h) hH rfl ?ya4 ?ra4
  case ya4 => intro W hSw; go_simp; try with_reducible rfl
  try simp only [Act.put, List.setIfInBounds_toArray, List.set_cons_zero, List.set_cons_succ]
  refine callH 5 rfl (by kernel_rfl) rfl (fun K hK => ?_)
  go_simp
  go_at_call 28
  refine (HF.out _ hH.1).mono ?_
  rintro e wx ⟨rfl, hbx⟩
  refine hK.out _ _ ⟨hH.1.trans (hbx.mono hH.1.size), (hbx.cell (p := ⟨w.heap.size, 0, none⟩) (by simp only; have := hH.1.size; omega)).trans hH.2.1, (hbx.cell (p := ⟨w.heap.size, 1, none⟩) (by simp only; have := hH.1.size; omega)).trans hH.2.2.1, (hbx.cell (p := ⟨w.heap.size, 2, none⟩) (by simp only; have := hH.1.size; omega)).trans hH.2.2.2.1, (hbx.cell (p := ⟨w.heap.size, 3, none⟩) (by simp only; have := hH.1.size; omega)).trans hH.2.2.2.2.1, (hbx.cell (p := ⟨G, 0, none⟩) (by simp only; have := hH.1.size; omega)).trans hH.2.2.2.2.2⟩ (fun hH => ?_)
  clear hK K
  try simp only [Act.put, List.setIfInBounds_toArray, List.set_cons_zero, List.set_cons_succ]
  refine takeH 6 (v := ?va6) rfl (by kernel_rfl) (by kernel_rfl) (by kernel_rfl) (fun _ _ _ h => h) hH rfl ?ya6 ?ra6
  case ya6 => intro W hSw; go_simp; try with_reducible rfl
  try simp only [Act.put, List.setIfInBounds_toArray, List.set_cons_zero, List.set_cons_succ]
  refine wpAnyH_done (by kernel_rfl) ?_ _
  try simp only [Act.put]
  obtain ⟨hbw, k0, k1, k2, k3, g0⟩ := hH
  have HL1 := Lib.hid (HL0.out.under hbw)
  have Hb1 := Lib.hid (Hb0.out.trans (hbw.mono (by omega)))
  clear g0
  have HB1 := Lib.hid (below_step Hb.out Hb.out.size Hb1.out)
  have Hs1 := Lib.hid (show Str _ w.heap.size 25 #[.int .i64 x.r, .int .i64 x.a, .slice pa x.ps.length pc, .int .i64 x.d] from (hbw.block _ Hs0.out.lt).trans Hs0.out)
  clear hbw HL0 Hb0 Hs0 HbW
  cases hx : vtxB c x with
  | false =>
    obtain ⟨hz1, hz2⟩ := ad_not (g := g) hx
    have Hz1 := Lib.hid hz1
    have Hz2 := Lib.hid hz2
    clear hz1 hz2
    go_wp2
    go_ret
    exact ⟨by rw [Hz1.out]; rfl, below_rowP Hb1.out _, _, _, by rw [Hz2.out]; exact HL1.out⟩
  | true =>
  have hpl := vtx_pl Hv.out hx
  have hpl' := hpl
  unfold inPl at hpl'
  obtain ⟨hr0, hr1, ha0, ha1⟩ := hpl'
  obtain ⟨o1, ho1, ho2⟩ := run_place G x.r x.a hr0 hr1 ha0 ha1
  have gp := HL1.out.cell (plN_bd hr1 ha1).2
  by_cases hfound : ∃ y ∈ g, y.r = x.r ∧ y.a = x.a
  · obtain ⟨y, hy, er, ea⟩ := hfound
    obtain ⟨q, hq, hn⟩ := HL1.out.has y hy
    rw [er, ea] at hq
    rw [hq] at gp
    unfold ptrV at gp
    obtain ⟨pa', pc', pv, qs, hsq, hiq, _, _⟩ := hn.ex
    obtain ⟨F1, F2⟩ := add_found Hsrt.out hx hy er ea
    have HS0 := Lib.hid (fun W (h1 : IntsAt W pa' y.ps) (h2 : IntsAt W pa x.ps) => impl_sameVertex y x pa' pa pc' pc W (Hgp.out y hy) hbp h1 h2)
    have F1 := Lib.hid F1
    have F2 := Lib.hid F2
    have Hsq := Lib.hid hsq
    have Hiq := Lib.hid hiq
    have Hpl := Lib.hid hpl
    clear hn hq hsq hiq hpl er ea hy
    go_wp2_with fail
    refine wp_region_held_drew (S := fun w' => Below wx.heap.size wx w' ∧ w'.cell? ⟨w.heap.size, 0, none⟩ = some (.int .i64 x.r) ∧ w'.cell? ⟨w.heap.size, 1, none⟩ = some (.int .i64 x.a) ∧ w'.cell? ⟨G, plN x.r x.a, none⟩ = some (.pointer (some ⟨q, 0, none⟩))) (by kernel_rfl) ⟨(Below.refl _ _).drew, k0, k1, gp⟩ (fun hH => ?_)
    refine takeH 0 (v := ?vb0) rfl (by kernel_rfl) (by kernel_rfl) (by kernel_rfl) (fun _ _ _ h => h) hH rfl ?yb0 ?rb0
    case yb0 => intro W hSw; go_simp; try with_reducible rfl
    try simp only [Act.put, List.setIfInBounds_toArray, List.set_cons_zero, List.set_cons_succ]
    refine takeH 1 (v := ?vb1) rfl (by kernel_rfl) (by kernel_rfl) (by kernel_rfl) (fun _ _ _ h => h) hH rfl ?yb1 ?rb1
    case yb1 => intro W hSw; go_simp; try with_reducible rfl
    try simp only [Act.put, List.setIfInBounds_toArray, List.set_cons_zero, List.set_cons_succ]
    refine takeH 2 (v := ?vb2) rfl (by kernel_rfl) (by kernel_rfl) (by kernel_rfl) (fun _ _ _ h => h) hH rfl ?yb2 ?rb2
    case yb2 => intro W hSw; go_simp; try with_reducible rfl
    try simp only [Act.put, List.setIfInBounds_toArray, List.set_cons_zero, List.set_cons_succ]
    refine takeH 3 (v := ?vb3) rfl (by kernel_rfl) (by kernel_rfl) (by kernel_rfl) (fun _ _ _ h => h) hH rfl ?yb3 ?rb3
    case yb3 => intro W hSw; go_simp; try with_reducible rfl
    try simp only [Act.put, List.setIfInBounds_toArray, List.set_cons_zero, List.set_cons_succ]
    refine takeH 4 (v := ?vb4) rfl (by kernel_rfl) (by kernel_rfl) (by kernel_rfl) (fun _ _ _ h => h) hH rfl ?yb4 ?rb4
    case yb4 => intro W hSw; go_simp; try with_reducible rfl
    try simp only [Act.put, List.setIfInBounds_toArray, List.set_cons_zero, List.set_cons_succ]
    refine takeH 5 (v := ?vb5) rfl (by kernel_rfl) (by kernel_rfl) (by kernel_rfl) (fun _ _ _ h => h) hH rfl ?yb5 ?rb5
    case yb5 => intro W hSw; go_simp; try with_reducible rfl
    try simp only [Act.put, List.setIfInBounds_toArray, List.set_cons_zero, List.set_cons_succ]
    refine takeH 6 (v := ?vb6) rfl (by kernel_rfl) (by kernel_rfl) (by kernel_rfl) (fun _ _ _ h => h) hH rfl ?yb6 ?rb6
    case yb6 => intro W hSw; go_simp; try with_reducible rfl
    try simp only [Act.put, List.setIfInBounds_toArray, List.set_cons_zero, List.set_cons_succ]
    refine takeH 7 (v := ?vb7) rfl (by kernel_rfl) (by kernel_rfl) (by kernel_rfl) (fun _ _ _ h => h) hH rfl ?yb7 ?rb7
    case yb7 => intro W hSw; go_simp; try with_reducible rfl
    try simp only [Act.put, List.setIfInBounds_toArray, List.set_cons_zero, List.set_cons_succ]
    refine takeH 8 (v := ?vb8) rfl (by kernel_rfl) (by kernel_rfl) (by kernel_rfl) (fun _ _ _ h => h) hH rfl ?yb8 ?rb8
    case yb8 => intro W hSw; go_simp; try with_reducible rfl
    try simp only [Act.put, List.setIfInBounds_toArray, List.set_cons_zero, List.set_cons_succ]
    refine takeH 9 (v := ?vb9) rfl (by kernel_rfl) (by kernel_rfl) (by kernel_rfl) (fun _ _ _ h => h) hH rfl ?yb9 ?rb9
    case yb9 => intro W hSw; go_simp; try with_reducible rfl
    try simp only [Act.put, List.setIfInBounds_toArray, List.set_cons_zero, List.set_cons_succ]
    refine takeH 10 (v := ?vb10) rfl (by kernel_rfl) (by kernel_rfl) (by kernel_rfl) (fun _ _ _ h => h) hH rfl ?yb10 ?rb10
    case yb10 => intro W hSw; go_simp; try with_reducible rfl
    try simp only [Act.put, List.setIfInBounds_toArray, List.set_cons_zero, List.set_cons_succ]
    refine wpAnyH_done (by kernel_rfl) ?_ _
    try simp only [Act.put]
    obtain ⟨hbw, k0, k1, gp⟩ := hH
    generalize hW3 : wx.drew = W3 at *
    clear hW3
    have HL3 := Lib.hid (HL1.out.under hbw)
    have HB3 := Lib.hid (below_step HB1.out HB1.out.size hbw)
    have Hb3 := Lib.hid (below_step Hb1.out Hb1.out.size hbw)
    have k2 := (hbw.cell (p := ⟨w.heap.size, 2, none⟩) Hs1.out.lt).trans k2
    have k3 := (hbw.cell (p := ⟨w.heap.size, 3, none⟩) Hs1.out.lt).trans k3
    have hq3 := (hbw.block _ Hsq.out.lt).trans Hsq.out
    have hlt3 := Str.lt (W := W3) hq3
    have hwlt : w.heap.size < W3.heap.size := Nat.lt_of_lt_of_le Hs1.out.lt hbw.size
    have j0 := Str.cell hq3 0 (v := .int .i64 y.r) rfl
    have j1 := Str.cell hq3 1 (v := .int .i64 y.a) rfl
    have j2 := Str.cell hq3 2 (v := .slice pa' y.ps.length pc') rfl
    have j3 := Str.cell hq3 3 (v := .int .i64 y.d) rfl
    have HS := Lib.hid (fun W (h : Below W3.heap.size W3 W) => HS0.out W (Hiq.out.below (below_step HB3.out HB3.out.size h)) (Hip.out.below (below_step HB3.out HB3.out.size h)))
    clear hq3 hbw gp HS0 HL1 HB1 Hb1 Hs1
    go_wp2_with fail
    refine wp_region_held_drew (S := fun w' => Below W3.heap.size W3 w' ∧ w'.cell? ⟨q, 0, none⟩ = some (.int .i64 y.r) ∧ w'.cell? ⟨q, 1, none⟩ = some (.int .i64 y.a) ∧ w'.cell? ⟨q, 2, none⟩ = some (.slice pa' y.ps.length pc') ∧ w'.cell? ⟨q, 3, none⟩ = some (.int .i64 y.d) ∧ w'.cell? ⟨w.heap.size, 0, none⟩ = some (.int .i64 x.r) ∧ w'.cell? ⟨w.heap.size, 1, none⟩ = some (.int .i64 x.a) ∧ w'.cell? ⟨w.heap.size, 2, none⟩ = some (.slice pa x.ps.length pc) ∧ w'.cell? ⟨w.heap.size, 3, none⟩ = some (.int .i64 x.d)) (by kernel_rfl) ⟨(Below.refl _ _).drew, j0, j1, j2, j3, k0, k1, k2, k3⟩ (fun hH => ?_)
    refine takeH 0 (v := ?vd0) rfl (by kernel_rfl) (by kernel_rfl) (by kernel_rfl) (fun _ _ _ h => h) hH rfl ?yd0 ?rd0
    case yd0 => intro W hSw; go_simp; try with_reducible rfl
    try simp only [Act.put, List.setIfInBounds_toArray, List.set_cons_zero, List.set_cons_succ]
    refine takeH 1 (v := ?vd1) rfl (by kernel_rfl) (by kernel_rfl) (by kernel_rfl) (fun _ _ _ h => h) hH rfl ?yd1 ?rd1
    case yd1 => intro W hSw; go_simp; try with_reducible rfl
    try simp only [Act.put, List.setIfInBounds_toArray, List.set_cons_zero, List.set_cons_succ]
    refine takeH 2 (v := ?vd2) rfl (by kernel_rfl) (by kernel_rfl) (by kernel_rfl) (fun _ _ _ h => h) hH rfl ?yd2 ?rd2
    case yd2 => intro W hSw; go_simp; try with_reducible rfl
    try simp only [Act.put, List.setIfInBounds_toArray, List.set_cons_zero, List.set_cons_succ]
    refine takeH 3 (v := ?vd3) rfl (by kernel_rfl) (by kernel_rfl) (by kernel_rfl) (fun _ _ _ h => h) hH rfl ?yd3 ?rd3
    case yd3 => intro W hSw; go_simp; try with_reducible rfl
    try simp only [Act.put, List.setIfInBounds_toArray, List.set_cons_zero, List.set_cons_succ]
    refine takeH 4 (v := ?vd4) rfl (by kernel_rfl) (by kernel_rfl) (by kernel_rfl) (fun _ _ _ h => h) hH rfl ?yd4 ?rd4
    case yd4 => intro W hSw; go_simp; try with_reducible rfl
    try simp only [Act.put, List.setIfInBounds_toArray, List.set_cons_zero, List.set_cons_succ]
    refine callH 5 rfl (by kernel_rfl) rfl (fun K hK => ?_)
    go_simp
    go_at_call 60
    refine (HS.out _ hH.1).mono ?_
    rintro e wy ⟨rfl, hbx⟩
    refine hK.out _ _ ⟨hH.1.trans (hbx.mono hH.1.size), (hbx.cell (p := ⟨q, 0, none⟩) (by simp only; have := hH.1.size; omega)).trans hH.2.1, (hbx.cell (p := ⟨q, 1, none⟩) (by simp only; have := hH.1.size; omega)).trans hH.2.2.1, (hbx.cell (p := ⟨q, 2, none⟩) (by simp only; have := hH.1.size; omega)).trans hH.2.2.2.1, (hbx.cell (p := ⟨q, 3, none⟩) (by simp only; have := hH.1.size; omega)).trans hH.2.2.2.2.1, (hbx.cell (p := ⟨w.heap.size, 0, none⟩) (by simp only; have := hH.1.size; omega)).trans hH.2.2.2.2.2.1, (hbx.cell (p := ⟨w.heap.size, 1, none⟩) (by simp only; have := hH.1.size; omega)).trans hH.2.2.2.2.2.2.1, (hbx.cell (p := ⟨w.heap.size, 2, none⟩) (by simp only; have := hH.1.size; omega)).trans hH.2.2.2.2.2.2.2.1, (hbx.cell (p := ⟨w.heap.size, 3, none⟩) (by simp only; have := hH.1.size; omega)).trans hH.2.2.2.2.2.2.2.2⟩ (fun hH => ?_)
    clear hK K
    try simp only [Act.put, List.setIfInBounds_toArray, List.set_cons_zero, List.set_cons_succ]
    refine wpAnyH_done (by kernel_rfl) ?_ _
    try simp only [Act.put]
    obtain ⟨hbw, _⟩ := hH
    have Hb5 := Lib.hid (below_step Hb3.out Hb3.out.size hbw)
    have HL5 := Lib.hid (HL3.out.under hbw)
    clear hbw
    cases hsb : sameB y x with
    | true =>
      obtain ⟨hz1, hz2⟩ := F1.out hsb
      have Hz1 := Lib.hid hz1
      have Hz2 := Lib.hid hz2
      clear hz1 hz2 F1 F2 HS
      go_wp2
      go_ret
      exact ⟨by rw [Hz1.out]; rfl, below_rowP Hb5.out _, _, _, by rw [Hz2.out]; exact HL5.out⟩
    | false =>
      obtain ⟨hz1, hz2⟩ := F2.out hsb
      have Hz1 := Lib.hid hz1
      have Hz2 := Lib.hid hz2
      clear hz1 hz2 F1 F2 HS
      go_wp2
      go_ret
      exact ⟨by rw [Hz1.out]; rfl, below_rowP Hb5.out _, _, _, by rw [Hz2.out]; exact HL5.out⟩
  · have hno : ∀ y ∈ g, ¬ (y.r = x.r ∧ y.a = x.a) := fun y hy e => hfound ⟨y, hy, e⟩
    clear hfound
    rw [HL1.out.non x.r x.a hr0 hr1 ha0 ha1 hno] at gp
    obtain ⟨F1, F2⟩ := add_fresh hx hno
    have F1 := Lib.hid F1
    have F2 := Lib.hid F2
    have Hpl := Lib.hid hpl; clear hpl
    have Hno := Lib.hid hno; clear hno
    go_wp2_with fail
    refine wp_region_held_drew (S := fun w' => Below wx.heap.size wx w' ∧ w'.cell? ⟨w.heap.size, 0, none⟩ = some (.int .i64 x.r) ∧ w'.cell? ⟨w.heap.size, 1, none⟩ = some (.int .i64 x.a) ∧ w'.cell? ⟨G, plN x.r x.a, none⟩ = some (.pointer none)) (by kernel_rfl) ⟨(Below.refl _ _).drew, k0, k1, gp⟩ (fun hH => ?_)
    refine takeH 0 (v := ?ve0) rfl (by kernel_rfl) (by kernel_rfl) (by kernel_rfl) (fun _ _ _ h => h) hH rfl ?ye0 ?re0
    case ye0 => intro W hSw; go_simp; try with_reducible rfl
    try simp only [Act.put, List.setIfInBounds_toArray, List.set_cons_zero, List.set_cons_succ]
    refine takeH 1 (v := ?ve1) rfl (by kernel_rfl) (by kernel_rfl) (by kernel_rfl) (fun _ _ _ h => h) hH rfl ?ye1 ?re1
    case ye1 => intro W hSw; go_simp; try with_reducible rfl
    try simp only [Act.put, List.setIfInBounds_toArray, List.set_cons_zero, List.set_cons_succ]
    refine takeH 2 (v := ?ve2) rfl (by kernel_rfl) (by kernel_rfl) (by kernel_rfl) (fun _ _ _ h => h) hH rfl ?ye2 ?re2
    case ye2 => intro W hSw; go_simp; try with_reducible rfl
    try simp only [Act.put, List.setIfInBounds_toArray, List.set_cons_zero, List.set_cons_succ]
    refine takeH 3 (v := ?ve3) rfl (by kernel_rfl) (by kernel_rfl) (by kernel_rfl) (fun _ _ _ h => h) hH rfl ?ye3 ?re3
    case ye3 => intro W hSw; go_simp; try with_reducible rfl
    try simp only [Act.put, List.setIfInBounds_toArray, List.set_cons_zero, List.set_cons_succ]
    refine takeH 4 (v := ?ve4) rfl (by kernel_rfl) (by kernel_rfl) (by kernel_rfl) (fun _ _ _ h => h) hH rfl ?ye4 ?re4
    case ye4 => intro W hSw; go_simp; try with_reducible rfl
    try simp only [Act.put, List.setIfInBounds_toArray, List.set_cons_zero, List.set_cons_succ]
    refine takeH 5 (v := ?ve5) rfl (by kernel_rfl) (by kernel_rfl) (by kernel_rfl) (fun _ _ _ h => h) hH rfl ?ye5 ?re5
    case ye5 => intro W hSw; go_simp; try with_reducible rfl
    try simp only [Act.put, List.setIfInBounds_toArray, List.set_cons_zero, List.set_cons_succ]
    refine takeH 6 (v := ?ve6) rfl (by kernel_rfl) (by kernel_rfl) (by kernel_rfl) (fun _ _ _ h => h) hH rfl ?ye6 ?re6
    case ye6 => intro W hSw; go_simp; try with_reducible rfl
    try simp only [Act.put, List.setIfInBounds_toArray, List.set_cons_zero, List.set_cons_succ]
    refine takeH 7 (v := ?ve7) rfl (by kernel_rfl) (by kernel_rfl) (by kernel_rfl) (fun _ _ _ h => h) hH rfl ?ye7 ?re7
    case ye7 => intro W hSw; go_simp; try with_reducible rfl
    try simp only [Act.put, List.setIfInBounds_toArray, List.set_cons_zero, List.set_cons_succ]
    refine takeH 8 (v := ?ve8) rfl (by kernel_rfl) (by kernel_rfl) (by kernel_rfl) (fun _ _ _ h => h) hH rfl ?ye8 ?re8
    case ye8 => intro W hSw; go_simp; try with_reducible rfl
    try simp only [Act.put, List.setIfInBounds_toArray, List.set_cons_zero, List.set_cons_succ]
    refine takeH 9 (v := ?ve9) rfl (by kernel_rfl) (by kernel_rfl) (by kernel_rfl) (fun _ _ _ h => h) hH rfl ?ye9 ?re9
    case ye9 => intro W hSw; go_simp; try with_reducible rfl
    try simp only [Act.put, List.setIfInBounds_toArray, List.set_cons_zero, List.set_cons_succ]
    refine takeH 10 (v := ?ve10) rfl (by kernel_rfl) (by kernel_rfl) (by kernel_rfl) (fun _ _ _ h => h) hH rfl ?ye10 ?re10
    case ye10 => intro W hSw; go_simp; try with_reducible rfl
    try simp only [Act.put, List.setIfInBounds_toArray, List.set_cons_zero, List.set_cons_succ]
    refine wpAnyH_done (by kernel_rfl) ?_ _
    try simp only [Act.put]
    obtain ⟨hbw, k0, k1, gp⟩ := hH
    generalize hW3 : wx.drew = W3 at *
    clear hW3
    have HL3 := Lib.hid (HL1.out.under hbw)
    have HB3 := Lib.hid (below_step HB1.out HB1.out.size hbw)
    have Hb3 := Lib.hid (below_step Hb1.out Hb1.out.size hbw)
    have k2 := (hbw.cell (p := ⟨w.heap.size, 2, none⟩) Hs1.out.lt).trans k2
    have k3 := (hbw.cell (p := ⟨w.heap.size, 3, none⟩) Hs1.out.lt).trans k3
    have sB : Str W3 w.heap.size 25 #[.int .i64 x.r, .int .i64 x.a, .slice pa x.ps.length pc, .int .i64 x.d] := (hbw.block _ Hs1.out.lt).trans Hs1.out
    have hwlt : w.heap.size < W3.heap.size := sB.lt
    have hhi : hi ≤ W3.heap.size := HL3.out.le
    have hbA : Below W3.heap.size W3 (W3.alloc (.cells #[.int .i64 x.r, .int .i64 x.a, .slice pa x.ps.length pc, .int .i64 x.d, .slice none 0 0] 81)) := (Below.refl _ _).alloc (Nat.le_refl _) _
    have sN := Str.new W3 81 #[.int .i64 x.r, .int .i64 x.a, .slice pa x.ps.length pc, .int .i64 x.d, .slice none 0 0]
    have k2A := (sB.alloc (.cells #[.int .i64 x.r, .int .i64 x.a, .slice pa x.ps.length pc, .int .i64 x.d, .slice none 0 0] 81)).cell 2 (v := .slice pa x.ps.length pc) rfl
    have HbA := Lib.hid hbA
    have HsN := Lib.hid sN
    have HsB := Lib.hid sB
    have HmB := Lib.hid (fun k hk => membersB_at (vtx_mem hx) k hk)
    have Hr0 := Lib.hid (fun h0 => vtx_r0 hx h0)
    have HL3' := Lib.hid (fun W (hW : Below W3.heap.size W3 W) => (HL3.out.under hW))
    clear hbA sN sB hbw gp HL1 HB1 Hb1 Hs1 HF
    go_wp2_with fail
    simp only [Bool.not_true]
    go_loopw [41] (fun i wr => ∃ (k : Nat) (qs : List Nat) (pv : Value), k ≤ x.ps.length ∧ i = .int .i64 k ∧ qs.length = k ∧ (∀ j (hj : j < qs.length) (hj' : j < x.ps.length), h (plN (x.r - 1) x.ps[j]) = ptrV qs[j]) ∧ Upto (hasP g x.r x.ps) k ∧ OwnP 73 wr w0.heap.size pv qs ∧ (∀ b, pv.ownBlock = some b → W3.heap.size < b) ∧ Str wr W3.heap.size 81 #[.int .i64 x.r, .int .i64 x.a, .slice pa x.ps.length pc, .int .i64 x.d, pv] ∧ Below W3.heap.size W3 wr) (fun i _ => x.ps.length - (intOf i).toNat)
    case atStart => exact ⟨0, [], _, by omega, rfl, rfl, (fun j hj => by simp at hj), upto_zero _, OwnP.nil _ _ _, (fun b e => by cases e), HsN.out, HbA.out⟩
    case round =>
      obtain ⟨k, qs, pv, hk, rfl, hql, hqs, hup, hown, hpb, sQ, hbel⟩ := hrel
      have HsQ := Lib.hid sQ
      have Hown := Lib.hid hown
      have Hqs := Lib.hid hqs
      have Hup := Lib.hid hup
      have Hbel := Lib.hid hbel
      have Hpb := Lib.hid hpb
      have Hql := Lib.hid hql
      have sB : Str wr w.heap.size 25 #[.int .i64 x.r, .int .i64 x.a, .slice pa x.ps.length pc, .int .i64 x.d] := (hbel.block _ HsB.out.lt).trans HsB.out
      have k0 := sB.cell 0 (v := .int .i64 x.r) rfl
      have k1 := sB.cell 1 (v := .int .i64 x.a) rfl
      have HLr := Lib.hid (HL3'.out wr hbel)
      have hwr : W3.heap.size ≤ wr.heap.size := Hbel.out.size
      clear sQ hown hqs hup hpb hbel sB
      by_cases hlt : k < x.ps.length
      · obtain ⟨b, off, rfl, hbb, hat⟩ := (Hip.out.below (below_step HB3.out HB3.out.size Hbel.out)).cell (by omega)
        have hcp := hat k hlt
        have hm := HmB.out k hlt
        have hn7 := (validB_len Hv.out).2
        have hrn : 1 ≤ x.r := by
          by_cases e : x.r = 0
          · have := Hr0.out e; omega
          · omega
        obtain ⟨o2, hq1, hq2⟩ := run_place G (x.r - 1) x.ps[k] (by omega) (by omega) hm.1 (by omega)
        have gp := HLr.out.cell (plN_bd (r := x.r - 1) (a := x.ps[k]) (by omega) (by omega)).2
        have hw1 : IntKind.i64.wrap (x.r - 1) = x.r - 1 := IntWalk.i64_in _ (by omega)
        have hpl := HLr.out.place Hsrt.out (r := x.r) (ps := x.ps) k hlt (by omega) (by omega) hm.1 (by omega)
        have hst := fun q (he : h (plN (x.r - 1) x.ps[k]) = ptrV q) => qs_step Hqs.out hql hlt he
        have Hst := Lib.hid hst
        clear hat hst hm hn7 Hqs ho1 ho2
        rcases hpl with ⟨q, he, hh⟩ | ⟨he, hh⟩
        · have HstQ := Lib.hid (Hst.out q he)
          clear Hst
          rw [he] at gp
          unfold ptrV at gp
          have Hh := Lib.hid (upto_step Hup.out hh)
          clear he hh Hup
          generalize x.ps[k] = p at *
          go_wp2_with fail
          refine wp_region_held_drew (S := fun w' => Below wr.heap.size wr w' ∧ w'.cell? ⟨w.heap.size, 0, none⟩ = some (.int .i64 x.r) ∧ w'.cell? ⟨G, plN (x.r - 1) p, none⟩ = some (.pointer (some ⟨q, 0, none⟩))) (by kernel_rfl) ⟨(Below.refl _ _).drew, k0, gp⟩ (fun hH => ?_)
          refine takeH 0 (v := ?vf0) rfl (by kernel_rfl) (by kernel_rfl) (by kernel_rfl) (fun _ _ _ h => h) hH rfl ?yf0 ?rf0
          case yf0 => intro W hSw; go_simp; try with_reducible rfl
          try simp only [Act.put, List.setIfInBounds_toArray, List.set_cons_zero, List.set_cons_succ]
          refine takeH 1 (v := ?vf1) rfl (by kernel_rfl) (by kernel_rfl) (by kernel_rfl) (fun _ _ _ h => h) hH rfl ?yf1 ?rf1
          case yf1 => intro W hSw; go_simp; try with_reducible rfl
          try simp only [Act.put, List.setIfInBounds_toArray, List.set_cons_zero, List.set_cons_succ]
          refine takeH 2 (v := ?vf2) rfl (by kernel_rfl) (by kernel_rfl) (by kernel_rfl) (fun _ _ _ h => h) hH rfl ?yf2 ?rf2
          case yf2 => intro W hSw; go_simp; try with_reducible rfl
          try simp only [Act.put, List.setIfInBounds_toArray, List.set_cons_zero, List.set_cons_succ]
          refine takeH 3 (v := ?vf3) rfl (by kernel_rfl) (by kernel_rfl) (by kernel_rfl) (fun _ _ _ h => h) hH rfl ?yf3 ?rf3
          case yf3 => intro W hSw; go_simp; try with_reducible rfl
          try simp only [Act.put, List.setIfInBounds_toArray, List.set_cons_zero, List.set_cons_succ]
          refine takeH 4 (v := ?vf4) rfl (by kernel_rfl) (by kernel_rfl) (by kernel_rfl) (fun _ _ _ h => h) hH rfl ?yf4 ?rf4
          case yf4 => intro W hSw; go_simp; try with_reducible rfl
          try simp only [Act.put, List.setIfInBounds_toArray, List.set_cons_zero, List.set_cons_succ]
          refine takeH 5 (v := ?vf5) rfl (by kernel_rfl) (by kernel_rfl) (by kernel_rfl) (fun _ _ _ h => h) hH rfl ?yf5 ?rf5
          case yf5 => intro W hSw; go_simp; try with_reducible rfl
          try simp only [Act.put, List.setIfInBounds_toArray, List.set_cons_zero, List.set_cons_succ]
          refine takeH 6 (v := ?vf6) rfl (by kernel_rfl) (by kernel_rfl) (by kernel_rfl) (fun _ _ _ h => h) hH rfl ?yf6 ?rf6
          case yf6 => intro W hSw; go_simp; try with_reducible rfl
          try simp only [Act.put, List.setIfInBounds_toArray, List.set_cons_zero, List.set_cons_succ]
          refine takeH 7 (v := ?vf7) rfl (by kernel_rfl) (by kernel_rfl) (by kernel_rfl) (fun _ _ _ h => h) hH rfl ?yf7 ?rf7
          case yf7 => intro W hSw; go_simp; try with_reducible rfl
          try simp only [Act.put, List.setIfInBounds_toArray, List.set_cons_zero, List.set_cons_succ]
          refine takeH 8 (v := ?vf8) rfl (by kernel_rfl) (by kernel_rfl) (by kernel_rfl) (fun _ _ _ h => h) hH rfl ?yf8 ?rf8
          case yf8 => intro W hSw; go_simp; try with_reducible rfl
          try simp only [Act.put, List.setIfInBounds_toArray, List.set_cons_zero, List.set_cons_succ]
          refine takeH 9 (v := ?vf9) rfl (by kernel_rfl) (by kernel_rfl) (by kernel_rfl) (fun _ _ _ h => h) hH rfl ?yf9 ?rf9
          case yf9 => intro W hSw; go_simp; try with_reducible rfl
          try simp only [Act.put, List.setIfInBounds_toArray, List.set_cons_zero, List.set_cons_succ]
          refine takeH 10 (v := ?vf10) rfl (by kernel_rfl) (by kernel_rfl) (by kernel_rfl) (fun _ _ _ h => h) hH rfl ?yf10 ?rf10
          case yf10 => intro W hSw; go_simp; try with_reducible rfl
          try simp only [Act.put, List.setIfInBounds_toArray, List.set_cons_zero, List.set_cons_succ]
          refine wpAnyH_done (by kernel_rfl) ?_ _
          try simp only [Act.put]
          obtain ⟨hbw, _, _⟩ := hH
          have hz5 : wr.heap.size ≤ wr.drew.heap.size := Nat.le_refl _
          have s5 : Str wr.drew W3.heap.size 81 #[.int .i64 x.r, .int .i64 x.a, .slice (some ⟨b, off, none⟩) x.ps.length pc, .int .i64 x.d, pv] := HsQ.out
          have own5 : OwnP 73 wr.drew w0.heap.size pv qs := Hown.out
          have Hb5 := Lib.hid Hbel.out.drew
          generalize wr.drew = W5 at *
          have j4 := s5.cell 4 (v := pv) rfl
          have hQ5 := s5.lt
          have Hs5 := Lib.hid s5
          have Hown5 := Lib.hid own5
          have hB5 : w0.heap.size ≤ W5.heap.size := by have := HB3.out.size; omega
          have hW5 : W3.heap.size ≤ W5.heap.size := by omega
          have hql' : qs.length ≤ 1099511627776 := by omega
          clear s5 own5 hbw gp k0 k1
          go_wp2_with (at_builtin; refine wpList_pushP Try.underlying79 (by kernel_rfl) rfl (.tmp 61) (.tmp 63) rfl w0.heap.size pv qs q rfl Hown5.out hql' rfl hB5 ?_; intro v8 w8 hown8 hg8 hloc8; (obtain ⟨a8, n8, c8, rfl⟩ : ∃ a n c, v8 = Value.slice a n c := (by obtain ⟨a, c, e, _⟩ := hown8.slice; exact ⟨a, _, c, e⟩)); (have t8 := Hs5.out.kept hg8 (fun e => by have := Hpb.out _ e.symm; omega)); (have j4 := t8.cell 4 (v := pv) rfl); (have f4 := t8.frozen 4); (have Ht8 := Lib.hid t8); (have Hown8 := Lib.hid hown8); (have Hloc8 := Lib.hid hloc8); (have Hb8 := Lib.hid (Hb5.out.grown hg8 hW5 (fun g e => by have := Hpb.out g e; omega))); (clear t8 hown8 hloc8 hg8))
          go_roundw
          case rel =>
            have hv8 : ∀ b, (Value.slice a8 n8 c8).ownBlock = some b → W3.heap.size < b := fun b e => by
              rcases Hloc8.out b e with h | h
              · exact Hpb.out b h
              · omega
            refine ⟨k + 1, qs ++ [q], .slice a8 n8 c8, by omega, by go_num, by rw [List.length_append, hql]; rfl, HstQ.out, Hh.out, Hown8.out.kept (grownBy_set _ _ _ _) (.inr fun e => ?_), hv8, Ht8.out.set 4 _, Hb8.out.setCell (p := ⟨W3.heap.size, 4, none⟩) (Nat.le_refl _) _⟩
            have := hv8 _ e; omega
          case measure => simp [intOf]; omega
        · rw [he] at gp
          have Hz := Lib.hid (F1.out (allB_no hlt hh))
          clear he hh Hst
          generalize x.ps[k] = p at *
          go_wp2_with fail
          refine wp_region_held_drew (S := fun w' => Below wr.heap.size wr w' ∧ w'.cell? ⟨w.heap.size, 0, none⟩ = some (.int .i64 x.r) ∧ w'.cell? ⟨G, plN (x.r - 1) p, none⟩ = some (.pointer none)) (by kernel_rfl) ⟨(Below.refl _ _).drew, k0, gp⟩ (fun hH => ?_)
          refine takeH 0 (v := ?vg0) rfl (by kernel_rfl) (by kernel_rfl) (by kernel_rfl) (fun _ _ _ h => h) hH rfl ?yg0 ?rg0
          case yg0 => intro W hSw; go_simp; try with_reducible rfl
          try simp only [Act.put, List.setIfInBounds_toArray, List.set_cons_zero, List.set_cons_succ]
          refine takeH 1 (v := ?vg1) rfl (by kernel_rfl) (by kernel_rfl) (by kernel_rfl) (fun _ _ _ h => h) hH rfl ?yg1 ?rg1
          case yg1 => intro W hSw; go_simp; try with_reducible rfl
          try simp only [Act.put, List.setIfInBounds_toArray, List.set_cons_zero, List.set_cons_succ]
          refine takeH 2 (v := ?vg2) rfl (by kernel_rfl) (by kernel_rfl) (by kernel_rfl) (fun _ _ _ h => h) hH rfl ?yg2 ?rg2
          case yg2 => intro W hSw; go_simp; try with_reducible rfl
          try simp only [Act.put, List.setIfInBounds_toArray, List.set_cons_zero, List.set_cons_succ]
          refine takeH 3 (v := ?vg3) rfl (by kernel_rfl) (by kernel_rfl) (by kernel_rfl) (fun _ _ _ h => h) hH rfl ?yg3 ?rg3
          case yg3 => intro W hSw; go_simp; try with_reducible rfl
          try simp only [Act.put, List.setIfInBounds_toArray, List.set_cons_zero, List.set_cons_succ]
          refine takeH 4 (v := ?vg4) rfl (by kernel_rfl) (by kernel_rfl) (by kernel_rfl) (fun _ _ _ h => h) hH rfl ?yg4 ?rg4
          case yg4 => intro W hSw; go_simp; try with_reducible rfl
          try simp only [Act.put, List.setIfInBounds_toArray, List.set_cons_zero, List.set_cons_succ]
          refine takeH 5 (v := ?vg5) rfl (by kernel_rfl) (by kernel_rfl) (by kernel_rfl) (fun _ _ _ h => h) hH rfl ?yg5 ?rg5
          case yg5 => intro W hSw; go_simp; try with_reducible rfl
          try simp only [Act.put, List.setIfInBounds_toArray, List.set_cons_zero, List.set_cons_succ]
          refine takeH 6 (v := ?vg6) rfl (by kernel_rfl) (by kernel_rfl) (by kernel_rfl) (fun _ _ _ h => h) hH rfl ?yg6 ?rg6
          case yg6 => intro W hSw; go_simp; try with_reducible rfl
          try simp only [Act.put, List.setIfInBounds_toArray, List.set_cons_zero, List.set_cons_succ]
          refine takeH 7 (v := ?vg7) rfl (by kernel_rfl) (by kernel_rfl) (by kernel_rfl) (fun _ _ _ h => h) hH rfl ?yg7 ?rg7
          case yg7 => intro W hSw; go_simp; try with_reducible rfl
          try simp only [Act.put, List.setIfInBounds_toArray, List.set_cons_zero, List.set_cons_succ]
          refine takeH 8 (v := ?vg8) rfl (by kernel_rfl) (by kernel_rfl) (by kernel_rfl) (fun _ _ _ h => h) hH rfl ?yg8 ?rg8
          case yg8 => intro W hSw; go_simp; try with_reducible rfl
          try simp only [Act.put, List.setIfInBounds_toArray, List.set_cons_zero, List.set_cons_succ]
          refine takeH 9 (v := ?vg9) rfl (by kernel_rfl) (by kernel_rfl) (by kernel_rfl) (fun _ _ _ h => h) hH rfl ?yg9 ?rg9
          case yg9 => intro W hSw; go_simp; try with_reducible rfl
          try simp only [Act.put, List.setIfInBounds_toArray, List.set_cons_zero, List.set_cons_succ]
          refine takeH 10 (v := ?vg10) rfl (by kernel_rfl) (by kernel_rfl) (by kernel_rfl) (fun _ _ _ h => h) hH rfl ?yg10 ?rg10
          case yg10 => intro W hSw; go_simp; try with_reducible rfl
          try simp only [Act.put, List.setIfInBounds_toArray, List.set_cons_zero, List.set_cons_succ]
          refine wpAnyH_done (by kernel_rfl) ?_ _
          try simp only [Act.put]
          obtain ⟨hbw, _, _⟩ := hH
          have HL5 := Lib.hid (HLr.out.under hbw)
          have Hb5 := Lib.hid (Hb3.out.trans ((Hbel.out.trans (hbw.mono hwr)).mono (by have := Hb3.out.size; omega)))
          generalize wr.drew = W5 at *
          clear hbw gp k0 k1
          go_wp2
          go_ret
          exact ⟨by rw [Hz.out.1]; rfl, below_rowP Hb5.out _, _, _, by rw [Hz.out.2]; exact HL5.out⟩
      · have Hz := Lib.hid (F2.out (allB_yes Hup.out (by omega)))
        have hq := HLr.out.cell (plN_bd hr1 ha1).2
        have gf : wr.drew.frozen? ⟨G, plN x.r x.a, none⟩ = false := HLr.out.str.frozen _
        have gq : wr.drew.cell? ⟨G, plN x.r x.a, none⟩ = some (h (plN x.r x.a)) := hq
        have hqn : h (plN x.r x.a) = .pointer none := HL3.out.non x.r x.a hr0 hr1 ha0 ha1 Hno.out
        rw [hqn] at gq
        have Hb5 := Lib.hid Hbel.out.drew
        have s5 : Str wr.drew W3.heap.size 81 #[.int .i64 x.r, .int .i64 x.a, .slice pa x.ps.length pc, .int .i64 x.d, pv] := HsQ.out
        have own5 : OwnP 73 wr.drew w0.heap.size pv qs := Hown.out
        have hob : ∀ b, pv.ownBlock = some b → b ≠ G ∧ b < wr.heap.size := fun b e => ⟨by have := Hpb.out b e; have := HL3.out.lt; omega, (own5.lt b e).2⟩
        have HP := Lib.hid (HL3.out.put (below_grown Hb5.out) Hpl.out Hno.out hhi (hi2 := wr.heap.size) s5.lt (by omega) (Nat.le_refl _) s5 Hip.out Hs.out own5 hob (by omega) Hqs.out (g' := insG g x) (fun y => ins_mem))
        have HG := Lib.hid (grownBy_trans (below_rowP (Hb3.out.trans (Hb5.out.mono (by have := Hb3.out.size; omega))) (some G)) (grownBy_set wr.drew G (plN x.r x.a) (ptrV W3.heap.size)))
        clear hq hqn s5 own5 hob Hb5
        go_wp2_with fail
        refine wp_region_L 10 (fun w' => w'.cell? ⟨w.heap.size, 0, none⟩ = some (.int .i64 x.r) ∧ w'.cell? ⟨w.heap.size, 1, none⟩ = some (.int .i64 x.a)) (by kernel_rfl) ⟨k0, k1⟩ (fun hH => ?_)
        refine takeL 0 (v := ?vh0) rfl (by kernel_rfl) (by kernel_rfl) (by kernel_rfl) (by kernel_rfl) (by kernel_rfl) (fun _ _ _ h => h) hH rfl ?yh0 ?rh0
        case yh0 => intro w hSw; go_simp; try with_reducible rfl
        try simp only [Act.put, List.setIfInBounds_toArray, List.set_cons_zero, List.set_cons_succ]
        refine takeL 1 (v := ?vh1) rfl (by kernel_rfl) (by kernel_rfl) (by kernel_rfl) (by kernel_rfl) (by kernel_rfl) (fun _ _ _ h => h) hH rfl ?yh1 ?rh1
        case yh1 => intro w hSw; go_simp; try with_reducible rfl
        try simp only [Act.put, List.setIfInBounds_toArray, List.set_cons_zero, List.set_cons_succ]
        refine takeL 2 (v := ?vh2) rfl (by kernel_rfl) (by kernel_rfl) (by kernel_rfl) (by kernel_rfl) (by kernel_rfl) (fun _ _ _ h => h) hH rfl ?yh2 ?rh2
        case yh2 => intro w hSw; go_simp; try with_reducible rfl
        try simp only [Act.put, List.setIfInBounds_toArray, List.set_cons_zero, List.set_cons_succ]
        refine takeL 3 (v := ?vh3) rfl (by kernel_rfl) (by kernel_rfl) (by kernel_rfl) (by kernel_rfl) (by kernel_rfl) (fun _ _ _ h => h) hH rfl ?yh3 ?rh3
        case yh3 => intro w hSw; go_simp; try with_reducible rfl
        try simp only [Act.put, List.setIfInBounds_toArray, List.set_cons_zero, List.set_cons_succ]
        refine takeL 4 (v := ?vh4) rfl (by kernel_rfl) (by kernel_rfl) (by kernel_rfl) (by kernel_rfl) (by kernel_rfl) (fun _ _ _ h => h) hH rfl ?yh4 ?rh4
        case yh4 => intro w hSw; go_simp; try with_reducible rfl
        try simp only [Act.put, List.setIfInBounds_toArray, List.set_cons_zero, List.set_cons_succ]
        refine takeL 5 (v := ?vh5) rfl (by kernel_rfl) (by kernel_rfl) (by kernel_rfl) (by kernel_rfl) (by kernel_rfl) (fun _ _ _ h => h) hH rfl ?yh5 ?rh5
        case yh5 => intro w hSw; go_simp; try with_reducible rfl
        try simp only [Act.put, List.setIfInBounds_toArray, List.set_cons_zero, List.set_cons_succ]
        refine callL 6 rfl (by kernel_rfl) rfl (fun K hK => ?_)
        go_simp
        refine hK.out _ _ hH (fun hH => ?_)
        clear hK K
        try simp only [Act.put, List.setIfInBounds_toArray, List.set_cons_zero, List.set_cons_succ]
        refine callL 7 rfl (by kernel_rfl) rfl (fun K hK => ?_)
        go_simp
        refine hK.out _ _ hH (fun hH => ?_)
        clear hK K
        try simp only [Act.put, List.setIfInBounds_toArray, List.set_cons_zero, List.set_cons_succ]
        refine callL 8 rfl (by kernel_rfl) rfl (fun K hK => ?_)
        go_simp
        refine hK.out _ _ hH (fun hH => ?_)
        clear hK K
        try simp only [Act.put, List.setIfInBounds_toArray, List.set_cons_zero, List.set_cons_succ]
        refine callL 9 rfl (by kernel_rfl) rfl (fun K hK => ?_)
        go_simp
        refine hK.out _ _ hH (fun hH => ?_)
        clear hK K
        try simp only [Act.put, List.setIfInBounds_toArray, List.set_cons_zero, List.set_cons_succ]
        refine lastL rfl (by kernel_rfl) (by kernel_rfl) (by kernel_rfl) rfl (fun K hK => ?_)
        go_simp
        refine hK.out _ _ ?_
        clear hK K
        try simp only [Act.put, List.setIfInBounds_toArray, List.set_cons_zero, List.set_cons_succ]
        go_wp2
        go_ret
        exact ⟨by rw [Hz.out.1]; rfl, HG.out, _, _, by rw [Hz.out.2]; exact HP.out⟩

end Go.Proofs.Ythnbjdijcpcafaa
