/- Texts that the laws of this folder share, one behind another; no conditions. -/
import Derived.Test.YtjaacdapibokiabGreatDoorRows
import Derived.Test.YtjaacdapibokiabGreatDoorBu2
import Derived.Deep.QuietTactic
import Derived.BigQuiet
import Derived.Test.YtjaacdapibokiabGreatDoorBu0
import Derived.Test.YtjaacdapibokiabGreatDoorBu1
import Derived.WalkSpells
import Derived.Deep.MidRow
import Derived.Laws.Rows
import Derived.Laws.CopyRow

/- The reference's votes for a leader vertex, by walks of its texts; conditions: lists are shorter than 2^40. -/
namespace Go.Proofs.YtjaacdapibokiabGreatDoor
open Go.RowKit

theorem graph_vtx' {c : List Int} {g : List Vx} (h : graphB c g = true) : ∀ x ∈ g, vtxB c x = true := by
  intro x hx
  obtain ⟨k, hk, rfl⟩ := List.mem_iff_getElem.1 hx
  unfold graphB at h
  simp only [Bool.and_eq_true] at h
  have := allB_upto h.2 k hk
  unfold okV at this
  rw [getV hk] at this
  simp only [Bool.and_eq_true] at this
  exact this.1

theorem vtx_author' {c : List Int} {x : Vx} (h : vtxB c x = true) : 0 ≤ x.a ∧ x.a < c.length := by
  unfold vtxB autB at h; simp only [Bool.and_eq_true, decide_eq_true_eq] at h; omega
/-- What one vertex adds to the votes for the vertex of L, in round r. -/
def votC (c : List Int) (L r : Int) (x : Vx) : Int := if x.r = r ∧ hasB x.ps L = true then c.getD x.a.toNat 0 else 0
def votTo (c : List Int) (L r : Int) (g : List Vx) (k : Nat) : Int := ((g.take k).map (votC c L r)).sum
def voZ (c : List Int) (g : List Vx) (ls : List Int) (wv : Nat) : Int := if 0 ≤ ldZ g ls wv then votTo c (ls.getD (wv - 1) 0) (2 * (wv : Int)) g g.length else 0
theorem votTo_succ {c : List Int} {L r : Int} {g : List Vx} {k : Nat} (h : k < g.length) : votTo c L r g (k + 1) = votTo c L r g k + votC c L r g[k] := by
  unfold votTo
  rw [List.take_succ_eq_append_getElem h, List.map_append, List.sum_append]
  simp
theorem votC_bd {c : List Int} {L r : Int} {x : Vx} (hv : validB c = true) : 0 ≤ votC c L r x ∧ votC c L r x ≤ 9 := by
  unfold votC
  split
  · by_cases h : x.a.toNat < c.length
    · rw [getD_get h]
      have := validB_good hv _ h
      omega
    · have : c.getD x.a.toNat 0 = 0 := by simp [List.getD, List.getElem?_eq_none (by omega : c.length ≤ x.a.toNat)]
      omega
  · omega
theorem votTo_bd {c : List Int} {L r : Int} {g : List Vx} (hv : validB c = true) : ∀ k, k ≤ g.length → 0 ≤ votTo c L r g k ∧ votTo c L r g k ≤ 9 * k
  | 0, _ => by simp [votTo]
  | k + 1, h => by
    have ih := votTo_bd (g := g) (L := L) (r := r) hv k (by omega)
    have := votC_bd (L := L) (r := r) (x := g[k]) hv
    rw [votTo_succ (by omega)]
    omega

set_option maxHeartbeats 4000000 in
set_option maxRecDepth 8000 in
theorem spec_l21Votes (ac : Option Addr) (capc : Nat) (c : List Int) (g : List Vx) (v : Value) (fp : List Nat) (al : Option Addr) (cap : Nat) (ls : List Int) (wv : Nat) (w : World) (hgb : graphB c g = true) (hbig : g.length ≤ 1099511627776) (hps : ∀ x ∈ g, x.ps.length ≤ 1099511627776) (hw : 1 ≤ wv ∧ wv ≤ ls.length) (hl : ls.length ≤ 15) (hc : IntsAt w ac c) (hg : Gr w g v fp) (hi : IntsAt w al ls) :
    Calls Tryz.prog 92 #[.slice ac c.length capc, v, .slice al ls.length cap, .int .i64 wv] w fun e w' => e = .returned (.int .i64 (voZ c g ls wv)) ∧ Drawn w w' := by
  obtain ⟨va, vc, rfl⟩ := hg.slice
  obtain ⟨hw1, hw2⟩ := hw
  have hv : validB c = true := by unfold graphB at hgb; simp only [Bool.and_eq_true] at hgb; exact hgb.1
  have HX := Lib.hid (graph_vtx' hgb)
  have HP := Lib.hid hps
  have Hc := Lib.hid hc; have Hg := Lib.hid hg; have Hi := Lib.hid hi
  have HB := Lib.hid (fun k hk => votTo_bd (c := c) (L := ls.getD (wv - 1) 0) (r := 2 * (wv : Int)) (g := g) hv k hk)
  have HL := Lib.hid (fun (W : World) (hd : Drawn w W) => spec_l21Leader g _ fp al cap ls wv W hbig ⟨hw1, hw2⟩ hl (hg.under (hd.below _)) (hi.below (hd.below _)))
  have Hz := Lib.hid (show voZ c g ls wv = if 0 ≤ ldZ g ls wv then votTo c (ls.getD (wv - 1) 0) (2 * (wv : Int)) g g.length else 0 from rfl)
  have hcl := validB_len hv
  have HcG := Lib.hid (validB_good hv)
  have Hgd := Lib.hid (show ls.getD (wv - 1) 0 = ls[wv - 1] from getD_get (by omega))
  clear hc hg hi hps hgb hv
  generalize ldZ g ls wv = z at *
  generalize hLL : ls.getD (wv - 1) 0 = L at *
  go_enter Tryz.func92, Tryz.ntmps92
  go_wp2
  go_loopw [9, 10] (fun n i wr => ∃ k : Nat, k ≤ g.length ∧ i = .int .i64 k ∧ n = .int .i64 (votTo c L (2 * (wv : Int)) g k) ∧ (0 < k → 0 ≤ z) ∧ Drawn w wr) (fun _ i _ => g.length - (intOf i).toNat)
  case atStart => exact ⟨0, by omega, rfl, rfl, fun h => by omega, Drawn.refl _⟩
  case round =>
    obtain ⟨k, hk, rfl, rfl, hkz, hd⟩ := hrel
    have hbd := HB.out k hk
    by_cases hlt : k < g.length
    · have Hd := Lib.hid hd
      clear hd
      go_wp2_with fail
      refine (HL.out _ Hd.out).mono ?_
      rintro e w1 ⟨rfl, rfl⟩
      by_cases hz : 0 ≤ z
      · have hz' : decide (0 ≤ z) = true := decide_eq_true hz
        obtain ⟨b, off, rfl, hb, hat⟩ := Hg.out.at (by omega)
        obtain ⟨c0, c1, ⟨pa, pc, c2, hia, _⟩, _⟩ := hat k hlt
        have hvx := HX.out _ (List.getElem_mem hlt)
        have hpl := HP.out _ (List.getElem_mem hlt)
        have hau := vtx_author' hvx
        have hsu := votTo_succ (c := c) (L := L) (r := 2 * (wv : Int)) hlt
        have hs0 : votC c L (2 * (wv : Int)) g[k] = if g[k].r = 2 * (wv : Int) ∧ hasB g[k].ps L = true then c.getD g[k].a.toNat 0 else 0 := rfl
        have d0 := (Hd.out.cell _).trans c0
        have d1 := (Hd.out.cell _).trans c1
        have d2 := (Hd.out.cell _).trans c2
        have Hia := Lib.hid (hia.below (Hd.out.below _))
        have Hsu := Lib.hid hsu; have Hs0 := Lib.hid hs0
        clear hat c0 c1 c2 hia hsu hs0 hvx
        generalize g[k] = x at *
        obtain ⟨xr, xa, xp, xd⟩ := x
        dsimp only at *
        have HH := Lib.hid (fun W (h : IntsAt W pa xp) => spec_has pa pc xp L W hpl h)
        obtain ⟨bl, ol, rfl, hbl, hal⟩ := Hi.out.cell (by omega)
        have hlc := (Hd.out.cell _).trans (hal (wv - 1) (by omega))
        rw [← Hgd.out] at hlc
        have e1 : IntKind.i64.wrap ((wv : Int) - 1) = wv - 1 := IntWalk.i64_in _ (by omega)
        have e2 : ((wv : Int) - 1).toNat = wv - 1 := by omega
        have e3 : 0 ≤ (wv : Int) - 1 := by omega
        have e4 : (wv : Int) - 1 < ls.length := by omega
        have e5 : 1 ≤ (wv : Int) := by omega
        have e6 : (wv : Int) ≤ 15 := by omega
        obtain ⟨A, rfl⟩ : ∃ A : Nat, xa = A := ⟨xa.toNat, by omega⟩
        obtain ⟨bc, oc, rfl, hbc, hac⟩ := Hc.out.cell (by omega)
        have hcc := (Hd.out.cell _).trans (hac A (by omega))
        have hcg : c.getD A 0 = c[A]'(by omega) := getD_get (by omega)
        rw [← hcg] at hcc
        have hcb : 0 ≤ c.getD A 0 ∧ c.getD A 0 ≤ 9 := by rw [hcg]; have := HcG.out A (by omega); omega
        have hA : (A : Int) < c.length := hau.2
        rw [Int.toNat_natCast] at Hs0
        clear hal hac hcg hau hpl
        generalize c.getD A 0 = cA at *
        generalize votTo c L (2 * (wv : Int)) g k = N at *
        generalize votC c L (2 * (wv : Int)) _ = V at *
        by_cases h1 : xr = 2 * (wv : Int)
        · have h1' : (xr == 2 * (wv : Int)) = true := by rw [beq_iff_eq]; exact h1
          have H1 := Lib.hid h1; clear h1
          cases hh : hasB xp L with
          | true =>
            have Hs := Lib.hid (show votTo c L (2 * (wv : Int)) g (k + 1) = N + cA by rw [Hsu.out, Hs0.out, if_pos ⟨H1.out, hh⟩])
            rw [hh] at HH
            clear hh Hsu Hs0
            go_wp2_with fail
            go_quiet ((go_at_call 102; exact Calls.quiet_of_same (turned (HH.out _ Hia.out))))
            go_wp2
            go_roundw
            case rel => exact ⟨k + 1, by omega, by go_num, by rw [Hs.out], fun _ => hz, Hd.out.drewN _⟩
            case measure => simp [intOf]; omega
          | false =>
            have Hs := Lib.hid (show votTo c L (2 * (wv : Int)) g (k + 1) = N by rw [Hsu.out, Hs0.out, if_neg (fun h => by rw [hh] at h; cases h.2)]; omega)
            rw [hh] at HH
            clear hh Hsu Hs0
            go_wp2_with fail
            go_quiet ((go_at_call 102; exact Calls.quiet_of_same (turned (HH.out _ Hia.out))))
            go_wp2
            go_roundw
            case rel => exact ⟨k + 1, by omega, by go_num, by rw [Hs.out], fun _ => hz, Hd.out.drewN _⟩
            case measure => simp [intOf]; omega
        · have h1' : (xr == 2 * (wv : Int)) = false := by rw [beq_eq_false_iff_ne]; exact h1
          have Hs := Lib.hid (show votTo c L (2 * (wv : Int)) g (k + 1) = N by rw [Hsu.out, Hs0.out, if_neg (fun h => h1 h.1)]; omega)
          clear h1 Hsu Hs0
          go_wp2_with fail
          go_quiet (fail)
          go_wp2
          go_roundw
          case rel => exact ⟨k + 1, by omega, by go_num, by rw [Hs.out], fun _ => hz, Hd.out.drewN _⟩
          case measure => simp [intOf]; omega
      · have hk0 : k = 0 := by omega
        subst hk0
        have hres := Lib.hid (show voZ c g ls wv = 0 by rw [Hz.out, if_neg hz])
        have h0 : votTo c L (2 * (wv : Int)) g 0 = 0 := by simp [votTo]
        have H0 := Lib.hid h0; clear h0
        generalize votTo c L (2 * (wv : Int)) g 0 = N at *
        go_wp2
        go_ret
        exact ⟨by rw [hres.out, H0.out]; rfl, Hd.out⟩
    · have hkl : k = g.length := by omega
      have hres := Lib.hid (show voZ c g ls wv = votTo c L (2 * (wv : Int)) g k by
        rw [Hz.out]
        split
        · rw [hkl]
        · have h0 : k = 0 := by omega
          rw [h0]; simp [votTo])
      clear hkl
      generalize votTo c L (2 * (wv : Int)) g k = N at *
      have Hd := Lib.hid hd
      clear hd
      go_wp2
      go_ret
      exact ⟨by rw [hres.out]; rfl, Hd.out⟩

end Go.Proofs.YtjaacdapibokiabGreatDoor

/- The reference's WaveVotes and WaveDirect, by walks of their texts; conditions: lists are shorter than 2^40. -/
namespace Go.Proofs.YtjaacdapibokiabGreatDoor
open Go.RowKit

def wvZ (c : List Int) (g : List Vx) (ls : List Int) (wave : Int) : Int := if wlB c g ls wave then voZ c g ls wave.toNat else -1
def wdB (c : List Int) (g : List Vx) (ls : List Int) (wave : Int) : Bool := wlB c g ls wave && decide (totalZ c / 3 + 1 ≤ voZ c g ls wave.toNat)
theorem voZ_pos {c : List Int} {g : List Vx} {ls : List Int} {k : Nat} (hv : validB c = true) : 0 ≤ voZ c g ls k := by
  unfold voZ
  split
  · exact (votTo_bd hv _ (Nat.le_refl _)).1
  · omega

end Go.Proofs.YtjaacdapibokiabGreatDoor

/- The committed waves, as lists: plain facts; nothing here speaks of the program. -/
namespace Go.Proofs.YtjaacdapibokiabGreatDoor
open Go.RowKit

/-- Whether wave x has a leader vertex in this past. -/
def linkB (g : List Vx) (ls : List Int) (at' : Int) (x : Nat) : Bool := decide (0 ≤ ldZ g ls x) && (pastB g at').getD (ldZ g ls x).toNat false
/-- The waves from x down to behind lo that are linked, put ahead of ch. -/
def chZ (g : List Vx) (ls : List Int) (lo : Nat) : Nat → List Int → Int → List Int
  | 0, ch, _ => ch
  | x + 1, ch, at' => if x + 1 ≤ lo then ch else if linkB g ls at' (x + 1) then chZ g ls lo x (((x + 1 : Nat) : Int) :: ch) (ldZ g ls (x + 1)) else chZ g ls lo x ch at'
/-- What the first waves commit, and the last of them. -/
def wvs (c : List Int) (g : List Vx) (ls : List Int) : Nat → List Int × Nat
  | 0 => ([], 0)
  | w + 1 => if voZ c g ls (w + 1) < totalZ c / 3 + 1 then wvs c g ls w else ((wvs c g ls w).1 ++ chZ g ls (wvs c g ls w).2 w [((w + 1 : Nat) : Int)] (ldZ g ls (w + 1)), w + 1)
def cwZ (c : List Int) (g : List Vx) (ls : List Int) : List Int := if waB c g ls then (wvs c g ls ls.length).1 else []
theorem chZ_done {g : List Vx} {ls : List Int} {lo x : Nat} {ch : List Int} {at' : Int} (h : x ≤ lo) : chZ g ls lo x ch at' = ch := by
  cases x with
  | zero => rfl
  | succ x => unfold chZ; rw [if_pos h]
theorem chZ_yes {g : List Vx} {ls : List Int} {lo x : Nat} {ch : List Int} {at' : Int} (h : lo < x) (hl : linkB g ls at' x = true) : chZ g ls lo x ch at' = chZ g ls lo (x - 1) ((x : Int) :: ch) (ldZ g ls x) := by
  obtain ⟨y, rfl⟩ : ∃ y, x = y + 1 := ⟨x - 1, by omega⟩
  rw [chZ, if_neg (by omega), if_pos hl]
  rfl
theorem chZ_no {g : List Vx} {ls : List Int} {lo x : Nat} {ch : List Int} {at' : Int} (h : lo < x) (hl : linkB g ls at' x = false) : chZ g ls lo x ch at' = chZ g ls lo (x - 1) ch at' := by
  obtain ⟨y, rfl⟩ : ∃ y, x = y + 1 := ⟨x - 1, by omega⟩
  rw [chZ, if_neg (by omega), if_neg (by rw [hl]; simp)]
  rfl
theorem chZ_len {g : List Vx} {ls : List Int} {lo : Nat} : ∀ (x : Nat) (ch : List Int) (at' : Int), (chZ g ls lo x ch at').length ≤ ch.length + (x - lo)
  | 0, _, _ => by simp [chZ]
  | x + 1, ch, at' => by
    unfold chZ
    split
    · omega
    · split
      · have := chZ_len (g := g) (ls := ls) (lo := lo) x (((x + 1 : Nat) : Int) :: ch) (ldZ g ls (x + 1))
        rw [List.length_cons] at this
        omega
      · have := chZ_len (g := g) (ls := ls) (lo := lo) x ch at'
        omega
theorem wvs_len {c : List Int} {g : List Vx} {ls : List Int} : ∀ w, (wvs c g ls w).1.length ≤ (wvs c g ls w).2 ∧ (wvs c g ls w).2 ≤ w
  | 0 => by simp [wvs]
  | w + 1 => by
    have ih := wvs_len (c := c) (g := g) (ls := ls) w
    unfold wvs
    split
    · omega
    · have := chZ_len (g := g) (ls := ls) (lo := (wvs c g ls w).2) w [((w + 1 : Nat) : Int)] (ldZ g ls (w + 1))
      simp only [List.length_append, List.length_singleton] at this ⊢
      omega
theorem wvs_no {c : List Int} {g : List Vx} {ls : List Int} {m : Nat} (hm : 1 ≤ m) (h : voZ c g ls m < totalZ c / 3 + 1) : wvs c g ls m = wvs c g ls (m - 1) := by
  obtain ⟨y, rfl⟩ : ∃ y, m = y + 1 := ⟨m - 1, by omega⟩
  rw [wvs, if_pos h]
  rfl
theorem wvs_yes {c : List Int} {g : List Vx} {ls : List Int} {m : Nat} (hm : 1 ≤ m) (h : ¬ voZ c g ls m < totalZ c / 3 + 1) : wvs c g ls m = ((wvs c g ls (m - 1)).1 ++ chZ g ls (wvs c g ls (m - 1)).2 (m - 1) [(m : Int)] (ldZ g ls m), m) := by
  obtain ⟨y, rfl⟩ : ∃ y, m = y + 1 := ⟨m - 1, by omega⟩
  rw [wvs, if_neg h]
  rfl
theorem ldZ_cases (g : List Vx) (ls : List Int) (x : Nat) : ldZ g ls x = -1 ∨ ∃ j : Nat, j < g.length ∧ ldZ g ls x = j := by
  rcases findZ_cases g (2 * (x : Int) - 1) (ls.getD (x - 1) 0) with ⟨e, _⟩ | ⟨k, hk, e, _⟩
  · exact .inl e
  · exact .inr ⟨k, hk, e⟩
theorem own_single (E : TypeId) (w : World) (x : Int) : Own E (w.alloc (.cells #[.int .i64 x] E)) w.heap.size (.slice (some ⟨w.heap.size, 0, none⟩) 1 1) [x] :=
  ⟨rfl, .inr ⟨w.heap.size, 1, #[.int .i64 x], rfl, Nat.le_refl _, Str.new w E #[.int .i64 x], Nat.le_refl _, by unfold maxLen; omega, rfl, rfl⟩⟩

end Go.Proofs.YtjaacdapibokiabGreatDoor

/- Plain facts of the laws of waves; nothing here is walked. -/
namespace Go.Proofs.YtjaacdapibokiabGreatDoor
open Go.RowKit

theorem wl_ok {c : List Int} {g : List Vx} {ls : List Int} {wave : Int} (h : wlB c g ls wave = true) : waB c g ls = true ∧ 1 ≤ wave ∧ wave ≤ ls.length := by
  unfold wlB at h; simp only [Bool.and_eq_true, decide_eq_true_eq] at h; exact ⟨h.1, h.2.1, h.2.2⟩
theorem wa_valid {c : List Int} {g : List Vx} {ls : List Int} (h : waB c g ls = true) : validB c = true := by
  unfold waB graphB at h; simp only [Bool.and_eq_true] at h; exact h.1.1
theorem wd_votes (c : List Int) (g : List Vx) (ls : List Int) (wave : Int) : wdB c g ls wave = (decide (0 ≤ wvZ c g ls wave) && decide (orNo c (totalZ c / 3 + 1) ≤ wvZ c g ls wave)) := by
  unfold wdB wvZ
  cases h : wlB c g ls wave with
  | false => simp
  | true =>
    have hv := wa_valid (wl_ok h).1
    have hp := voZ_pos (c := c) (g := g) (ls := ls) (k := wave.toNat) hv
    rw [orNo_yes hv]
    simp [hp]
theorem validB_of_graph {c : List Int} {g : List Vx} (h : graphB c g = true) : validB c = true := by unfold graphB at h; simp only [Bool.and_eq_true] at h; exact h.1

end Go.Proofs.YtjaacdapibokiabGreatDoor

/- The waves that are committed, as chains of links back from the last one that is committed directly; plain facts on lists, nothing here speaks of the program. -/
namespace Go.Proofs.YtjaacdapibokiabGreatDoor
open Go.RowKit

/-- The waves from x down to behind lo that are linked, back from cur, in ascending order. -/
def chF (lk : Nat → Nat → Bool) (lo : Nat) : Nat → Nat → List Nat
  | 0, _ => []
  | x + 1, cur => if x + 1 ≤ lo then [] else if lk cur (x + 1) then chF lk lo x (x + 1) ++ [x + 1] else chF lk lo x cur
def fuW (lk : Nat → Nat → Bool) (w : Nat) : List Nat := chF lk 0 (w - 1) w ++ [w]
def lkB (g : List Vx) (ls : List Int) (cur x : Nat) : Bool := linkB g ls (ldZ g ls cur) x
theorem chF_done {lk : Nat → Nat → Bool} {lo x cur : Nat} (h : x ≤ lo) : chF lk lo x cur = [] := by
  cases x with
  | zero => rfl
  | succ x => unfold chF; rw [if_pos h]
theorem chZ_chF (g : List Vx) (ls : List Int) (lo : Nat) : ∀ (x cur : Nat) (ch : List Int), chZ g ls lo x ch (ldZ g ls cur) = (chF (lkB g ls) lo x cur).map Int.ofNat ++ ch
  | 0, cur, ch => by simp [chZ, chF]
  | x + 1, cur, ch => by
    unfold chZ chF
    by_cases h1 : x + 1 ≤ lo
    · rw [if_pos h1, if_pos h1]; rfl
    · rw [if_neg h1, if_neg h1]
      cases h2 : lkB g ls cur (x + 1) with
      | true =>
        have h2' : linkB g ls (ldZ g ls cur) (x + 1) = true := h2
        rw [if_pos h2', if_pos rfl, chZ_chF g ls lo x (x + 1)]
        simp
      | false =>
        have h2' : ¬ linkB g ls (ldZ g ls cur) (x + 1) = true := by
          intro h; have : lkB g ls cur (x + 1) = true := h; rw [h2] at this; cases this
        rw [if_neg h2', if_neg (by simp), chZ_chF g ls lo x cur]
/-- A link leads to a wave with a leader vertex. -/
theorem lk_has {g : List Vx} {ls : List Int} {cur x : Nat} (h : lkB g ls cur x = true) : 0 ≤ ldZ g ls x := by
  unfold lkB linkB at h; simp only [Bool.and_eq_true, decide_eq_true_eq] at h; exact h.1
section
variable {lk : Nat → Nat → Bool} {has : Nat → Prop}
/-- Where every later leader reaches the leader of wave m, the chain goes through m. -/
theorem chF_split (hlk : ∀ u x, lk u x = true → has x) {m : Nat} (hm : 1 ≤ m) (hD : ∀ u, m < u → has u → lk u m = true) : ∀ (x cur : Nat), m ≤ x → x < cur → has cur → chF lk 0 x cur = fuW lk m ++ chF lk m x cur
  | 0, cur, h, _, _ => by omega
  | x + 1, cur, h, hc, hh => by
    by_cases e : x + 1 = m
    · have h1 := hD cur (by omega) hh
      rw [← e] at h1
      rw [show chF lk m (x + 1) cur = [] from chF_done (by omega), List.append_nil]
      rw [chF, if_neg (by omega), if_pos h1]
      unfold fuW
      rw [← e]
      rfl
    · have ih1 := chF_split hlk hm hD x (x + 1) (by omega) (by omega)
      have ih2 := chF_split hlk hm hD x cur (by omega) (by omega) hh
      have e1 : chF lk 0 (x + 1) cur = if lk cur (x + 1) then chF lk 0 x (x + 1) ++ [x + 1] else chF lk 0 x cur := by rw [chF, if_neg (by omega)]
      have e2 : chF lk m (x + 1) cur = if lk cur (x + 1) then chF lk m x (x + 1) ++ [x + 1] else chF lk m x cur := by rw [chF, if_neg (by omega)]
      rw [e1, e2]
      cases h2 : lk cur (x + 1) with
      | true =>
        rw [if_pos rfl, if_pos rfl, ih1 (hlk _ _ h2), List.append_assoc]
      | false => rw [if_neg (by simp), if_neg (by simp), ih2]
theorem fuW_split (hlk : ∀ u x, lk u x = true → has x) {m w : Nat} (hm : 1 ≤ m) (hw : m < w) (hD : ∀ u, m < u → has u → lk u m = true) (hh : has w) : fuW lk w = fuW lk m ++ chF lk m (w - 1) w ++ [w] := by
  rw [show fuW lk w = chF lk 0 (w - 1) w ++ [w] from rfl, chF_split hlk hm hD (w - 1) w (by omega) (by omega) hh]
theorem fuW_pre (hlk : ∀ u x, lk u x = true → has x) {m w : Nat} (hm : 1 ≤ m) (hw : m ≤ w) (hD : ∀ u, m < u → has u → lk u m = true) (hh : has w) : fuW lk m <+: fuW lk w := by
  by_cases e : m = w
  · rw [e]; exact List.prefix_refl _
  · rw [fuW_split hlk hm (by omega) hD hh, List.append_assoc]; exact List.prefix_append _ _
/-- Two relations that agree on what has a leader vertex make the same chains. -/
theorem chF_same {lk' : Nat → Nat → Bool} {has' : Nat → Prop} (hlk' : ∀ u x, lk' u x = true → has' x) (he : ∀ u x, has' u → lk' u x = lk u x) (lo : Nat) : ∀ x cur, has' cur → chF lk' lo x cur = chF lk lo x cur
  | 0, _, _ => rfl
  | x + 1, cur, hh => by
    unfold chF
    rw [← he cur (x + 1) hh]
    by_cases h1 : x + 1 ≤ lo
    · rw [if_pos h1, if_pos h1]
    · rw [if_neg h1, if_neg h1]
      cases h2 : lk' cur (x + 1) with
      | true => rw [if_pos rfl, if_pos rfl, chF_same hlk' he lo x (x + 1) (hlk' _ _ h2)]
      | false => rw [if_neg (by simp), if_neg (by simp), chF_same hlk' he lo x cur hh]
/-- What stands in a chain: in order, below cur, each with a leader vertex; and each is linked to by the next. -/
theorem chF_mem (hlk : ∀ u x, lk u x = true → has x) (lo : Nat) : ∀ x cur, x < cur → ∀ y ∈ chF lk lo x cur, lo < y ∧ y ≤ x ∧ has y
  | 0, _, _, y, hy => by simp [chF] at hy
  | x + 1, cur, hc, y, hy => by
    unfold chF at hy
    by_cases h1 : x + 1 ≤ lo
    · rw [if_pos h1] at hy; cases hy
    · rw [if_neg h1] at hy
      cases h2 : lk cur (x + 1) with
      | true =>
        rw [h2, if_pos rfl] at hy
        rcases List.mem_append.1 hy with h | h
        · have := chF_mem hlk lo x (x + 1) (by omega) y h; exact ⟨this.1, by omega, this.2.2⟩
        · have : y = x + 1 := by simpa using h
          subst this
          exact ⟨by omega, Nat.le_refl _, hlk _ _ h2⟩
      | false =>
        rw [h2, if_neg (by simp)] at hy
        have := chF_mem hlk lo x cur (by omega) y hy; exact ⟨this.1, by omega, this.2.2⟩
theorem chF_asc (hlk : ∀ u x, lk u x = true → has x) (lo : Nat) : ∀ x cur, x < cur → (chF lk lo x cur).Pairwise (· < ·)
  | 0, _, _ => by simp [chF]
  | x + 1, cur, hc => by
    unfold chF
    by_cases h1 : x + 1 ≤ lo
    · rw [if_pos h1]; exact .nil
    · rw [if_neg h1]
      cases h2 : lk cur (x + 1) with
      | true =>
        rw [if_pos rfl]
        refine List.pairwise_append.2 ⟨chF_asc hlk lo x (x + 1) (by omega), by simp, fun a ha b hb => ?_⟩
        have := (chF_mem hlk lo x (x + 1) (by omega) a ha).2.1
        have : b = x + 1 := by simpa using hb
        omega
      | false => rw [if_neg (by simp)]; exact chF_asc hlk lo x cur (by omega)
/-- Each is linked to by the next one. -/
def Lkd (lk : Nat → Nat → Bool) : List Nat → Prop
  | a :: b :: r => lk b a = true ∧ Lkd lk (b :: r)
  | _ => True
theorem lkd_snoc {lk : Nat → Nat → Bool} : ∀ (l : List Nat) (a b : Nat), Lkd lk (l ++ [a]) → lk b a = true → Lkd lk (l ++ [a] ++ [b])
  | [], _, _, _, h => ⟨h, trivial⟩
  | [_], _, _, h1, h => ⟨h1.1, h, trivial⟩
  | _ :: d :: l, a, b, h1, h => ⟨h1.1, lkd_snoc (d :: l) a b h1.2 h⟩
theorem chF_lkd (lo : Nat) : ∀ x cur, Lkd lk (chF lk lo x cur ++ [cur])
  | 0, _ => trivial
  | x + 1, cur => by
    unfold chF
    by_cases h1 : x + 1 ≤ lo
    · rw [if_pos h1]; trivial
    · rw [if_neg h1]
      cases h2 : lk cur (x + 1) with
      | true => rw [if_pos rfl]; exact lkd_snoc _ _ _ (chF_lkd lo x (x + 1)) h2
      | false => rw [if_neg (by simp)]; exact chF_lkd lo x cur
theorem lkd_at {lk : Nat → Nat → Bool} : ∀ (l : List Nat), Lkd lk l → ∀ i (h : i + 1 < l.length), lk l[i + 1] (l[i]'(by omega)) = true
  | [], _, i, h => by simp at h
  | [_], _, i, h => by simp at h
  | a :: b :: r, hl, 0, _ => hl.1
  | a :: b :: r, hl, i + 1, h => lkd_at (b :: r) hl.2 i (by simpa using h)
theorem fuW_asc (hlk : ∀ u x, lk u x = true → has x) {w : Nat} (hw : 1 ≤ w) : (fuW lk w).Pairwise (· < ·) := by
  refine List.pairwise_append.2 ⟨chF_asc hlk 0 (w - 1) w (by omega), by simp, fun a ha b hb => ?_⟩
  have := (chF_mem hlk 0 (w - 1) w (by omega) a ha).2.1
  have : b = w := by simpa using hb
  omega
theorem fuW_mem (hlk : ∀ u x, lk u x = true → has x) {w : Nat} (hw : 1 ≤ w) (hh : has w) : ∀ y ∈ fuW lk w, 1 ≤ y ∧ y ≤ w ∧ has y := by
  intro y hy
  rcases List.mem_append.1 hy with h | h
  · have := chF_mem hlk 0 (w - 1) w (by omega) y h; exact ⟨by omega, by omega, this.2.2⟩
  · have : y = w := by simpa using h
    subst this; exact ⟨hw, Nat.le_refl _, hh⟩
theorem fuW_lkd (w : Nat) : Lkd lk (fuW lk w) := chF_lkd 0 (w - 1) w
end

/-- Whether a wave is committed directly. -/
def dirB (c : List Int) (g : List Vx) (ls : List Int) (w : Nat) : Bool := decide (totalZ c / 3 + 1 ≤ voZ c g ls w)
theorem dir_has {c : List Int} {g : List Vx} {ls : List Int} {w : Nat} (hv : validB c = true) (h : dirB c g ls w = true) : 0 ≤ ldZ g ls w := by
  have h := of_decide_eq_true h
  have hb := totalZ_bd hv
  by_cases h0 : 0 ≤ ldZ g ls w
  · exact h0
  · unfold voZ at h; rw [if_neg h0] at h; omega
theorem wvs_no' {c : List Int} {g : List Vx} {ls : List Int} {m : Nat} (h : dirB c g ls (m + 1) = false) : wvs c g ls (m + 1) = wvs c g ls m := by
  have := of_decide_eq_false h
  exact wvs_no (by omega) (by omega)
theorem wvs_yes' {c : List Int} {g : List Vx} {ls : List Int} {m : Nat} (h : dirB c g ls (m + 1) = true) : wvs c g ls (m + 1) = ((wvs c g ls m).1 ++ chZ g ls (wvs c g ls m).2 m [((m + 1 : Nat) : Int)] (ldZ g ls (m + 1)), m + 1) := by
  have := of_decide_eq_true h
  exact wvs_yes (by omega) (by omega)
/-- The last wave among the first m that is committed directly: 0 if there is none. -/
theorem wvs_last {c : List Int} {g : List Vx} {ls : List Int} : ∀ m, (wvs c g ls m).2 ≤ m ∧ ((wvs c g ls m).2 = 0 ∨ dirB c g ls (wvs c g ls m).2 = true) ∧ ∀ w, 1 ≤ w → w ≤ m → dirB c g ls w = true → w ≤ (wvs c g ls m).2
  | 0 => ⟨Nat.le_refl _, .inl rfl, fun w h1 h2 => by omega⟩
  | m + 1 => by
    obtain ⟨i1, i2, i3⟩ := wvs_last (c := c) (g := g) (ls := ls) m
    cases h : dirB c g ls (m + 1) with
    | false =>
      rw [wvs_no' h]
      refine ⟨by omega, i2, fun w h1 h2 h3 => ?_⟩
      by_cases e : w = m + 1
      · rw [e, h] at h3; cases h3
      · exact i3 w h1 (by omega) h3
    | true =>
      rw [wvs_yes' h]
      exact ⟨Nat.le_refl _, .inr h, fun w _ h2 _ => h2⟩
/-- What is committed is the whole chain back from the last wave that is committed directly. -/
theorem wvs_full {c : List Int} {g : List Vx} {ls : List Int} (hv : validB c = true) (hR : ∀ m u, 1 ≤ m → dirB c g ls m = true → m < u → 0 ≤ ldZ g ls u → lkB g ls u m = true) : ∀ m, (wvs c g ls m).1 = if (wvs c g ls m).2 = 0 then [] else (fuW (lkB g ls) (wvs c g ls m).2).map Int.ofNat
  | 0 => rfl
  | m + 1 => by
    have ih := wvs_full hv hR m
    have hl := wvs_last (c := c) (g := g) (ls := ls) m
    cases h : dirB c g ls (m + 1) with
    | false => rw [wvs_no' h]; exact ih
    | true =>
      have hh := dir_has hv h
      rw [wvs_yes' h]
      show (wvs c g ls m).1 ++ chZ g ls (wvs c g ls m).2 m [((m + 1 : Nat) : Int)] (ldZ g ls (m + 1)) = if m + 1 = 0 then [] else _
      rw [if_neg (by omega), chZ_chF]
      by_cases h0 : (wvs c g ls m).2 = 0
      · rw [if_pos h0] at ih
        rw [ih, h0]; simp [fuW]
      · rw [if_neg h0] at ih
        have hd := hl.2.1.resolve_left h0
        rw [ih, fuW_split (lk := lkB g ls) (has := fun u => 0 ≤ ldZ g ls u) (m := (wvs c g ls m).2) (w := m + 1) (fun u x => lk_has) (by omega) (by omega) (fun u hu hh => hR _ u (by omega) hd hu hh) hh]
        simp

theorem cwZ_len (c : List Int) (g : List Vx) (ls : List Int) : (cwZ c g ls).length ≤ ls.length := by
  unfold cwZ
  split
  · have := wvs_len (c := c) (g := g) (ls := ls) ls.length; omega
  · simp

end Go.Proofs.YtjaacdapibokiabGreatDoor

/- Places of a graph by round and author, and a graph whose vertices are linked by pointers: how it lies in memory, what stays of it when other memory is made or written; no conditions. -/
namespace Go.Proofs.YtjaacdapibokiabGreatDoor
open Go.RowKit

/-- The number of the place of a round and an author. -/
def plN (r a : Int) : Nat := 1 + (r.toNat * 7 + a.toNat)
/-- Before the place (r, a). -/
def plB (r a : Nat) (v : Vx) : Bool := decide (v.r < r ∨ v.r = r ∧ v.a < a)
def inPl (v : Vx) : Prop := 0 ≤ v.r ∧ v.r ≤ 30 ∧ 0 ≤ v.a ∧ v.a ≤ 6
theorem plN_inj {r a r' a' : Int} (hr : 0 ≤ r) (ha : 0 ≤ a) (ha' : a ≤ 6) (hr2 : 0 ≤ r') (ha2 : 0 ≤ a') (ha2' : a' ≤ 6) (h : plN r a = plN r' a') : r = r' ∧ a = a' := by
  unfold plN at h; omega
theorem plN_bd {r a : Int} (h : r ≤ 30) (ha : a ≤ 6) : 1 ≤ plN r a ∧ plN r a < 218 := by unfold plN; omega
/-- What stands before a place. -/
def outZ (g : List Vx) (r a : Nat) : List Vx := g.filter (plB r a)
def Srt (g : List Vx) : Prop := g.Pairwise fun a b => befB a b = true
theorem outZ_zero {g : List Vx} (h : ∀ v ∈ g, inPl v) : outZ g 0 0 = [] := by
  unfold outZ
  rw [List.filter_eq_nil_iff]
  intro v hv
  have := h v hv
  unfold inPl at this
  unfold plB
  simp; omega
theorem outZ_row {g : List Vx} (h : ∀ v ∈ g, inPl v) (r : Nat) : outZ g r 7 = outZ g (r + 1) 0 := by
  unfold outZ
  refine List.filter_congr fun v hv => ?_
  have := h v hv
  unfold inPl at this
  unfold plB
  rw [Bool.eq_iff_iff, decide_eq_true_iff, decide_eq_true_iff]; omega
theorem outZ_end {g : List Vx} (h : ∀ v ∈ g, inPl v) : outZ g 31 0 = g := by
  unfold outZ
  rw [List.filter_eq_self]
  intro v hv
  have := h v hv
  unfold inPl at this
  unfold plB
  simp; omega
theorem outZ_len (g : List Vx) (r a : Nat) : (outZ g r a).length ≤ g.length := List.length_filter_le _ _
theorem befB_iff {x y : Vx} : befB x y = true ↔ (x.r < y.r ∨ x.r = y.r ∧ x.a < y.a) := by unfold befB; exact decide_eq_true_iff
theorem outZ_step {g : List Vx} (h : Srt g) (r a : Nat) : outZ g r (a + 1) = outZ g r a ++ g.filter (sameRA r a) := by
  unfold outZ
  induction g with
  | nil => rfl
  | cons x g ih =>
    have hx := (List.pairwise_cons.1 h).1
    have ih := ih (List.pairwise_cons.1 h).2
    by_cases hp : plB r a x = true
    · have h1 : plB r (a + 1) x = true := by unfold plB at hp ⊢; simp at hp ⊢; omega
      have h2 : sameRA r a x = false := by unfold plB at hp; unfold sameRA; simp at hp ⊢; omega
      rw [List.filter_cons, if_pos h1, List.filter_cons, if_pos hp, List.filter_cons (p := sameRA r a), h2, ih]; rfl
    · have hno : g.filter (plB r a) = [] := by
        rw [List.filter_eq_nil_iff]
        intro v hv
        have hb := befB_iff.1 (hx v hv)
        unfold plB at hp ⊢
        simp at hp ⊢
        omega
      rw [hno, List.nil_append] at ih
      rw [List.filter_cons, List.filter_cons (p := plB r a), if_neg hp, hno, List.nil_append, List.filter_cons (p := sameRA r a), ih]
      have e : plB r (a + 1) x = sameRA r a x := by
        unfold plB sameRA at *
        simp at hp
        rw [Bool.eq_iff_iff, decide_eq_true_iff, decide_eq_true_iff]
        omega
      rw [e]
theorem srt_uni {g : List Vx} (h : Srt g) {x y : Vx} (hx : x ∈ g) (hy : y ∈ g) (hr : x.r = y.r) (ha : x.a = y.a) : x = y := by
  induction g with
  | nil => cases hx
  | cons z g ih =>
    have hz := (List.pairwise_cons.1 h).1
    rcases List.mem_cons.1 hx with rfl | hx'
    · rcases List.mem_cons.1 hy with rfl | hy'
      · rfl
      · have := befB_iff.1 (hz y hy'); omega
    · rcases List.mem_cons.1 hy with rfl | hy'
      · have := befB_iff.1 (hz x hx'); omega
      · exact ih (List.pairwise_cons.1 h).2 hx' hy'
theorem filter_uni {g : List Vx} (h : Srt g) {x : Vx} (hx : x ∈ g) : g.filter (sameRA x.r x.a) = [x] := by
  induction g with
  | nil => cases hx
  | cons z g ih =>
    have hz := (List.pairwise_cons.1 h).1
    have hsame : ∀ v, sameRA x.r x.a v = true ↔ v.r = x.r ∧ v.a = x.a := fun v => by unfold sameRA; exact decide_eq_true_iff
    rcases List.mem_cons.1 hx with rfl | hx'
    · rw [List.filter_cons, if_pos ((hsame _).2 ⟨rfl, rfl⟩)]
      congr 1
      rw [List.filter_eq_nil_iff]
      intro v hv e
      have := (hsame v).1 e
      have := befB_iff.1 (hz v hv); omega
    · rw [List.filter_cons, if_neg, ih (List.pairwise_cons.1 h).2 hx']
      intro e
      have := (hsame z).1 e
      have := befB_iff.1 (hz x hx'); omega
theorem filter_none {g : List Vx} {r a : Int} (h : ∀ v ∈ g, ¬ (v.r = r ∧ v.a = a)) : g.filter (sameRA r a) = [] := by
  rw [List.filter_eq_nil_iff]
  intro v hv e
  exact h v hv (of_decide_eq_true e)
theorem outZ_yes {g : List Vx} (h : Srt g) {r a : Nat} {x : Vx} (hx : x ∈ g) (hr : x.r = r) (ha : x.a = a) : outZ g r (a + 1) = outZ g r a ++ [x] := by
  rw [outZ_step h, ← hr, ← ha, filter_uni h hx]
theorem outZ_no {g : List Vx} (h : Srt g) {r a : Nat} (hn : ∀ v ∈ g, ¬ (v.r = r ∧ v.a = a)) : outZ g r (a + 1) = outZ g r a := by
  rw [outZ_step h, filter_none hn, List.append_nil]

/-! finding by a place -/
theorem findZ_mem {g : List Vx} (h : Srt g) {x : Vx} (hx : x ∈ g) : ∃ k : Nat, ∃ hk : k < g.length, findZ g x.r x.a = k ∧ g[k] = x := by
  rcases findZ_cases g x.r x.a with ⟨_, hno⟩ | ⟨k, hk, e, hs, _⟩
  · have := hno x hx; unfold sameRA at this; simp at this
  · refine ⟨k, hk, e, srt_uni h (List.getElem_mem hk) hx ?_ ?_⟩ <;> (unfold sameRA at hs; simp at hs; omega)
theorem findZ_none {g : List Vx} {r a : Int} (h : ∀ v ∈ g, ¬ (v.r = r ∧ v.a = a)) : findZ g r a = -1 := by
  rcases findZ_cases g r a with ⟨e, _⟩ | ⟨k, hk, _, hs, _⟩
  · exact e
  · exact absurd (of_decide_eq_true hs) (h _ (List.getElem_mem hk))

/-! adding by a place -/
theorem bef_total {x y : Vx} (h : ¬ (x.r = y.r ∧ x.a = y.a)) (hb : befB x y = false) : befB y x = true := by
  unfold befB at hb; simp at hb
  refine befB_iff.2 ?_; omega
theorem ins_mem {g : List Vx} {x y : Vx} : y ∈ insG g x ↔ y ∈ g ∨ y = x := by
  unfold insG
  rw [List.mem_append, List.mem_append, List.mem_singleton]
  constructor
  · rintro ((h | h) | h)
    · exact .inl (List.mem_of_mem_take h)
    · exact .inr h
    · exact .inl (List.mem_of_mem_drop h)
  · rintro (h | h)
    · rw [← List.take_append_drop (insN g x) g, List.mem_append] at h
      rcases h with h | h
      · exact .inl (.inl h)
      · exact .inr h
    · exact .inl (.inr h)
theorem ins_srt {g : List Vx} {x : Vx} (h : Srt g) (hn : ∀ v ∈ g, ¬ (v.r = x.r ∧ v.a = x.a)) : Srt (insG g x) := by
  unfold Srt insG insN at *
  induction g with
  | nil => simp
  | cons z g ih =>
    obtain ⟨hz, hg⟩ := List.pairwise_cons.1 h
    rw [List.findIdx_cons]
    by_cases hb : befB z x = true
    · simp only [hb, Bool.not_true, cond_false, List.take_succ_cons, List.drop_succ_cons, List.cons_append]
      refine List.pairwise_cons.2 ⟨fun v hv => ?_, ih hg (fun v hv => hn v (List.mem_cons_of_mem _ hv))⟩
      rcases (ins_mem (g := g) (x := x)).1 hv with hv | rfl
      · exact hz v hv
      · exact hb
    · have hb' : befB z x = false := by simpa using hb
      simp only [hb', Bool.not_false, cond_true, List.take_zero, List.drop_zero, List.nil_append, List.singleton_append]
      have hxz := bef_total (hn z (by simp)) hb'
      refine List.pairwise_cons.2 ⟨fun v hv => ?_, h⟩
      rcases List.mem_cons.1 hv with rfl | hv
      · exact hxz
      · exact bef_trans hxz (hz v hv)
theorem ins_last {g : List Vx} {x : Vx} (h : ∀ v ∈ g, befB v x = true) : insG g x = g ++ [x] := by
  have : insN g x = g.length := by
    unfold insN
    exact List.findIdx_eq_length.2 fun y hy => by simp [h y hy]
  unfold insG; rw [this]; simp
theorem addG_lenP (g : List Vx) (x : Vx) : (addG g x).length ≤ g.length + 1 := by
  unfold addG
  split
  · unfold insG
    rw [List.length_append, List.length_append, List.length_take, List.length_drop]
    simp; omega
  · omega
theorem addG_memP {g : List Vx} {x y : Vx} (h : y ∈ addG g x) : y ∈ g ∨ y = x := by
  unfold addG at h
  split at h
  · exact ins_mem.1 h
  · exact .inl h
def arrP (n : Nat) (f : Nat → Value) : Array Value := ((List.range n).map f).toArray
theorem arrP_size (n : Nat) (f : Nat → Value) : (arrP n f).size = n := by simp [arrP]
theorem arrP_get {n : Nat} {f : Nat → Value} {j : Nat} (h : j < n) : (arrP n f)[j]? = some (f j) := by simp [arrP, h]
theorem arrP_set {n : Nat} {f : Nat → Value} {k : Nat} {v : Value} : (arrP n f).setIfInBounds k v = arrP n fun i => if i = k then v else f i := by
  apply Array.ext
  · simp [arrP]
  · intro j h1 h2
    have hj : j < n := by simpa [arrP] using h2
    rw [Array.getElem_setIfInBounds (by simpa [arrP] using hj)]
    by_cases e : k = j
    · subst e; simp [arrP]
    · have e' : ¬ j = k := fun h => e h.symm
      simp [arrP, e, e']

def ptrV (q : Nat) : Value := .pointer (some ⟨q, 0, none⟩)
theorem ptrV_one (q : Nat) : (ptrV q).oneCell' = true := rfl
theorem ptrV_none (q : Nat) : ptrV q ≠ .pointer none := by intro h; cases h
/-- A list of pointers of the call's own. -/
def OwnP (E : TypeId) (w : World) (B : Nat) (v : Value) (qs : List Nat) : Prop := w.ownsRow B E 1 v qs.length (qs.map ptrV)
section
variable {E : TypeId} {w w' : World} {B : Nat} {v : Value} {qs : List Nat}
theorem OwnP.nil (E : TypeId) (w : World) (B : Nat) : OwnP E w B (.slice none 0 0) [] := World.ownsRow_nil _ _ _ _
theorem OwnP.kept {row : Option Nat} (h : OwnP E w B v qs) (hg : w.grownBy w' row) (hne : v.ownBlock = none ∨ v.ownBlock ≠ row) : OwnP E w' B v qs := World.ownsRow.kept h hg hne
theorem OwnP.lt (h : OwnP E w B v qs) : ∀ k, v.ownBlock = some k → B ≤ k ∧ k < w.heap.size := World.ownsRow.lt h
theorem OwnP.below (h : OwnP E w B v qs) (hg : Below w.heap.size w w') : OwnP E w' B v qs := h.kept (below_grown hg) (by cases hv : v.ownBlock <;> simp)
theorem OwnP.slice (h : OwnP E w B v qs) : ∃ a cap, v = .slice a qs.length cap ∧ qs.length ≤ maxLen := by
  rcases h.2 with ⟨rfl, h0⟩ | ⟨g, cap, cur, rfl, hb, hg, hn, hm, hs, ht⟩
  · exact ⟨none, 0, by rw [h0], by rw [h0]; simp⟩
  · exact ⟨_, cap, rfl, by omega⟩
theorem OwnP.cell (h : OwnP E w B v qs) (j : Nat) (hj : j < qs.length) : ∃ g cap, v = .slice (some ⟨g, 0, none⟩) qs.length cap ∧ B ≤ g ∧ g < w.heap.size ∧ w.cell? ⟨g, j, none⟩ = some (ptrV qs[j]) := by
  rcases h.2 with ⟨rfl, h0⟩ | ⟨g, cap, cur, rfl, hb, hg, hn, hm, hs, ht⟩
  · omega
  · refine ⟨g, cap, rfl, hb, (Array.getElem?_eq_some_iff.1 hg).1, ?_⟩
    have hc := World.ownsRow.cells (w := w) (base := B) (e := E) (size := 1) (v := .slice (some ⟨g, 0, none⟩) qs.length cap) (n := qs.length) (xs := qs.map ptrV) h (g := g) rfl j (ptrV qs[j]) (by simp [hj])
    rwa [addr_add] at hc
end

theorem cells_ptr (w : World) (E : TypeId) (q : Nat) : ∀ j u, [ptrV q][j]? = some u → (w.alloc (.cells #[ptrV q] E)).cell? ((⟨w.heap.size, 0, none⟩ : Addr).add j) = some u := by
  intro j u hu
  match j, hu with
  | 0, hu =>
    simp at hu; subst hu
    rw [addr_add, World.cell?_alloc_at _ _ _ _ rfl]; rfl

/-- A vertex with pointers to its parents: its numbers and list as they were at first, the pointers of the call's own. -/
structure Nd (w0 w : World) (hi G : Nat) (h : Nat → Value) (q : Nat) (y : Vx) : Prop where
  lo : w0.heap.size ≤ q
  lt : q < hi
  ne : q ≠ G
  ex : ∃ pa pc pv qs, Str w q 66 #[.int .i64 y.r, .int .i64 y.a, .slice pa y.ps.length pc, .int .i64 y.d, pv] ∧ IntsAt w0 pa y.ps ∧ SrcAt w0 pa pc y.ps ∧ OwnP 62 w w0.heap.size pv qs ∧
    (∀ b, pv.ownBlock = some b → b ≠ G ∧ b < hi) ∧ qs.length = y.ps.length ∧ ∀ j (hj : j < qs.length) (hj' : j < y.ps.length), h (plN (y.r - 1) y.ps[j]) = ptrV qs[j]
theorem Nd.kept {w0 w w' : World} {hi G q : Nat} {h : Nat → Value} {y : Vx} {row : Option Nat} (n : Nd w0 w hi G h q y) (hg : w.grownBy w' row) (hrow : ∀ m, row = some m → hi ≤ m ∨ m = G) : Nd w0 w' hi G h q y := by
  obtain ⟨pa, pc, pv, qs, s, i, c, o, ob, l, p⟩ := n.ex
  refine ⟨n.lo, n.lt, n.ne, pa, pc, pv, qs, s.kept hg fun e => ?_, i, c, o.kept hg ?_, ob, l, p⟩
  · have := n.lt; have := n.ne; rcases hrow q e.symm with h | h <;> omega
  · cases hv : pv.ownBlock with
    | none => exact .inl rfl
    | some b =>
      refine .inr fun e => ?_
      have := ob b hv
      rcases hrow b e.symm with h | h <;> omega
/-- A graph: the places of its block point to its vertices. -/
structure Lk (w0 w : World) (hi G : Nat) (mv : Value) (h : Nat → Value) (g : List Vx) : Prop where
  lo : w0.heap.size ≤ G
  lt : G < hi
  le : hi ≤ w.heap.size
  str : Str w G 108 (arrP 218 h)
  mem : h 0 = mv
  has : ∀ y ∈ g, ∃ q, h (plN y.r y.a) = ptrV q ∧ Nd w0 w hi G h q y
  non : ∀ r a : Int, 0 ≤ r → r ≤ 30 → 0 ≤ a → a ≤ 6 → (∀ y ∈ g, ¬ (y.r = r ∧ y.a = a)) → h (plN r a) = .pointer none
theorem Lk.kept {w0 w w' : World} {hi G : Nat} {mv : Value} {h : Nat → Value} {g : List Vx} {row : Option Nat} (l : Lk w0 w hi G mv h g) (hg : w.grownBy w' row) (hrow : ∀ m, row = some m → hi ≤ m) : Lk w0 w' hi G mv h g := by
  refine ⟨l.lo, l.lt, Nat.le_trans l.le hg.size, l.str.kept hg fun e => ?_, l.mem, fun y hy => ?_, l.non⟩
  · have := hrow G e.symm; have := l.lt; omega
  · obtain ⟨q, e, n⟩ := l.has y hy
    exact ⟨q, e, n.kept hg fun m e => .inl (hrow m e)⟩
theorem Lk.under {w0 w w' : World} {hi G : Nat} {mv : Value} {h : Nat → Value} {g : List Vx} (l : Lk w0 w hi G mv h g) (hb : Below w.heap.size w w') : Lk w0 w' hi G mv h g := l.kept (below_grown hb) fun _ e => by cases e
theorem Lk.cell {w0 w : World} {hi G : Nat} {mv : Value} {h : Nat → Value} {g : List Vx} (l : Lk w0 w hi G mv h g) {k : Nat} (hk : k < 218) : w.cell? ⟨G, k, none⟩ = some (h k) := l.str.cell k (arrP_get hk)
theorem Lk.same {w0 w : World} {hi G : Nat} {mv : Value} {h : Nat → Value} {g g' : List Vx} (l : Lk w0 w hi G mv h g) (hs : ∀ y, y ∈ g' ↔ y ∈ g) : Lk w0 w hi G mv h g' :=
  ⟨l.lo, l.lt, l.le, l.str, l.mem, fun y hy => l.has y ((hs y).1 hy), fun r a h1 h2 h3 h4 hn => l.non r a h1 h2 h3 h4 fun y hy => hn y ((hs y).2 hy)⟩
/-- An empty graph. -/
theorem Lk.new {w0 w' : World} {G hi : Nat} {mv : Value} (hs : Str w' G 108 (arrP 218 fun i => if i = 0 then mv else .pointer none)) (hG : w0.heap.size ≤ G) (hhi : G < hi) (hle : hi ≤ w'.heap.size) :
    Lk w0 w' hi G mv (fun i => if i = 0 then mv else .pointer none) [] :=
  ⟨hG, hhi, hle, hs, by simp, (fun y hy => by cases hy), fun r a h1 h2 h3 h4 _ => by rw [if_neg]; unfold plN; omega⟩
/-- A vertex is put into its place. -/
theorem Lk.put {w0 w w1 : World} {hi G q : Nat} {mv : Value} {h : Nat → Value} {g g' : List Vx} {x : Vx} (l : Lk w0 w hi G mv h g) (hg : w.grownBy w1 none) (hx : inPl x) (hno : ∀ y ∈ g, ¬ (y.r = x.r ∧ y.a = x.a))
    (hq : hi ≤ q) {hi2 : Nat} (hq2 : q < hi2) (hh : hi ≤ hi2) (hz : hi2 ≤ w1.heap.size) {pa : Option Addr} {pc : Nat} {pv : Value} {qs : List Nat} (hs : Str w1 q 66 #[.int .i64 x.r, .int .i64 x.a, .slice pa x.ps.length pc, .int .i64 x.d, pv]) (hi' : IntsAt w0 pa x.ps) (hsr : SrcAt w0 pa pc x.ps)
    (ho : OwnP 62 w1 w0.heap.size pv qs) (hob : ∀ b, pv.ownBlock = some b → b ≠ G ∧ b < hi2) (hl : qs.length = x.ps.length) (hp : ∀ j (hj : j < qs.length) (hj' : j < x.ps.length), h (plN (x.r - 1) x.ps[j]) = ptrV qs[j]) (hg' : ∀ y, y ∈ g' ↔ y ∈ g ∨ y = x) :
    Lk w0 (w1.setCell ⟨G, plN x.r x.a, none⟩ (ptrV q)) hi2 G mv (fun i => if i = plN x.r x.a then ptrV q else h i) g' := by
  have hb := plN_bd hx.2.1 hx.2.2.2
  have hnil : h (plN x.r x.a) = .pointer none := l.non x.r x.a hx.1 hx.2.1 hx.2.2.1 hx.2.2.2 hno
  have hsafe : ∀ k p, h k = ptrV p → k ≠ plN x.r x.a := fun k p e e2 => by rw [e2, hnil] at e; cases e
  have hgs := grownBy_set w1 G (plN x.r x.a) (ptrV q)
  have hgG : q ≠ G := by have := l.lt; omega
  refine ⟨l.lo, Nat.lt_of_lt_of_le l.lt hh, by rw [World.size_setCell]; exact hz, ?_, ?_, fun y hy => ?_, fun r a h1 h2 h3 h4 hn => ?_⟩
  · have := (l.str.kept hg (by simp)).set (plN x.r x.a) (ptrV q)
    rwa [arrP_set] at this
  · rw [if_neg (by omega)]; exact l.mem
  · rcases (hg' y).1 hy with hy | rfl
    · obtain ⟨p, e, n⟩ := l.has y hy
      have n1 := (n.kept hg fun m e => by cases e).kept hgs fun m e => by cases e; exact .inr rfl
      refine ⟨p, by rw [if_neg (hsafe _ _ e)]; exact e, n1.lo, Nat.lt_of_lt_of_le n1.lt hh, n1.ne, ?_⟩
      obtain ⟨pa', pc', pv', qs', s, i, c, o, ob, l', p'⟩ := n1.ex
      refine ⟨pa', pc', pv', qs', s, i, c, o, fun b hb => ⟨(ob b hb).1, Nat.lt_of_lt_of_le (ob b hb).2 hh⟩, l', fun j hj hj' => ?_⟩
      have := p' j hj hj'
      rw [if_neg (hsafe _ _ this)]; exact this
    · refine ⟨q, by simp, Nat.le_trans l.lo (Nat.le_trans (Nat.le_of_lt l.lt) hq), hq2, hgG, pa, pc, pv, qs, hs.kept hgs (by simpa using hgG), hi', hsr, ho.kept hgs ?_, hob, hl, fun j hj hj' => ?_⟩
      · cases hv : pv.ownBlock with
        | none => exact .inl rfl
        | some b => refine .inr fun e => (hob b hv).1 ?_; cases e; rfl
      · have := hp j hj hj'
        rw [if_neg (hsafe _ _ this)]; exact this
  · skip
    rw [if_neg, l.non r a h1 h2 h3 h4 fun y hy => hn y ((hg' y).2 (.inl hy))]
    intro e
    obtain ⟨e1, e2⟩ := plN_inj h1 h3 h4 hx.1 hx.2.2.1 hx.2.2.2 e
    exact hn x ((hg' x).2 (.inr rfl)) ⟨e1.symm, e2.symm⟩
end Go.Proofs.YtjaacdapibokiabGreatDoor

/- What impl's functions of digests and hash trees answer, each by a walk of its text: the answers are those of plain functions on lists; conditions: a list that is read has fewer than 2^40 elements and fits its capacity, the numbers are ints. -/
namespace Go.Proofs.YtjaacdapibokiabGreatDoor
open Go.RowKit

theorem impl_isDigest (n : Int) (w : World) : Calls Tryz.prog 104 #[.int .i64 n] w fun e w' => e = .returned (.bool (digB n)) ∧ w = w' := by
  by_cases h : 0 ≤ n
  · have Hf := Lib.hid (show digB n = decide (n < 991) by unfold digB; rw [Bool.eq_iff_iff]; simp only [decide_eq_true_eq]; omega)
    go_enter Tryz.func104, Tryz.ntmps104
    go_wp2
    go_ret
    exact ⟨ret_bool Hf.out.symm, rfl⟩
  · have Hf := Lib.hid (show digB n = false by unfold digB; exact decide_eq_false (by omega))
    go_enter Tryz.func104, Tryz.ntmps104
    go_wp2
    go_ret
    exact ⟨ret_bool Hf.out.symm, rfl⟩

end Go.Proofs.YtjaacdapibokiabGreatDoor

/- The library's test whether two lists of ints are the same, and its copy of a list of ints, by walks of their texts; conditions: the lists have fewer than 2^40 elements. -/
namespace Go.Proofs.YtjaacdapibokiabGreatDoor
open Go.RowKit

def EqTo (xs ys : List Int) (k : Nat) : Prop := ∀ j (h : j < xs.length) (h' : j < ys.length), j < k → xs[j] = ys[j]
theorem eqTo_step {xs ys : List Int} {k : Nat} (h : EqTo xs ys k) (hk : k < xs.length) (hk' : k < ys.length) (e : xs[k] = ys[k]) : EqTo xs ys (k + 1) := by
  intro j hj hj' hjk
  by_cases ej : j = k
  · subst ej; exact e
  · exact h j hj hj' (by omega)
theorem eqTo_all {xs ys : List Int} {k : Nat} (h : EqTo xs ys k) (hk : xs.length ≤ k) (hl : xs.length = ys.length) : xs = ys :=
  List.ext_getElem hl fun j h1 h2 => h j h1 h2 (by omega)

theorem lib_Equal (a a' : Option Addr) (c c' : Nat) (xs ys : List Int) (w : World) (hbig : xs.length ≤ 1099511627776) (hbig' : ys.length ≤ 1099511627776) (hc : IntsAt w a xs) (hc' : IntsAt w a' ys) :
    Calls Tryz.prog 106 #[.slice a xs.length c, .slice a' ys.length c'] w fun e w' => e = .returned (.bool (decide (xs = ys))) ∧ Drawn w w' := by
  by_cases hl : xs.length = ys.length
  · rcases hc.len with h0 | ⟨b, off, rfl, hb, hc⟩
    · have Hf := Lib.hid (show decide (xs = ys) = true from decide_eq_true (List.ext_getElem hl fun j h1 h2 => by omega))
      have hl0 : xs.length = 0 := by omega
      rw [← hl, hl0]
      go_enter Tryz.func106, Tryz.ntmps106
      go_wp2
      go_loopw [13] (fun i wr => i = .int .i64 0 ∧ Drawn w wr) (fun _ _ => 0)
      case atStart => exact ⟨rfl, Drawn.refl _⟩
      case round =>
        obtain ⟨rfl, hdr⟩ := hrel
        go_wp2
        go_ret
        exact ⟨ret_bool Hf.out.symm, hdr⟩
    · rcases hc'.len with h0 | ⟨b', off', rfl, hb', hc'⟩
      · have Hf := Lib.hid (show decide (xs = ys) = true from decide_eq_true (List.ext_getElem hl fun j h1 h2 => by omega))
        have hl0 : xs.length = 0 := by omega
        rw [← hl, hl0]
        go_enter Tryz.func106, Tryz.ntmps106
        go_wp2
        go_loopw [13] (fun i wr => i = .int .i64 0 ∧ Drawn w wr) (fun _ _ => 0)
        case atStart => exact ⟨rfl, Drawn.refl _⟩
        case round =>
          obtain ⟨rfl, hdr⟩ := hrel
          go_wp2
          go_ret
          exact ⟨ret_bool Hf.out.symm, hdr⟩
      have Hl := Lib.hid hl
      rw [← hl]
      clear hl
      have Hc := Lib.hid hc; clear hc
      have Hc' := Lib.hid hc'; clear hc'
      go_enter Tryz.func106, Tryz.ntmps106
      go_wp2
      go_loopw [13] (fun i wr => ∃ k : Nat, k ≤ xs.length ∧ i = .int .i64 k ∧ EqTo xs ys k ∧ Drawn w wr) (fun i _ => xs.length - (intOf i).toNat)
      case atStart => exact ⟨0, by omega, rfl, fun j _ _ h => by omega, Drawn.refl _⟩
      case round =>
        obtain ⟨k, hk, rfl, heq, hdr⟩ := hrel
        have Heq := Lib.hid heq; clear heq
        by_cases hlt : k < xs.length
        · have hlt' : k < ys.length := by have := Hl.out; omega
          have c1 := (hdr.cell _).trans (Hc.out k hlt)
          have c2 := (hdr.cell _).trans (Hc'.out k hlt')
          by_cases he : xs[k] = ys[k]
          · have Hs := Lib.hid (eqTo_step Heq.out hlt hlt' he)
            rw [← he] at c2
            clear he
            generalize xs[k] = x at *
            go_wp2_with fail
            go_quiet (fail)
            go_wp2
            go_roundw
            case rel => exact ⟨k + 1, by omega, by go_num, Hs.out, hdr.drewN _⟩
            case measure => simp [intOf]; omega
          · have Hf := Lib.hid (show decide (xs = ys) = false from decide_eq_false fun e => he (by subst e; rfl))
            have hq : (xs[k] != ys[k]) = true := by simpa using he
            clear he
            generalize xs[k] = x at *
            generalize ys[k] = y at *
            go_wp2_with fail
            go_quiet (fail)
            go_wp2
            go_ret
            exact ⟨ret_bool Hf.out.symm, hdr.drewN _⟩
        · have Hf := Lib.hid (show decide (xs = ys) = true from decide_eq_true (eqTo_all Heq.out (by omega) Hl.out))
          go_wp2
          go_ret
          exact ⟨ret_bool Hf.out.symm, hdr⟩
  · have Hf := Lib.hid (show decide (xs = ys) = false from decide_eq_false fun e => hl (by rw [e]))
    have hq : ((xs.length : Int) != (ys.length : Int)) = true := by simp; omega
    clear hc hc'
    go_enter Tryz.func106, Tryz.ntmps106
    go_wp2
    go_ret
    exact ⟨ret_bool Hf.out.symm, Drawn.refl _⟩

end Go.Proofs.YtjaacdapibokiabGreatDoor

/- impl's small functions of vertices, each by a walk of its text; conditions: lists are shorter than 2^40, and where the text asks it, the committee is valid. -/
namespace Go.Proofs.YtjaacdapibokiabGreatDoor
open Go.RowKit

theorem impl_isRound (n : Int) (w : World) : Calls Tryz.prog 103 #[.int .i64 n] w fun e w' => e = .returned (.bool (rngB n)) ∧ w = w' := by
  by_cases h : 0 ≤ n
  · have Hf := Lib.hid (show rngB n = decide (n ≤ 30) by unfold rngB; rw [Bool.eq_iff_iff]; simp only [decide_eq_true_eq]; omega)
    go_enter Tryz.func103, Tryz.ntmps103
    go_wp2
    go_ret
    exact ⟨ret_bool Hf.out.symm, rfl⟩
  · have Hf := Lib.hid (show rngB n = false by unfold rngB; exact decide_eq_false (by omega))
    go_enter Tryz.func103, Tryz.ntmps103
    go_wp2
    go_ret
    exact ⟨ret_bool Hf.out.symm, rfl⟩

def qmB (c ps : List Int) : Bool := membersB c.length ps && decide (quorumZ c ≤ weightZ c ps)
theorem committee_isQuorum (ac : Option Addr) (capc : Nat) (c : List Int) (pa : Option Addr) (pc : Nat) (ps : List Int) (w : World) (hv : validB c = true) (hbig : ps.length ≤ 1099511627776) (hc : IntsAt w ac c) (hp : IntsAt w pa ps) :
    Calls Tryz.prog 105 #[.slice ac c.length capc, .slice pa ps.length pc] w fun e w' => e = .returned (.bool (qmB c ps)) ∧ w = w' := by
  obtain ⟨hn1, hn7⟩ := validB_len hv
  have H1 := Lib.hid (committee_hasMembers ac capc c.length pa pc ps w (by omega) hbig hp)
  have H2 := Lib.hid (fun (hm : membersB c.length ps = true) => committee_weight ac capc c pa pc ps w hv hm hbig hc hp)
  have H3 := Lib.hid (committee_quorum ac capc c w hv hc)
  clear hc hp
  have Hq := Lib.hid (show qmB c ps = (membersB c.length ps && decide (quorumZ c ≤ weightZ c ps)) from rfl)
  go_enter Tryz.func105, Tryz.ntmps105
  go_wp2_with fail
  refine H1.out.mono ?_
  rintro e w1 ⟨rfl, rfl⟩
  cases hm : membersB c.length ps with
  | false =>
    go_wp2
    go_ret
    exact ⟨ret_bool (by rw [Hq.out, hm]; rfl), rfl⟩
  | true =>
    have H2 := Lib.hid (H2.out hm)
    go_wp2_with fail
    refine H2.out.mono ?_
    rintro e w1 ⟨rfl, rfl⟩
    go_wp2_with fail
    refine H3.out.mono ?_
    rintro e w1 ⟨rfl, rfl⟩
    go_wp2
    go_ret
    exact ⟨ret_bool (by rw [Hq.out, hm]; rfl), rfl⟩

theorem vertex_isBefore (x y : Vx) (pa pa' : Option Addr) (pc pc' : Nat) (w : World) :
    Calls Tryz.prog 76 #[.agg #[.int .i64 x.r, .int .i64 x.a, .slice pa x.ps.length pc, .int .i64 x.d], .agg #[.int .i64 y.r, .int .i64 y.a, .slice pa' y.ps.length pc', .int .i64 y.d]] w fun e w' => e = .returned (.bool (befB x y)) ∧ Below w.heap.size w w' := by
  have hb : Below w.heap.size w ((w.alloc (.cells #[.int .i64 x.r, .int .i64 x.a, .slice pa x.ps.length pc, .int .i64 x.d] 64)).alloc (.cells #[.int .i64 y.r, .int .i64 y.a, .slice pa' y.ps.length pc', .int .i64 y.d] 64)) := ((Below.refl _ w).alloc (Nat.le_refl _) _).alloc (by simp) _
  by_cases h1 : x.r < y.r
  · have hz : befB x y = true := decide_eq_true (.inl h1)
    go_enter Tryz.func76, Tryz.ntmps76
    go_wp2
    go_ret
    exact ⟨by first | rfl | exact ret_bool (by first | rfl | rw [hz]), hb⟩
  · have h1' : decide (x.r < y.r) = false := decide_eq_false h1
    by_cases h2 : x.r = y.r
    · have hz : befB x y = decide (x.a < y.a) := by unfold befB; rw [Bool.eq_iff_iff, decide_eq_true_iff, decide_eq_true_iff]; omega
      have h2' : (x.r == y.r) = true := by simpa using h2
      clear h1 h2
      go_enter Tryz.func76, Tryz.ntmps76
      go_wp2
      go_ret
      exact ⟨by first | rfl | exact ret_bool (by first | rfl | rw [hz]), hb⟩
    · have hz : befB x y = false := decide_eq_false (by omega)
      have h2' : (x.r == y.r) = false := by simpa using h2
      go_enter Tryz.func76, Tryz.ntmps76
      go_wp2
      go_ret
      exact ⟨by first | rfl | exact ret_bool (by first | rfl | rw [hz]), hb⟩

theorem vtx_no1 {c : List Int} {x : Vx} (h : rngB x.r = false) : vtxB c x = false := by unfold vtxB; rw [h]; rfl
theorem vtx_no2 {c : List Int} {x : Vx} (h : ¬ (0 ≤ x.a ∧ x.a < (c.length : Int))) : vtxB c x = false := by
  unfold vtxB; rw [show autB c.length x.a = false from decide_eq_false (by omega)]; simp
theorem vtx_no3 {c : List Int} {x : Vx} (h : digB x.d = false) : vtxB c x = false := by unfold vtxB; rw [h]; simp
theorem vtx_0 {c : List Int} {x : Vx} (h1 : rngB x.r = true) (h2 : 0 ≤ x.a ∧ x.a < (c.length : Int)) (h3 : digB x.d = true) (h0 : x.r = 0) : vtxB c x = decide (x.ps.length = 0) := by
  unfold vtxB quoB
  rw [h1, h3, show autB c.length x.a = true from decide_eq_true (by omega), if_pos h0]
  by_cases hp : x.ps.length = 0
  · have : x.ps = [] := List.eq_nil_of_length_eq_zero hp
    rw [this]; rfl
  · rw [decide_eq_false hp]; simp
theorem vtx_1 {c : List Int} {x : Vx} (h1 : rngB x.r = true) (h2 : 0 ≤ x.a ∧ x.a < (c.length : Int)) (h3 : digB x.d = true) (h0 : ¬ x.r = 0) : vtxB c x = qmB c x.ps := by
  unfold vtxB quoB qmB
  rw [h1, h3, show autB c.length x.a = true from decide_eq_true (by omega), if_neg h0]
  simp
set_option maxHeartbeats 1000000 in
theorem vertex_fits (ac : Option Addr) (capc : Nat) (c : List Int) (x : Vx) (pa : Option Addr) (pc : Nat) (w : World) (hv : validB c = true) (hbig : x.ps.length ≤ 1099511627776) (hc : IntsAt w ac c) (hp : IntsAt w pa x.ps) :
    Calls Tryz.prog 94 #[.agg #[.int .i64 x.r, .int .i64 x.a, .slice pa x.ps.length pc, .int .i64 x.d], .slice ac c.length capc] w fun e w' => e = .returned (.bool (vtxB c x)) ∧ Below w.heap.size w w' := by
  obtain ⟨hn1, hn7⟩ := validB_len hv
  have hb0 : Below w.heap.size w (w.alloc (.cells #[.int .i64 x.r, .int .i64 x.a, .slice pa x.ps.length pc, .int .i64 x.d] 64)) := (Below.refl _ _).alloc (Nat.le_refl _) _
  have s0 := Str.new w 64 #[.int .i64 x.r, .int .i64 x.a, .slice pa x.ps.length pc, .int .i64 x.d]
  have k0 := s0.cell 0 (v := .int .i64 x.r) rfl
  have k1 := s0.cell 1 (v := .int .i64 x.a) rfl
  have k2 := s0.cell 2 (v := .slice pa x.ps.length pc) rfl
  have k3 := s0.cell 3 (v := .int .i64 x.d) rfl
  have H4 := Lib.hid (committee_isQuorum ac capc c pa pc x.ps _ hv hbig (hc.below hb0) (hp.below hb0))
  have Hb0 := Lib.hid hb0
  have N1 := Lib.hid (vtx_no1 (c := c) (x := x))
  have N2 := Lib.hid (vtx_no2 (c := c) (x := x))
  have N3 := Lib.hid (vtx_no3 (c := c) (x := x))
  have Y0 := Lib.hid (vtx_0 (c := c) (x := x))
  have Y1 := Lib.hid (vtx_1 (c := c) (x := x))
  clear hb0 s0 hc hp
  go_enter Tryz.func94, Tryz.ntmps94
  go_wp2_with fail
  generalize w.alloc (.cells #[.int .i64 x.r, .int .i64 x.a, .slice pa x.ps.length pc, .int .i64 x.d] 64) = W0 at *
  refine (impl_isRound x.r W0).mono ?_
  rintro e w1 ⟨rfl, rfl⟩
  cases h1 : rngB x.r with
  | false =>
    have hz := N1.out h1
    go_wp2
    go_ret
    exact ⟨ret_bool (by rw [hz]), Hb0.out⟩
  | true =>
  by_cases h2 : 0 ≤ x.a
  case neg =>
    have Hz := Lib.hid (N2.out (by omega))
    have h2' : x.a < 0 := by omega
    go_wp2
    go_ret
    exact ⟨ret_bool (by rw [Hz.out]), Hb0.out⟩
  by_cases h3 : x.a < (c.length : Int)
  case neg =>
    have Hz := Lib.hid (N2.out (by omega))
    have h3' : (c.length : Int) ≤ x.a := by omega
    go_wp2
    go_ret
    exact ⟨ret_bool (by rw [Hz.out]), Hb0.out⟩
  have h3' : ¬ (c.length : Int) ≤ x.a := by omega
  go_wp2_with fail
  refine (impl_isDigest x.d W0).mono ?_
  rintro e w1 ⟨rfl, rfl⟩
  cases h4 : digB x.d with
  | false =>
    have Hz := Lib.hid (N3.out h4)
    go_wp2
    go_ret
    exact ⟨ret_bool (by rw [Hz.out]), Hb0.out⟩
  | true =>
  by_cases h0 : x.r = 0
  · have Hz := Lib.hid (Y0.out h1 ⟨h2, h3⟩ h4 h0)
    have h0' : (x.r == 0) = true := by simpa using h0
    clear h0 N1 N2 N3 Y0 Y1
    go_wp2
    go_ret
    exact ⟨ret_bool (by rw [Hz.out, Bool.eq_iff_iff, beq_iff_eq, decide_eq_true_iff]; omega), Hb0.out⟩
  · have Hz := Lib.hid (Y1.out h1 ⟨h2, h3⟩ h4 h0)
    have h0' : (x.r == 0) = false := by simpa using h0
    clear N1 N2 N3 Y0 Y1
    go_wp2_with fail
    refine H4.out.mono ?_
    rintro e w1 ⟨rfl, rfl⟩
    go_wp2
    go_ret
    exact ⟨ret_bool (by rw [Hz.out]), Hb0.out⟩

theorem same_yes {x y : Vx} (h1 : x.r = y.r) (h2 : x.a = y.a) (h4 : x.d = y.d) : sameB x y = decide (x.ps = y.ps) := by
  by_cases h : x.ps = y.ps
  · rw [decide_eq_true h]; exact decide_eq_true (vx_ext h1 h2 h h4)
  · rw [decide_eq_false h]; exact decide_eq_false fun e => h (by rw [e])
set_option maxHeartbeats 1000000 in
theorem impl_sameVertex (x y : Vx) (pa pa' : Option Addr) (pc pc' : Nat) (w : World) (hx : x.ps.length ≤ 1099511627776) (hy : y.ps.length ≤ 1099511627776) (hp : IntsAt w pa x.ps) (hp' : IntsAt w pa' y.ps) :
    Calls Tryz.prog 95 #[.agg #[.int .i64 x.r, .int .i64 x.a, .slice pa x.ps.length pc, .int .i64 x.d], .agg #[.int .i64 y.r, .int .i64 y.a, .slice pa' y.ps.length pc', .int .i64 y.d]] w fun e w' => e = .returned (.bool (sameB x y)) ∧ Below w.heap.size w w' := by
  have hb : Below w.heap.size w ((w.alloc (.cells #[.int .i64 x.r, .int .i64 x.a, .slice pa x.ps.length pc, .int .i64 x.d] 64)).alloc (.cells #[.int .i64 y.r, .int .i64 y.a, .slice pa' y.ps.length pc', .int .i64 y.d] 64)) := ((Below.refl _ w).alloc (Nat.le_refl _) _).alloc (by simp) _
  have H4 := Lib.hid (lib_Equal pa pa' pc pc' x.ps y.ps _ hx hy (hp.below hb) (hp'.below hb))
  have Hb := Lib.hid hb; clear hb hp hp'
  by_cases h1 : x.r = y.r
  case neg =>
    have Hz := Lib.hid (sameB_no (x := x) (y := y) (fun e => h1 (by rw [e])))
    have e1 : (x.r == y.r) = false := by simpa using h1
    clear h1
    go_enter Tryz.func95, Tryz.ntmps95
    go_wp2
    go_ret
    exact ⟨by first | rfl | exact ret_bool (by rw [Hz.out]), Hb.out⟩
  have e1 : (x.r == y.r) = true := by simpa using h1
  by_cases h2 : x.a = y.a
  case neg =>
    have Hz := Lib.hid (sameB_no (x := x) (y := y) (fun e => h2 (by rw [e])))
    have e2 : (x.a == y.a) = false := by simpa using h2
    clear h1 h2
    go_enter Tryz.func95, Tryz.ntmps95
    go_wp2
    go_ret
    exact ⟨by first | rfl | exact ret_bool (by rw [Hz.out]), Hb.out⟩
  have e2 : (x.a == y.a) = true := by simpa using h2
  by_cases h4 : x.d = y.d
  case neg =>
    have Hz := Lib.hid (sameB_no (x := x) (y := y) (fun e => h4 (by rw [e])))
    have e4 : (x.d == y.d) = false := by simpa using h4
    clear h1 h2 h4
    go_enter Tryz.func95, Tryz.ntmps95
    go_wp2
    go_ret
    exact ⟨by first | rfl | exact ret_bool (by rw [Hz.out]), Hb.out⟩
  have e4 : (x.d == y.d) = true := by simpa using h4
  have Hz := Lib.hid (same_yes h1 h2 h4)
  clear h1 h2 h4
  go_enter Tryz.func95, Tryz.ntmps95
  go_wp2_with fail
  refine H4.out.mono ?_
  rintro e w1 ⟨rfl, hd⟩
  have Hb1 := Lib.hid (below_step Hb.out Hb.out.size (hd.below _))
  clear hd
  go_wp2
  go_ret
  exact ⟨ret_bool (by rw [Hz.out]), Hb1.out⟩

end Go.Proofs.YtjaacdapibokiabGreatDoor

/- impl's adding of a vertex to a graph of pointers, by a walk of its text; conditions: lists are shorter than 2^40, the committee, the graph and its vertices are valid. -/
namespace Go.Proofs.YtjaacdapibokiabGreatDoor
open Go.RowKit

theorem run_index_z {P : Program} {T E : TypeId} {n s k B o : Nat} {z : Int} (hu : P.underlying T = some (.array n E)) (hs : (P.info? E).map (·.size) = some s) (hz : z = (k : Int)) (hk : k < n) (w : World) :
    (Instr.indexAt T (.pointer (some ⟨B, o, none⟩)) (.int .i64 z)).run P w = .ok (.pointer (some ⟨B, o + k * s, none⟩)) w := by
  subst hz
  have h1 := run_underlying hu w
  cases hq : P.info? E with
  | none => simp [hq] at hs
  | some i =>
    have hz : i.size = s := by simpa [hq] using hs
    simp [Instr.indexAt, asIntOf, Instr.sureAddr, Sem.run_bind, h1, sizeOf, typeInfo, hq, hz, hk, addr_add']

theorem below_rowP {w w' : World} (h : Below w.heap.size w w') (row : Option Nat) : w.grownBy w' row := ⟨h.os, h.tape, h.output, h.size, fun k hk _ => h.block k hk⟩

/-- 'append(s, p)', p a pointer. -/
theorem wpList_pushP {P : Program} {T E : TypeId} (hsl : P.underlying T = some (.slice E)) (hinf : (P.info? E).map (fun i => (i.zero, i.size, i.bytes)) = some (some (.pointer none), 1, 8)) {w : World} {ops : Array Oper} {rest : List Oper} {o : Oper} {a : Act} {Q : Exit → Act → World → Prop} (hgd : o.guard = none) (s x : Operand)
    (ho : o.op = .call { callee := .builtin .append, args := #[s, x], argTypes := #[T, T] }) (B : Nat) (v : Value) (qs : List Nat) (q : Nat) (hs : a.eval s = v) (hown : OwnP E w B v qs)
    (hlen : qs.length ≤ 1099511627776) (hx : a.eval x = .slice (some ⟨w.heap.size, 0, none⟩) 1 1) (hB : B ≤ w.heap.size)
    (h : ∀ v' w', OwnP E w' B v' (qs ++ [q]) → w.grownBy w' v.ownBlock → (∀ g, v'.ownBlock = some g → v.ownBlock = some g ∨ w.heap.size ≤ g) → wpList P ops Q rest (a.put o.dst v') w') : wpList P ops Q (o :: rest) a (w.alloc (.cells #[.pointer (some ⟨q, 0, none⟩)] E)) := by
  refine wpList_want (by unfold Region.wanted; rw [hgd]) fun K hK => ?_
  obtain ⟨i, hi, hz, hsz, hby⟩ := info_parts hinf
  obtain ⟨v', w', hrun, h1, h2, _, h4⟩ := run_append_own_at (P := P) (w.alloc (.cells #[.pointer (some ⟨q, 0, none⟩)] E)) B T o.type E i (.pointer none) 1 8 hsl hi hz hsz hby rfl (by decide) v qs.length _ (World.ownsRow.alloc hown _) ⟨w.heap.size, 0, none⟩ 1 1 [ptrV q] rfl
    (cells_ptr w E q) (by intro u hu; simp at hu; subst hu; rfl) (by unfold maxLen; omega) (by omega) (by simp; omega)
  unfold Oper.wp execOp
  simp only [ho, resolve, invoke, builtin, Sem.run_bind, Sem.run_pure, Result.andThen_ok, List.map_toArray, List.map_cons, List.map_nil, hs, hx, hrun]
  refine hK _ _ (h v' w' ?_ (grownBy_trans (World.grownBy_alloc _ _ _) h2) fun g e => ?_)
  · unfold OwnP; simpa using h1
  · rcases h4 with h4 | h4
    · exact .inl (by rw [← h4]; exact e)
    · rw [h4] at e; cases e; exact .inr (by simp)

/-- The code of an addition to a graph that is valid, and the graph after it. -/
def adN (c : List Int) (g : List Vx) (x : Vx) : Int := if vtxB c x = true then addN g x else 4
def adG (c : List Int) (g : List Vx) (x : Vx) : List Vx := if vtxB c x = true then addG g x else g
def AddPost (w0 w : World) (G : Nat) (mv : Value) (c : List Int) (g : List Vx) (x : Vx) : Ending → World → Prop := fun e w' =>
  e = .returned (.int .i64 (adN c g x)) ∧ w.grownBy w' (some G) ∧ ∃ hi h, Lk w0 w' hi G mv h (adG c g x)
theorem vtx_pl {c : List Int} {x : Vx} (hv : validB c = true) (h : vtxB c x = true) : inPl x := by
  obtain ⟨hn1, hn7⟩ := validB_len hv
  unfold vtxB rngB autB at h
  simp only [Bool.and_eq_true, decide_eq_true_eq] at h
  unfold inPl; omega
theorem vtx_mem {c : List Int} {x : Vx} (h : vtxB c x = true) : membersB c.length x.ps = true := by
  unfold vtxB at h
  simp only [Bool.and_eq_true] at h
  exact h.2.2.1
theorem vtx_r0 {c : List Int} {x : Vx} (h : vtxB c x = true) (h0 : x.r = 0) : x.ps.length = 0 := by
  unfold vtxB quoB at h
  simp only [Bool.and_eq_true, if_pos h0, decide_eq_true_eq] at h
  exact h.2.2.2.2
theorem run_place (G : Nat) (r a : Int) (hr : 0 ≤ r) (hr2 : r ≤ 30) (ha : 0 ≤ a) (ha2 : a ≤ 6) : ∃ o1, (∀ w, (Instr.indexAt 106 (.pointer (some ⟨G, 1, none⟩)) (.int .i64 r)).run Tryz.prog w = .ok (.pointer (some ⟨G, o1, none⟩)) w) ∧
    ∀ w, (Instr.indexAt 105 (.pointer (some ⟨G, o1, none⟩)) (.int .i64 a)).run Tryz.prog w = .ok (.pointer (some ⟨G, plN r a, none⟩)) w := by
  refine ⟨1 + r.toNat * 7, fun w => ?_, fun w => ?_⟩
  · exact run_index_z (s := 7) Tryz.underlying106 (by kernel_rfl) (by omega) (by omega) w
  · have := run_index_z (P := Tryz.prog) (B := G) (o := 1 + r.toNat * 7) (s := 1) (k := a.toNat) (z := a) Tryz.underlying105 (by kernel_rfl) (by omega) (by omega) w
    rw [this]
    unfold plN
    rw [Nat.mul_one, Nat.add_assoc]
theorem add_found {c : List Int} {g : List Vx} {x y : Vx} (hs : Srt g) (hx : vtxB c x = true) (hy : y ∈ g) (hr : y.r = x.r) (ha : y.a = x.a) :
    (sameB y x = true → adN c g x = 1 ∧ adG c g x = g) ∧ (sameB y x = false → adN c g x = 2 ∧ adG c g x = g) := by
  obtain ⟨k, hk, e, rfl⟩ := findZ_mem hs hy
  rw [hr, ha] at e
  unfold adN adG
  rw [if_pos hx, if_pos hx]
  exact ⟨fun h => addN_same hk e h, fun h => addN_twice hk e h⟩
theorem add_fresh {c : List Int} {g : List Vx} {x : Vx} (hx : vtxB c x = true) (hn : ∀ y ∈ g, ¬ (y.r = x.r ∧ y.a = x.a)) :
    (parB g x = false → adN c g x = 3 ∧ adG c g x = g) ∧ (parB g x = true → adN c g x = 0 ∧ adG c g x = insG g x) := by
  unfold adN adG
  rw [if_pos hx, if_pos hx]
  exact ⟨fun h => addN_miss (findZ_none hn) h, fun h => addN_done (findZ_none hn) h⟩
theorem ad_not {c : List Int} {g : List Vx} {x : Vx} (hx : vtxB c x = false) : adN c g x = 4 ∧ adG c g x = g := by
  unfold adN adG
  rw [if_neg (by simp [hx]), if_neg (by simp [hx])]
  exact ⟨rfl, rfl⟩
theorem Lk.place {w0 w : World} {hi G : Nat} {mv : Value} {h : Nat → Value} {g : List Vx} {r : Int} {ps : List Int} (l : Lk w0 w hi G mv h g) (hs : Srt g) (k : Nat) (hk : k < ps.length) (h0 : 0 ≤ r - 1) (h1 : r - 1 ≤ 30) (h2 : 0 ≤ ps[k]) (h3 : ps[k] ≤ 6) :
    (∃ q, h (plN (r - 1) ps[k]) = ptrV q ∧ hasP g r ps k = true) ∨ (h (plN (r - 1) ps[k]) = .pointer none ∧ hasP g r ps k = false) := by
  unfold hasP
  rw [getD_get hk]
  by_cases he : ∃ y ∈ g, y.r = r - 1 ∧ y.a = ps[k]
  · obtain ⟨y, hy, er, ea⟩ := he
    obtain ⟨q, hq, _⟩ := l.has y hy
    obtain ⟨j, _, e, _⟩ := findZ_mem hs hy
    rw [er, ea] at hq e
    exact .inl ⟨q, hq, by rw [e]; exact decide_eq_true (by omega)⟩
  · have hn : ∀ y ∈ g, ¬ (y.r = r - 1 ∧ y.a = ps[k]) := fun y hy e => he ⟨y, hy, e⟩
    exact .inr ⟨l.non _ _ h0 h1 h2 h3 hn, by rw [findZ_none hn]; rfl⟩
theorem qs_step {h : Nat → Value} {r : Int} {ps : List Int} {qs : List Nat} {q k : Nat} (hq : ∀ j (_ : j < qs.length) (hj' : j < ps.length), h (plN (r - 1) ps[j]) = ptrV qs[j]) (hl : qs.length = k) (hk : k < ps.length) (he : h (plN (r - 1) ps[k]) = ptrV q) :
    ∀ j (hj : j < (qs ++ [q]).length) (hj' : j < ps.length), h (plN (r - 1) ps[j]) = ptrV (qs ++ [q])[j] := by
  intro j hj hj'
  by_cases e : j < qs.length
  · rw [List.getElem_append_left e]; exact hq j e hj'
  · have : j = k := by rw [List.length_append] at hj; simp at hj; omega
    subst this
    rw [he]
    congr 1
    rw [List.getElem_append_right (by omega)]; simp
set_option maxRecDepth 8000 in
set_option maxHeartbeats 4000000 in
theorem graph_add (w0 w : World) (hi G : Nat) (ac : Option Addr) (capc : Nat) (c : List Int) (h : Nat → Value) (g : List Vx) (x : Vx) (pa : Option Addr) (pc : Nat) (hv : validB c = true) (hbp : x.ps.length ≤ 1099511627776) (hgp : ∀ y ∈ g, y.ps.length ≤ 1099511627776)
    (hs : SrcAt w0 pa pc x.ps) (hip : IntsAt w0 pa x.ps) (hc : IntsAt w0 ac c) (hb : Below w0.heap.size w0 w) (hL : Lk w0 w hi G (.slice ac c.length capc) h g) (hsrt : Srt g) (hgv : ∀ y ∈ g, vtxB c y = true) :
    Calls Tryz.prog 77 #[.pointer (some ⟨G, 0, none⟩), .agg #[.int .i64 x.r, .int .i64 x.a, .slice pa x.ps.length pc, .int .i64 x.d]] w (AddPost w0 w G (.slice ac c.length capc) c g x) := by
  have hb0 : Below w.heap.size w (w.alloc (.cells #[.int .i64 x.r, .int .i64 x.a, .slice pa x.ps.length pc, .int .i64 x.d] 64)) := (Below.refl _ _).alloc (Nat.le_refl _) _
  have hsz0 : (w.alloc (.cells #[.int .i64 x.r, .int .i64 x.a, .slice pa x.ps.length pc, .int .i64 x.d] 64)).heap.size = w.heap.size + 1 := by simp
  have s0 := Str.new w 64 #[.int .i64 x.r, .int .i64 x.a, .slice pa x.ps.length pc, .int .i64 x.d]
  have k0 := s0.cell 0 (v := .int .i64 x.r) rfl
  have k1 := s0.cell 1 (v := .int .i64 x.a) rfl
  have k2 := s0.cell 2 (v := .slice pa x.ps.length pc) rfl
  have k3 := s0.cell 3 (v := .int .i64 x.d) rfl
  have hL0 := hL.under hb0
  have g0 := hL0.cell (k := 0) (by omega)
  rw [hL.mem] at g0
  have hGw : G < w.heap.size := Nat.lt_of_lt_of_le hL.lt hL.le
  have hbW := below_step hb hb.size hb0
  have HbW := Lib.hid hbW; clear hbW
  have HF := Lib.hid (fun W (h : Below (w.alloc (.cells #[.int .i64 x.r, .int .i64 x.a, .slice pa x.ps.length pc, .int .i64 x.d] 64)).heap.size (w.alloc (.cells #[.int .i64 x.r, .int .i64 x.a, .slice pa x.ps.length pc, .int .i64 x.d] 64)) W) => vertex_fits ac capc c x pa pc W hv hbp (hc.below (below_step HbW.out HbW.out.size h)) (hip.below (below_step HbW.out HbW.out.size h)))
  have HL0 := Lib.hid hL0; clear hL0
  have HL := Lib.hid hL; clear hL
  have Hb := Lib.hid hb; clear hb
  have Hb0 := Lib.hid hb0; clear hb0
  have Hs0 := Lib.hid s0; clear s0
  have Hs := Lib.hid hs; clear hs
  have Hip := Lib.hid hip; clear hip
  have Hgv := Lib.hid hgv; clear hgv
  have Hgp := Lib.hid hgp; clear hgp
  have Hsrt := Lib.hid hsrt; clear hsrt
  have Hv := Lib.hid hv; clear hv hc
  go_enter Tryz.func77, Tryz.ntmps77
  go_wp2_with fail
  generalize w.alloc (.cells #[.int .i64 x.r, .int .i64 x.a, .slice pa x.ps.length pc, .int .i64 x.d] 64) = W0 at *
  refine wp_region_held_drew (S := fun w' => Below W0.heap.size W0 w' ∧ w'.cell? ⟨w.heap.size, 0, none⟩ = some (.int .i64 x.r) ∧ w'.cell? ⟨w.heap.size, 1, none⟩ = some (.int .i64 x.a) ∧ w'.cell? ⟨w.heap.size, 2, none⟩ = some (.slice pa x.ps.length pc) ∧ w'.cell? ⟨w.heap.size, 3, none⟩ = some (.int .i64 x.d) ∧ w'.cell? ⟨G, 0, none⟩ = some (.slice ac c.length capc)) (by kernel_rfl) ⟨(Below.refl _ _).drew, k0, k1, k2, k3, g0⟩ (fun hH => ?_)
  refine takeH 0 (v := ?va0) rfl (by kernel_rfl) (by kernel_rfl) (by kernel_rfl) (fun _ _ _ h => h) hH rfl ?ya0 ?ra0
  case ya0 => intro W hSw; go_simp; try with_reducible rfl
  try simp only [Act.put, List.setIfInBounds_toArray, List.set_cons_zero, List.set_cons_succ]
  refine takeH 1 (v := ?va1) rfl (by kernel_rfl) (by kernel_rfl) (by kernel_rfl) (fun _ _ _ h => h) hH rfl ?ya1 ?ra1
  case ya1 => intro W hSw; go_simp; try with_reducible rfl
  try simp only [Act.put, List.setIfInBounds_toArray, List.set_cons_zero, List.set_cons_succ]
  refine takeH 2 (v := ?va2) rfl (by kernel_rfl) (by kernel_rfl) (by kernel_rfl) (fun _ _ _ h => h) hH rfl ?ya2 ?ra2
  case ya2 => intro W hSw; go_simp; try with_reducible rfl
  try simp only [Act.put, List.setIfInBounds_toArray, List.set_cons_zero, List.set_cons_succ]
  refine takeH 3 (v := ?va3) rfl (by kernel_rfl) (by kernel_rfl) (by kernel_rfl) (fun _ _ _ h => h) hH rfl ?ya3 ?ra3
  case ya3 => intro W hSw; go_simp; try with_reducible rfl
  try simp only [Act.put, List.setIfInBounds_toArray, List.set_cons_zero, List.set_cons_succ]
  refine takeH 4 (v := ?va4) rfl (by kernel_rfl) (by kernel_rfl) (by kernel_rfl) (fun _ _ _ h => h) hH rfl ?ya4 ?ra4
  case ya4 => intro W hSw; go_simp; try with_reducible rfl
  try simp only [Act.put, List.setIfInBounds_toArray, List.set_cons_zero, List.set_cons_succ]
  refine callH 5 rfl (by kernel_rfl) rfl (fun K hK => ?_)
  go_simp
  go_at_call 94
  refine (HF.out _ hH.1).mono ?_
  rintro e wx ⟨rfl, hbx⟩
  refine hK.out _ _ ⟨hH.1.trans (hbx.mono hH.1.size), (hbx.cell (p := ⟨w.heap.size, 0, none⟩) (by simp only; have := hH.1.size; omega)).trans hH.2.1, (hbx.cell (p := ⟨w.heap.size, 1, none⟩) (by simp only; have := hH.1.size; omega)).trans hH.2.2.1, (hbx.cell (p := ⟨w.heap.size, 2, none⟩) (by simp only; have := hH.1.size; omega)).trans hH.2.2.2.1, (hbx.cell (p := ⟨w.heap.size, 3, none⟩) (by simp only; have := hH.1.size; omega)).trans hH.2.2.2.2.1, (hbx.cell (p := ⟨G, 0, none⟩) (by simp only; have := hH.1.size; omega)).trans hH.2.2.2.2.2⟩ (fun hH => ?_)
  clear hK K
  try simp only [Act.put, List.setIfInBounds_toArray, List.set_cons_zero, List.set_cons_succ]
  refine takeH 6 (v := ?va6) rfl (by kernel_rfl) (by kernel_rfl) (by kernel_rfl) (fun _ _ _ h => h) hH rfl ?ya6 ?ra6
  case ya6 => intro W hSw; go_simp; try with_reducible rfl
  try simp only [Act.put, List.setIfInBounds_toArray, List.set_cons_zero, List.set_cons_succ]
  refine wpAnyH_done (by kernel_rfl) ?_ _
  try simp only [Act.put]
  obtain ⟨hbw, k0, k1, k2, k3, g0⟩ := hH
  have HL1 := Lib.hid (HL0.out.under hbw)
  have Hb1 := Lib.hid (Hb0.out.trans (hbw.mono (by omega)))
  clear g0
  have HB1 := Lib.hid (below_step Hb.out Hb.out.size Hb1.out)
  have Hs1 := Lib.hid (show Str _ w.heap.size 64 #[.int .i64 x.r, .int .i64 x.a, .slice pa x.ps.length pc, .int .i64 x.d] from (hbw.block _ Hs0.out.lt).trans Hs0.out)
  clear hbw HL0 Hb0 Hs0 HbW
  cases hx : vtxB c x with
  | false =>
    obtain ⟨hz1, hz2⟩ := ad_not (g := g) hx
    have Hz1 := Lib.hid hz1
    have Hz2 := Lib.hid hz2
    clear hz1 hz2
    go_wp2
    go_ret
    exact ⟨by rw [Hz1.out]; rfl, below_rowP Hb1.out _, _, _, by rw [Hz2.out]; exact HL1.out⟩
  | true =>
  have hpl := vtx_pl Hv.out hx
  have hpl' := hpl
  unfold inPl at hpl'
  obtain ⟨hr0, hr1, ha0, ha1⟩ := hpl'
  obtain ⟨o1, ho1, ho2⟩ := run_place G x.r x.a hr0 hr1 ha0 ha1
  have gp := HL1.out.cell (plN_bd hr1 ha1).2
  by_cases hfound : ∃ y ∈ g, y.r = x.r ∧ y.a = x.a
  · obtain ⟨y, hy, er, ea⟩ := hfound
    obtain ⟨q, hq, hn⟩ := HL1.out.has y hy
    rw [er, ea] at hq
    rw [hq] at gp
    unfold ptrV at gp
    obtain ⟨pa', pc', pv, qs, hsq, hiq, _, _⟩ := hn.ex
    obtain ⟨F1, F2⟩ := add_found Hsrt.out hx hy er ea
    have HS0 := Lib.hid (fun W (h1 : IntsAt W pa' y.ps) (h2 : IntsAt W pa x.ps) => impl_sameVertex y x pa' pa pc' pc W (Hgp.out y hy) hbp h1 h2)
    have F1 := Lib.hid F1
    have F2 := Lib.hid F2
    have Hsq := Lib.hid hsq
    have Hiq := Lib.hid hiq
    have Hpl := Lib.hid hpl
    clear hn hq hsq hiq hpl er ea hy
    go_wp2_with fail
    refine wp_region_held_drew (S := fun w' => Below wx.heap.size wx w' ∧ w'.cell? ⟨w.heap.size, 0, none⟩ = some (.int .i64 x.r) ∧ w'.cell? ⟨w.heap.size, 1, none⟩ = some (.int .i64 x.a) ∧ w'.cell? ⟨G, plN x.r x.a, none⟩ = some (.pointer (some ⟨q, 0, none⟩))) (by kernel_rfl) ⟨(Below.refl _ _).drew, k0, k1, gp⟩ (fun hH => ?_)
    refine takeH 0 (v := ?vb0) rfl (by kernel_rfl) (by kernel_rfl) (by kernel_rfl) (fun _ _ _ h => h) hH rfl ?yb0 ?rb0
    case yb0 => intro W hSw; go_simp; try with_reducible rfl
    try simp only [Act.put, List.setIfInBounds_toArray, List.set_cons_zero, List.set_cons_succ]
    refine takeH 1 (v := ?vb1) rfl (by kernel_rfl) (by kernel_rfl) (by kernel_rfl) (fun _ _ _ h => h) hH rfl ?yb1 ?rb1
    case yb1 => intro W hSw; go_simp; try with_reducible rfl
    try simp only [Act.put, List.setIfInBounds_toArray, List.set_cons_zero, List.set_cons_succ]
    refine takeH 2 (v := ?vb2) rfl (by kernel_rfl) (by kernel_rfl) (by kernel_rfl) (fun _ _ _ h => h) hH rfl ?yb2 ?rb2
    case yb2 => intro W hSw; go_simp; try with_reducible rfl
    try simp only [Act.put, List.setIfInBounds_toArray, List.set_cons_zero, List.set_cons_succ]
    refine takeH 3 (v := ?vb3) rfl (by kernel_rfl) (by kernel_rfl) (by kernel_rfl) (fun _ _ _ h => h) hH rfl ?yb3 ?rb3
    case yb3 => intro W hSw; go_simp; try with_reducible rfl
    try simp only [Act.put, List.setIfInBounds_toArray, List.set_cons_zero, List.set_cons_succ]
    refine takeH 4 (v := ?vb4) rfl (by kernel_rfl) (by kernel_rfl) (by kernel_rfl) (fun _ _ _ h => h) hH rfl ?yb4 ?rb4
    case yb4 => intro W hSw; go_simp; try with_reducible rfl
    try simp only [Act.put, List.setIfInBounds_toArray, List.set_cons_zero, List.set_cons_succ]
    refine takeH 5 (v := ?vb5) rfl (by kernel_rfl) (by kernel_rfl) (by kernel_rfl) (fun _ _ _ h => h) hH rfl ?yb5 ?rb5
    case yb5 => intro W hSw; go_simp; try with_reducible rfl
    try simp only [Act.put, List.setIfInBounds_toArray, List.set_cons_zero, List.set_cons_succ]
    refine takeH 6 (v := ?vb6) rfl (by kernel_rfl) (by kernel_rfl) (by kernel_rfl) (fun _ _ _ h => h) hH rfl ?yb6 ?rb6
    case yb6 => intro W hSw; go_simp; try with_reducible rfl
    try simp only [Act.put, List.setIfInBounds_toArray, List.set_cons_zero, List.set_cons_succ]
    refine takeH 7 (v := ?vb7) rfl (by kernel_rfl) (by kernel_rfl) (by kernel_rfl) (fun _ _ _ h => h) hH rfl ?yb7 ?rb7
    case yb7 => intro W hSw; go_simp; try with_reducible rfl
    try simp only [Act.put, List.setIfInBounds_toArray, List.set_cons_zero, List.set_cons_succ]
    refine takeH 8 (v := ?vb8) rfl (by kernel_rfl) (by kernel_rfl) (by kernel_rfl) (fun _ _ _ h => h) hH rfl ?yb8 ?rb8
    case yb8 => intro W hSw; go_simp; try with_reducible rfl
    try simp only [Act.put, List.setIfInBounds_toArray, List.set_cons_zero, List.set_cons_succ]
    refine takeH 9 (v := ?vb9) rfl (by kernel_rfl) (by kernel_rfl) (by kernel_rfl) (fun _ _ _ h => h) hH rfl ?yb9 ?rb9
    case yb9 => intro W hSw; go_simp; try with_reducible rfl
    try simp only [Act.put, List.setIfInBounds_toArray, List.set_cons_zero, List.set_cons_succ]
    refine takeH 10 (v := ?vb10) rfl (by kernel_rfl) (by kernel_rfl) (by kernel_rfl) (fun _ _ _ h => h) hH rfl ?yb10 ?rb10
    case yb10 => intro W hSw; go_simp; try with_reducible rfl
    try simp only [Act.put, List.setIfInBounds_toArray, List.set_cons_zero, List.set_cons_succ]
    refine wpAnyH_done (by kernel_rfl) ?_ _
    try simp only [Act.put]
    obtain ⟨hbw, k0, k1, gp⟩ := hH
    generalize hW3 : wx.drew = W3 at *
    clear hW3
    have HL3 := Lib.hid (HL1.out.under hbw)
    have HB3 := Lib.hid (below_step HB1.out HB1.out.size hbw)
    have Hb3 := Lib.hid (below_step Hb1.out Hb1.out.size hbw)
    have k2 := (hbw.cell (p := ⟨w.heap.size, 2, none⟩) Hs1.out.lt).trans k2
    have k3 := (hbw.cell (p := ⟨w.heap.size, 3, none⟩) Hs1.out.lt).trans k3
    have hq3 := (hbw.block _ Hsq.out.lt).trans Hsq.out
    have hlt3 := Str.lt (W := W3) hq3
    have hwlt : w.heap.size < W3.heap.size := Nat.lt_of_lt_of_le Hs1.out.lt hbw.size
    have j0 := Str.cell hq3 0 (v := .int .i64 y.r) rfl
    have j1 := Str.cell hq3 1 (v := .int .i64 y.a) rfl
    have j2 := Str.cell hq3 2 (v := .slice pa' y.ps.length pc') rfl
    have j3 := Str.cell hq3 3 (v := .int .i64 y.d) rfl
    have HS := Lib.hid (fun W (h : Below W3.heap.size W3 W) => HS0.out W (Hiq.out.below (below_step HB3.out HB3.out.size h)) (Hip.out.below (below_step HB3.out HB3.out.size h)))
    clear hq3 hbw gp HS0 HL1 HB1 Hb1 Hs1
    go_wp2_with fail
    refine wp_region_held_drew (S := fun w' => Below W3.heap.size W3 w' ∧ w'.cell? ⟨q, 0, none⟩ = some (.int .i64 y.r) ∧ w'.cell? ⟨q, 1, none⟩ = some (.int .i64 y.a) ∧ w'.cell? ⟨q, 2, none⟩ = some (.slice pa' y.ps.length pc') ∧ w'.cell? ⟨q, 3, none⟩ = some (.int .i64 y.d) ∧ w'.cell? ⟨w.heap.size, 0, none⟩ = some (.int .i64 x.r) ∧ w'.cell? ⟨w.heap.size, 1, none⟩ = some (.int .i64 x.a) ∧ w'.cell? ⟨w.heap.size, 2, none⟩ = some (.slice pa x.ps.length pc) ∧ w'.cell? ⟨w.heap.size, 3, none⟩ = some (.int .i64 x.d)) (by kernel_rfl) ⟨(Below.refl _ _).drew, j0, j1, j2, j3, k0, k1, k2, k3⟩ (fun hH => ?_)
    refine takeH 0 (v := ?vd0) rfl (by kernel_rfl) (by kernel_rfl) (by kernel_rfl) (fun _ _ _ h => h) hH rfl ?yd0 ?rd0
    case yd0 => intro W hSw; go_simp; try with_reducible rfl
    try simp only [Act.put, List.setIfInBounds_toArray, List.set_cons_zero, List.set_cons_succ]
    refine takeH 1 (v := ?vd1) rfl (by kernel_rfl) (by kernel_rfl) (by kernel_rfl) (fun _ _ _ h => h) hH rfl ?yd1 ?rd1
    case yd1 => intro W hSw; go_simp; try with_reducible rfl
    try simp only [Act.put, List.setIfInBounds_toArray, List.set_cons_zero, List.set_cons_succ]
    refine takeH 2 (v := ?vd2) rfl (by kernel_rfl) (by kernel_rfl) (by kernel_rfl) (fun _ _ _ h => h) hH rfl ?yd2 ?rd2
    case yd2 => intro W hSw; go_simp; try with_reducible rfl
    try simp only [Act.put, List.setIfInBounds_toArray, List.set_cons_zero, List.set_cons_succ]
    refine takeH 3 (v := ?vd3) rfl (by kernel_rfl) (by kernel_rfl) (by kernel_rfl) (fun _ _ _ h => h) hH rfl ?yd3 ?rd3
    case yd3 => intro W hSw; go_simp; try with_reducible rfl
    try simp only [Act.put, List.setIfInBounds_toArray, List.set_cons_zero, List.set_cons_succ]
    refine takeH 4 (v := ?vd4) rfl (by kernel_rfl) (by kernel_rfl) (by kernel_rfl) (fun _ _ _ h => h) hH rfl ?yd4 ?rd4
    case yd4 => intro W hSw; go_simp; try with_reducible rfl
    try simp only [Act.put, List.setIfInBounds_toArray, List.set_cons_zero, List.set_cons_succ]
    refine callH 5 rfl (by kernel_rfl) rfl (fun K hK => ?_)
    go_simp
    go_at_call 95
    refine (HS.out _ hH.1).mono ?_
    rintro e wy ⟨rfl, hbx⟩
    refine hK.out _ _ ⟨hH.1.trans (hbx.mono hH.1.size), (hbx.cell (p := ⟨q, 0, none⟩) (by simp only; have := hH.1.size; omega)).trans hH.2.1, (hbx.cell (p := ⟨q, 1, none⟩) (by simp only; have := hH.1.size; omega)).trans hH.2.2.1, (hbx.cell (p := ⟨q, 2, none⟩) (by simp only; have := hH.1.size; omega)).trans hH.2.2.2.1, (hbx.cell (p := ⟨q, 3, none⟩) (by simp only; have := hH.1.size; omega)).trans hH.2.2.2.2.1, (hbx.cell (p := ⟨w.heap.size, 0, none⟩) (by simp only; have := hH.1.size; omega)).trans hH.2.2.2.2.2.1, (hbx.cell (p := ⟨w.heap.size, 1, none⟩) (by simp only; have := hH.1.size; omega)).trans hH.2.2.2.2.2.2.1, (hbx.cell (p := ⟨w.heap.size, 2, none⟩) (by simp only; have := hH.1.size; omega)).trans hH.2.2.2.2.2.2.2.1, (hbx.cell (p := ⟨w.heap.size, 3, none⟩) (by simp only; have := hH.1.size; omega)).trans hH.2.2.2.2.2.2.2.2⟩ (fun hH => ?_)
    clear hK K
    try simp only [Act.put, List.setIfInBounds_toArray, List.set_cons_zero, List.set_cons_succ]
    refine wpAnyH_done (by kernel_rfl) ?_ _
    try simp only [Act.put]
    obtain ⟨hbw, _⟩ := hH
    have Hb5 := Lib.hid (below_step Hb3.out Hb3.out.size hbw)
    have HL5 := Lib.hid (HL3.out.under hbw)
    clear hbw
    cases hsb : sameB y x with
    | true =>
      obtain ⟨hz1, hz2⟩ := F1.out hsb
      have Hz1 := Lib.hid hz1
      have Hz2 := Lib.hid hz2
      clear hz1 hz2 F1 F2 HS
      go_wp2
      go_ret
      exact ⟨by rw [Hz1.out]; rfl, below_rowP Hb5.out _, _, _, by rw [Hz2.out]; exact HL5.out⟩
    | false =>
      obtain ⟨hz1, hz2⟩ := F2.out hsb
      have Hz1 := Lib.hid hz1
      have Hz2 := Lib.hid hz2
      clear hz1 hz2 F1 F2 HS
      go_wp2
      go_ret
      exact ⟨by rw [Hz1.out]; rfl, below_rowP Hb5.out _, _, _, by rw [Hz2.out]; exact HL5.out⟩
  · have hno : ∀ y ∈ g, ¬ (y.r = x.r ∧ y.a = x.a) := fun y hy e => hfound ⟨y, hy, e⟩
    clear hfound
    rw [HL1.out.non x.r x.a hr0 hr1 ha0 ha1 hno] at gp
    obtain ⟨F1, F2⟩ := add_fresh hx hno
    have F1 := Lib.hid F1
    have F2 := Lib.hid F2
    have Hpl := Lib.hid hpl; clear hpl
    have Hno := Lib.hid hno; clear hno
    go_wp2_with fail
    refine wp_region_held_drew (S := fun w' => Below wx.heap.size wx w' ∧ w'.cell? ⟨w.heap.size, 0, none⟩ = some (.int .i64 x.r) ∧ w'.cell? ⟨w.heap.size, 1, none⟩ = some (.int .i64 x.a) ∧ w'.cell? ⟨G, plN x.r x.a, none⟩ = some (.pointer none)) (by kernel_rfl) ⟨(Below.refl _ _).drew, k0, k1, gp⟩ (fun hH => ?_)
    refine takeH 0 (v := ?ve0) rfl (by kernel_rfl) (by kernel_rfl) (by kernel_rfl) (fun _ _ _ h => h) hH rfl ?ye0 ?re0
    case ye0 => intro W hSw; go_simp; try with_reducible rfl
    try simp only [Act.put, List.setIfInBounds_toArray, List.set_cons_zero, List.set_cons_succ]
    refine takeH 1 (v := ?ve1) rfl (by kernel_rfl) (by kernel_rfl) (by kernel_rfl) (fun _ _ _ h => h) hH rfl ?ye1 ?re1
    case ye1 => intro W hSw; go_simp; try with_reducible rfl
    try simp only [Act.put, List.setIfInBounds_toArray, List.set_cons_zero, List.set_cons_succ]
    refine takeH 2 (v := ?ve2) rfl (by kernel_rfl) (by kernel_rfl) (by kernel_rfl) (fun _ _ _ h => h) hH rfl ?ye2 ?re2
    case ye2 => intro W hSw; go_simp; try with_reducible rfl
    try simp only [Act.put, List.setIfInBounds_toArray, List.set_cons_zero, List.set_cons_succ]
    refine takeH 3 (v := ?ve3) rfl (by kernel_rfl) (by kernel_rfl) (by kernel_rfl) (fun _ _ _ h => h) hH rfl ?ye3 ?re3
    case ye3 => intro W hSw; go_simp; try with_reducible rfl
    try simp only [Act.put, List.setIfInBounds_toArray, List.set_cons_zero, List.set_cons_succ]
    refine takeH 4 (v := ?ve4) rfl (by kernel_rfl) (by kernel_rfl) (by kernel_rfl) (fun _ _ _ h => h) hH rfl ?ye4 ?re4
    case ye4 => intro W hSw; go_simp; try with_reducible rfl
    try simp only [Act.put, List.setIfInBounds_toArray, List.set_cons_zero, List.set_cons_succ]
    refine takeH 5 (v := ?ve5) rfl (by kernel_rfl) (by kernel_rfl) (by kernel_rfl) (fun _ _ _ h => h) hH rfl ?ye5 ?re5
    case ye5 => intro W hSw; go_simp; try with_reducible rfl
    try simp only [Act.put, List.setIfInBounds_toArray, List.set_cons_zero, List.set_cons_succ]
    refine takeH 6 (v := ?ve6) rfl (by kernel_rfl) (by kernel_rfl) (by kernel_rfl) (fun _ _ _ h => h) hH rfl ?ye6 ?re6
    case ye6 => intro W hSw; go_simp; try with_reducible rfl
    try simp only [Act.put, List.setIfInBounds_toArray, List.set_cons_zero, List.set_cons_succ]
    refine takeH 7 (v := ?ve7) rfl (by kernel_rfl) (by kernel_rfl) (by kernel_rfl) (fun _ _ _ h => h) hH rfl ?ye7 ?re7
    case ye7 => intro W hSw; go_simp; try with_reducible rfl
    try simp only [Act.put, List.setIfInBounds_toArray, List.set_cons_zero, List.set_cons_succ]
    refine takeH 8 (v := ?ve8) rfl (by kernel_rfl) (by kernel_rfl) (by kernel_rfl) (fun _ _ _ h => h) hH rfl ?ye8 ?re8
    case ye8 => intro W hSw; go_simp; try with_reducible rfl
    try simp only [Act.put, List.setIfInBounds_toArray, List.set_cons_zero, List.set_cons_succ]
    refine takeH 9 (v := ?ve9) rfl (by kernel_rfl) (by kernel_rfl) (by kernel_rfl) (fun _ _ _ h => h) hH rfl ?ye9 ?re9
    case ye9 => intro W hSw; go_simp; try with_reducible rfl
    try simp only [Act.put, List.setIfInBounds_toArray, List.set_cons_zero, List.set_cons_succ]
    refine takeH 10 (v := ?ve10) rfl (by kernel_rfl) (by kernel_rfl) (by kernel_rfl) (fun _ _ _ h => h) hH rfl ?ye10 ?re10
    case ye10 => intro W hSw; go_simp; try with_reducible rfl
    try simp only [Act.put, List.setIfInBounds_toArray, List.set_cons_zero, List.set_cons_succ]
    refine wpAnyH_done (by kernel_rfl) ?_ _
    try simp only [Act.put]
    obtain ⟨hbw, k0, k1, gp⟩ := hH
    generalize hW3 : wx.drew = W3 at *
    clear hW3
    have HL3 := Lib.hid (HL1.out.under hbw)
    have HB3 := Lib.hid (below_step HB1.out HB1.out.size hbw)
    have Hb3 := Lib.hid (below_step Hb1.out Hb1.out.size hbw)
    have k2 := (hbw.cell (p := ⟨w.heap.size, 2, none⟩) Hs1.out.lt).trans k2
    have k3 := (hbw.cell (p := ⟨w.heap.size, 3, none⟩) Hs1.out.lt).trans k3
    have sB : Str W3 w.heap.size 64 #[.int .i64 x.r, .int .i64 x.a, .slice pa x.ps.length pc, .int .i64 x.d] := (hbw.block _ Hs1.out.lt).trans Hs1.out
    have hwlt : w.heap.size < W3.heap.size := sB.lt
    have hhi : hi ≤ W3.heap.size := HL3.out.le
    have hbA : Below W3.heap.size W3 (W3.alloc (.cells #[.int .i64 x.r, .int .i64 x.a, .slice pa x.ps.length pc, .int .i64 x.d, .slice none 0 0] 66)) := (Below.refl _ _).alloc (Nat.le_refl _) _
    have sN := Str.new W3 66 #[.int .i64 x.r, .int .i64 x.a, .slice pa x.ps.length pc, .int .i64 x.d, .slice none 0 0]
    have k2A := (sB.alloc (.cells #[.int .i64 x.r, .int .i64 x.a, .slice pa x.ps.length pc, .int .i64 x.d, .slice none 0 0] 66)).cell 2 (v := .slice pa x.ps.length pc) rfl
    have HbA := Lib.hid hbA
    have HsN := Lib.hid sN
    have HsB := Lib.hid sB
    have HmB := Lib.hid (fun k hk => membersB_at (vtx_mem hx) k hk)
    have Hr0 := Lib.hid (fun h0 => vtx_r0 hx h0)
    have HL3' := Lib.hid (fun W (hW : Below W3.heap.size W3 W) => (HL3.out.under hW))
    clear hbA sN sB hbw gp HL1 HB1 Hb1 Hs1 HF
    go_wp2_with fail
    simp only [Bool.not_true]
    go_loopw [41] (fun i wr => ∃ (k : Nat) (qs : List Nat) (pv : Value), k ≤ x.ps.length ∧ i = .int .i64 k ∧ qs.length = k ∧ (∀ j (hj : j < qs.length) (hj' : j < x.ps.length), h (plN (x.r - 1) x.ps[j]) = ptrV qs[j]) ∧ Upto (hasP g x.r x.ps) k ∧ OwnP 62 wr w0.heap.size pv qs ∧ (∀ b, pv.ownBlock = some b → W3.heap.size < b) ∧ Str wr W3.heap.size 66 #[.int .i64 x.r, .int .i64 x.a, .slice pa x.ps.length pc, .int .i64 x.d, pv] ∧ Below W3.heap.size W3 wr) (fun i _ => x.ps.length - (intOf i).toNat)
    case atStart => exact ⟨0, [], _, by omega, rfl, rfl, (fun j hj => by simp at hj), upto_zero _, OwnP.nil _ _ _, (fun b e => by cases e), HsN.out, HbA.out⟩
    case round =>
      obtain ⟨k, qs, pv, hk, rfl, hql, hqs, hup, hown, hpb, sQ, hbel⟩ := hrel
      have HsQ := Lib.hid sQ
      have Hown := Lib.hid hown
      have Hqs := Lib.hid hqs
      have Hup := Lib.hid hup
      have Hbel := Lib.hid hbel
      have Hpb := Lib.hid hpb
      have Hql := Lib.hid hql
      have sB : Str wr w.heap.size 64 #[.int .i64 x.r, .int .i64 x.a, .slice pa x.ps.length pc, .int .i64 x.d] := (hbel.block _ HsB.out.lt).trans HsB.out
      have k0 := sB.cell 0 (v := .int .i64 x.r) rfl
      have k1 := sB.cell 1 (v := .int .i64 x.a) rfl
      have HLr := Lib.hid (HL3'.out wr hbel)
      have hwr : W3.heap.size ≤ wr.heap.size := Hbel.out.size
      clear sQ hown hqs hup hpb hbel sB
      by_cases hlt : k < x.ps.length
      · obtain ⟨b, off, rfl, hbb, hat⟩ := (Hip.out.below (below_step HB3.out HB3.out.size Hbel.out)).cell (by omega)
        have hcp := hat k hlt
        have hm := HmB.out k hlt
        have hn7 := (validB_len Hv.out).2
        have hrn : 1 ≤ x.r := by
          by_cases e : x.r = 0
          · have := Hr0.out e; omega
          · omega
        obtain ⟨o2, hq1, hq2⟩ := run_place G (x.r - 1) x.ps[k] (by omega) (by omega) hm.1 (by omega)
        have gp := HLr.out.cell (plN_bd (r := x.r - 1) (a := x.ps[k]) (by omega) (by omega)).2
        have hw1 : IntKind.i64.wrap (x.r - 1) = x.r - 1 := IntWalk.i64_in _ (by omega)
        have hpl := HLr.out.place Hsrt.out (r := x.r) (ps := x.ps) k hlt (by omega) (by omega) hm.1 (by omega)
        have hst := fun q (he : h (plN (x.r - 1) x.ps[k]) = ptrV q) => qs_step Hqs.out hql hlt he
        have Hst := Lib.hid hst
        clear hat hst hm hn7 Hqs ho1 ho2
        rcases hpl with ⟨q, he, hh⟩ | ⟨he, hh⟩
        · have HstQ := Lib.hid (Hst.out q he)
          clear Hst
          rw [he] at gp
          unfold ptrV at gp
          have Hh := Lib.hid (upto_step Hup.out hh)
          clear he hh Hup
          generalize x.ps[k] = p at *
          go_wp2_with fail
          refine wp_region_held_drew (S := fun w' => Below wr.heap.size wr w' ∧ w'.cell? ⟨w.heap.size, 0, none⟩ = some (.int .i64 x.r) ∧ w'.cell? ⟨G, plN (x.r - 1) p, none⟩ = some (.pointer (some ⟨q, 0, none⟩))) (by kernel_rfl) ⟨(Below.refl _ _).drew, k0, gp⟩ (fun hH => ?_)
          refine takeH 0 (v := ?vf0) rfl (by kernel_rfl) (by kernel_rfl) (by kernel_rfl) (fun _ _ _ h => h) hH rfl ?yf0 ?rf0
          case yf0 => intro W hSw; go_simp; try with_reducible rfl
          try simp only [Act.put, List.setIfInBounds_toArray, List.set_cons_zero, List.set_cons_succ]
          refine takeH 1 (v := ?vf1) rfl (by kernel_rfl) (by kernel_rfl) (by kernel_rfl) (fun _ _ _ h => h) hH rfl ?yf1 ?rf1
          case yf1 => intro W hSw; go_simp; try with_reducible rfl
          try simp only [Act.put, List.setIfInBounds_toArray, List.set_cons_zero, List.set_cons_succ]
          refine takeH 2 (v := ?vf2) rfl (by kernel_rfl) (by kernel_rfl) (by kernel_rfl) (fun _ _ _ h => h) hH rfl ?yf2 ?rf2
          case yf2 => intro W hSw; go_simp; try with_reducible rfl
          try simp only [Act.put, List.setIfInBounds_toArray, List.set_cons_zero, List.set_cons_succ]
          refine takeH 3 (v := ?vf3) rfl (by kernel_rfl) (by kernel_rfl) (by kernel_rfl) (fun _ _ _ h => h) hH rfl ?yf3 ?rf3
          case yf3 => intro W hSw; go_simp; try with_reducible rfl
          try simp only [Act.put, List.setIfInBounds_toArray, List.set_cons_zero, List.set_cons_succ]
          refine takeH 4 (v := ?vf4) rfl (by kernel_rfl) (by kernel_rfl) (by kernel_rfl) (fun _ _ _ h => h) hH rfl ?yf4 ?rf4
          case yf4 => intro W hSw; go_simp; try with_reducible rfl
          try simp only [Act.put, List.setIfInBounds_toArray, List.set_cons_zero, List.set_cons_succ]
          refine takeH 5 (v := ?vf5) rfl (by kernel_rfl) (by kernel_rfl) (by kernel_rfl) (fun _ _ _ h => h) hH rfl ?yf5 ?rf5
          case yf5 => intro W hSw; go_simp; try with_reducible rfl
          try simp only [Act.put, List.setIfInBounds_toArray, List.set_cons_zero, List.set_cons_succ]
          refine takeH 6 (v := ?vf6) rfl (by kernel_rfl) (by kernel_rfl) (by kernel_rfl) (fun _ _ _ h => h) hH rfl ?yf6 ?rf6
          case yf6 => intro W hSw; go_simp; try with_reducible rfl
          try simp only [Act.put, List.setIfInBounds_toArray, List.set_cons_zero, List.set_cons_succ]
          refine takeH 7 (v := ?vf7) rfl (by kernel_rfl) (by kernel_rfl) (by kernel_rfl) (fun _ _ _ h => h) hH rfl ?yf7 ?rf7
          case yf7 => intro W hSw; go_simp; try with_reducible rfl
          try simp only [Act.put, List.setIfInBounds_toArray, List.set_cons_zero, List.set_cons_succ]
          refine takeH 8 (v := ?vf8) rfl (by kernel_rfl) (by kernel_rfl) (by kernel_rfl) (fun _ _ _ h => h) hH rfl ?yf8 ?rf8
          case yf8 => intro W hSw; go_simp; try with_reducible rfl
          try simp only [Act.put, List.setIfInBounds_toArray, List.set_cons_zero, List.set_cons_succ]
          refine takeH 9 (v := ?vf9) rfl (by kernel_rfl) (by kernel_rfl) (by kernel_rfl) (fun _ _ _ h => h) hH rfl ?yf9 ?rf9
          case yf9 => intro W hSw; go_simp; try with_reducible rfl
          try simp only [Act.put, List.setIfInBounds_toArray, List.set_cons_zero, List.set_cons_succ]
          refine takeH 10 (v := ?vf10) rfl (by kernel_rfl) (by kernel_rfl) (by kernel_rfl) (fun _ _ _ h => h) hH rfl ?yf10 ?rf10
          case yf10 => intro W hSw; go_simp; try with_reducible rfl
          try simp only [Act.put, List.setIfInBounds_toArray, List.set_cons_zero, List.set_cons_succ]
          refine wpAnyH_done (by kernel_rfl) ?_ _
          try simp only [Act.put]
          obtain ⟨hbw, _, _⟩ := hH
          have hz5 : wr.heap.size ≤ wr.drew.heap.size := Nat.le_refl _
          have s5 : Str wr.drew W3.heap.size 66 #[.int .i64 x.r, .int .i64 x.a, .slice (some ⟨b, off, none⟩) x.ps.length pc, .int .i64 x.d, pv] := HsQ.out
          have own5 : OwnP 62 wr.drew w0.heap.size pv qs := Hown.out
          have Hb5 := Lib.hid Hbel.out.drew
          generalize wr.drew = W5 at *
          have j4 := s5.cell 4 (v := pv) rfl
          have hQ5 := s5.lt
          have Hs5 := Lib.hid s5
          have Hown5 := Lib.hid own5
          have hB5 : w0.heap.size ≤ W5.heap.size := by have := HB3.out.size; omega
          have hW5 : W3.heap.size ≤ W5.heap.size := by omega
          have hql' : qs.length ≤ 1099511627776 := by omega
          clear s5 own5 hbw gp k0 k1
          go_wp2_with (at_builtin; refine wpList_pushP Tryz.underlying56 (by kernel_rfl) rfl (.tmp 61) (.tmp 63) rfl w0.heap.size pv qs q rfl Hown5.out hql' rfl hB5 ?_; intro v8 w8 hown8 hg8 hloc8; (obtain ⟨a8, n8, c8, rfl⟩ : ∃ a n c, v8 = Value.slice a n c := (by obtain ⟨a, c, e, _⟩ := hown8.slice; exact ⟨a, _, c, e⟩)); (have t8 := Hs5.out.kept hg8 (fun e => by have := Hpb.out _ e.symm; omega)); (have j4 := t8.cell 4 (v := pv) rfl); (have f4 := t8.frozen 4); (have Ht8 := Lib.hid t8); (have Hown8 := Lib.hid hown8); (have Hloc8 := Lib.hid hloc8); (have Hb8 := Lib.hid (Hb5.out.grown hg8 hW5 (fun g e => by have := Hpb.out g e; omega))); (clear t8 hown8 hloc8 hg8))
          go_roundw
          case rel =>
            have hv8 : ∀ b, (Value.slice a8 n8 c8).ownBlock = some b → W3.heap.size < b := fun b e => by
              rcases Hloc8.out b e with h | h
              · exact Hpb.out b h
              · omega
            refine ⟨k + 1, qs ++ [q], .slice a8 n8 c8, by omega, by go_num, by rw [List.length_append, hql]; rfl, HstQ.out, Hh.out, Hown8.out.kept (grownBy_set _ _ _ _) (.inr fun e => ?_), hv8, Ht8.out.set 4 _, Hb8.out.setCell (p := ⟨W3.heap.size, 4, none⟩) (Nat.le_refl _) _⟩
            have := hv8 _ e; omega
          case measure => simp [intOf]; omega
        · rw [he] at gp
          have Hz := Lib.hid (F1.out (allB_no hlt hh))
          clear he hh Hst
          generalize x.ps[k] = p at *
          go_wp2_with fail
          refine wp_region_held_drew (S := fun w' => Below wr.heap.size wr w' ∧ w'.cell? ⟨w.heap.size, 0, none⟩ = some (.int .i64 x.r) ∧ w'.cell? ⟨G, plN (x.r - 1) p, none⟩ = some (.pointer none)) (by kernel_rfl) ⟨(Below.refl _ _).drew, k0, gp⟩ (fun hH => ?_)
          refine takeH 0 (v := ?vg0) rfl (by kernel_rfl) (by kernel_rfl) (by kernel_rfl) (fun _ _ _ h => h) hH rfl ?yg0 ?rg0
          case yg0 => intro W hSw; go_simp; try with_reducible rfl
          try simp only [Act.put, List.setIfInBounds_toArray, List.set_cons_zero, List.set_cons_succ]
          refine takeH 1 (v := ?vg1) rfl (by kernel_rfl) (by kernel_rfl) (by kernel_rfl) (fun _ _ _ h => h) hH rfl ?yg1 ?rg1
          case yg1 => intro W hSw; go_simp; try with_reducible rfl
          try simp only [Act.put, List.setIfInBounds_toArray, List.set_cons_zero, List.set_cons_succ]
          refine takeH 2 (v := ?vg2) rfl (by kernel_rfl) (by kernel_rfl) (by kernel_rfl) (fun _ _ _ h => h) hH rfl ?yg2 ?rg2
          case yg2 => intro W hSw; go_simp; try with_reducible rfl
          try simp only [Act.put, List.setIfInBounds_toArray, List.set_cons_zero, List.set_cons_succ]
          refine takeH 3 (v := ?vg3) rfl (by kernel_rfl) (by kernel_rfl) (by kernel_rfl) (fun _ _ _ h => h) hH rfl ?yg3 ?rg3
          case yg3 => intro W hSw; go_simp; try with_reducible rfl
          try simp only [Act.put, List.setIfInBounds_toArray, List.set_cons_zero, List.set_cons_succ]
          refine takeH 4 (v := ?vg4) rfl (by kernel_rfl) (by kernel_rfl) (by kernel_rfl) (fun _ _ _ h => h) hH rfl ?yg4 ?rg4
          case yg4 => intro W hSw; go_simp; try with_reducible rfl
          try simp only [Act.put, List.setIfInBounds_toArray, List.set_cons_zero, List.set_cons_succ]
          refine takeH 5 (v := ?vg5) rfl (by kernel_rfl) (by kernel_rfl) (by kernel_rfl) (fun _ _ _ h => h) hH rfl ?yg5 ?rg5
          case yg5 => intro W hSw; go_simp; try with_reducible rfl
          try simp only [Act.put, List.setIfInBounds_toArray, List.set_cons_zero, List.set_cons_succ]
          refine takeH 6 (v := ?vg6) rfl (by kernel_rfl) (by kernel_rfl) (by kernel_rfl) (fun _ _ _ h => h) hH rfl ?yg6 ?rg6
          case yg6 => intro W hSw; go_simp; try with_reducible rfl
          try simp only [Act.put, List.setIfInBounds_toArray, List.set_cons_zero, List.set_cons_succ]
          refine takeH 7 (v := ?vg7) rfl (by kernel_rfl) (by kernel_rfl) (by kernel_rfl) (fun _ _ _ h => h) hH rfl ?yg7 ?rg7
          case yg7 => intro W hSw; go_simp; try with_reducible rfl
          try simp only [Act.put, List.setIfInBounds_toArray, List.set_cons_zero, List.set_cons_succ]
          refine takeH 8 (v := ?vg8) rfl (by kernel_rfl) (by kernel_rfl) (by kernel_rfl) (fun _ _ _ h => h) hH rfl ?yg8 ?rg8
          case yg8 => intro W hSw; go_simp; try with_reducible rfl
          try simp only [Act.put, List.setIfInBounds_toArray, List.set_cons_zero, List.set_cons_succ]
          refine takeH 9 (v := ?vg9) rfl (by kernel_rfl) (by kernel_rfl) (by kernel_rfl) (fun _ _ _ h => h) hH rfl ?yg9 ?rg9
          case yg9 => intro W hSw; go_simp; try with_reducible rfl
          try simp only [Act.put, List.setIfInBounds_toArray, List.set_cons_zero, List.set_cons_succ]
          refine takeH 10 (v := ?vg10) rfl (by kernel_rfl) (by kernel_rfl) (by kernel_rfl) (fun _ _ _ h => h) hH rfl ?yg10 ?rg10
          case yg10 => intro W hSw; go_simp; try with_reducible rfl
          try simp only [Act.put, List.setIfInBounds_toArray, List.set_cons_zero, List.set_cons_succ]
          refine wpAnyH_done (by kernel_rfl) ?_ _
          try simp only [Act.put]
          obtain ⟨hbw, _, _⟩ := hH
          have HL5 := Lib.hid (HLr.out.under hbw)
          have Hb5 := Lib.hid (Hb3.out.trans ((Hbel.out.trans (hbw.mono hwr)).mono (by have := Hb3.out.size; omega)))
          generalize wr.drew = W5 at *
          clear hbw gp k0 k1
          go_wp2
          go_ret
          exact ⟨by rw [Hz.out.1]; rfl, below_rowP Hb5.out _, _, _, by rw [Hz.out.2]; exact HL5.out⟩
      · have Hz := Lib.hid (F2.out (allB_yes Hup.out (by omega)))
        have hq := HLr.out.cell (plN_bd hr1 ha1).2
        have gf : wr.drew.frozen? ⟨G, plN x.r x.a, none⟩ = false := HLr.out.str.frozen _
        have gq : wr.drew.cell? ⟨G, plN x.r x.a, none⟩ = some (h (plN x.r x.a)) := hq
        have hqn : h (plN x.r x.a) = .pointer none := HL3.out.non x.r x.a hr0 hr1 ha0 ha1 Hno.out
        rw [hqn] at gq
        have Hb5 := Lib.hid Hbel.out.drew
        have s5 : Str wr.drew W3.heap.size 66 #[.int .i64 x.r, .int .i64 x.a, .slice pa x.ps.length pc, .int .i64 x.d, pv] := HsQ.out
        have own5 : OwnP 62 wr.drew w0.heap.size pv qs := Hown.out
        have hob : ∀ b, pv.ownBlock = some b → b ≠ G ∧ b < wr.heap.size := fun b e => ⟨by have := Hpb.out b e; have := HL3.out.lt; omega, (own5.lt b e).2⟩
        have HP := Lib.hid (HL3.out.put (below_grown Hb5.out) Hpl.out Hno.out hhi (hi2 := wr.heap.size) s5.lt (by omega) (Nat.le_refl _) s5 Hip.out Hs.out own5 hob (by omega) Hqs.out (g' := insG g x) (fun y => ins_mem))
        have HG := Lib.hid (grownBy_trans (below_rowP (Hb3.out.trans (Hb5.out.mono (by have := Hb3.out.size; omega))) (some G)) (grownBy_set wr.drew G (plN x.r x.a) (ptrV W3.heap.size)))
        clear hq hqn s5 own5 hob Hb5
        go_wp2_with fail
        refine wp_region_L 10 (fun w' => w'.cell? ⟨w.heap.size, 0, none⟩ = some (.int .i64 x.r) ∧ w'.cell? ⟨w.heap.size, 1, none⟩ = some (.int .i64 x.a)) (by kernel_rfl) ⟨k0, k1⟩ (fun hH => ?_)
        refine takeL 0 (v := ?vh0) rfl (by kernel_rfl) (by kernel_rfl) (by kernel_rfl) (by kernel_rfl) (by kernel_rfl) (fun _ _ _ h => h) hH rfl ?yh0 ?rh0
        case yh0 => intro w hSw; go_simp; try with_reducible rfl
        try simp only [Act.put, List.setIfInBounds_toArray, List.set_cons_zero, List.set_cons_succ]
        refine takeL 1 (v := ?vh1) rfl (by kernel_rfl) (by kernel_rfl) (by kernel_rfl) (by kernel_rfl) (by kernel_rfl) (fun _ _ _ h => h) hH rfl ?yh1 ?rh1
        case yh1 => intro w hSw; go_simp; try with_reducible rfl
        try simp only [Act.put, List.setIfInBounds_toArray, List.set_cons_zero, List.set_cons_succ]
        refine takeL 2 (v := ?vh2) rfl (by kernel_rfl) (by kernel_rfl) (by kernel_rfl) (by kernel_rfl) (by kernel_rfl) (fun _ _ _ h => h) hH rfl ?yh2 ?rh2
        case yh2 => intro w hSw; go_simp; try with_reducible rfl
        try simp only [Act.put, List.setIfInBounds_toArray, List.set_cons_zero, List.set_cons_succ]
        refine takeL 3 (v := ?vh3) rfl (by kernel_rfl) (by kernel_rfl) (by kernel_rfl) (by kernel_rfl) (by kernel_rfl) (fun _ _ _ h => h) hH rfl ?yh3 ?rh3
        case yh3 => intro w hSw; go_simp; try with_reducible rfl
        try simp only [Act.put, List.setIfInBounds_toArray, List.set_cons_zero, List.set_cons_succ]
        refine takeL 4 (v := ?vh4) rfl (by kernel_rfl) (by kernel_rfl) (by kernel_rfl) (by kernel_rfl) (by kernel_rfl) (fun _ _ _ h => h) hH rfl ?yh4 ?rh4
        case yh4 => intro w hSw; go_simp; try with_reducible rfl
        try simp only [Act.put, List.setIfInBounds_toArray, List.set_cons_zero, List.set_cons_succ]
        refine takeL 5 (v := ?vh5) rfl (by kernel_rfl) (by kernel_rfl) (by kernel_rfl) (by kernel_rfl) (by kernel_rfl) (fun _ _ _ h => h) hH rfl ?yh5 ?rh5
        case yh5 => intro w hSw; go_simp; try with_reducible rfl
        try simp only [Act.put, List.setIfInBounds_toArray, List.set_cons_zero, List.set_cons_succ]
        refine callL 6 rfl (by kernel_rfl) rfl (fun K hK => ?_)
        go_simp
        refine hK.out _ _ hH (fun hH => ?_)
        clear hK K
        try simp only [Act.put, List.setIfInBounds_toArray, List.set_cons_zero, List.set_cons_succ]
        refine callL 7 rfl (by kernel_rfl) rfl (fun K hK => ?_)
        go_simp
        refine hK.out _ _ hH (fun hH => ?_)
        clear hK K
        try simp only [Act.put, List.setIfInBounds_toArray, List.set_cons_zero, List.set_cons_succ]
        refine callL 8 rfl (by kernel_rfl) rfl (fun K hK => ?_)
        go_simp
        refine hK.out _ _ hH (fun hH => ?_)
        clear hK K
        try simp only [Act.put, List.setIfInBounds_toArray, List.set_cons_zero, List.set_cons_succ]
        refine callL 9 rfl (by kernel_rfl) rfl (fun K hK => ?_)
        go_simp
        refine hK.out _ _ hH (fun hH => ?_)
        clear hK K
        try simp only [Act.put, List.setIfInBounds_toArray, List.set_cons_zero, List.set_cons_succ]
        refine lastL rfl (by kernel_rfl) (by kernel_rfl) (by kernel_rfl) rfl (fun K hK => ?_)
        go_simp
        refine hK.out _ _ ?_
        clear hK K
        try simp only [Act.put, List.setIfInBounds_toArray, List.set_cons_zero, List.set_cons_succ]
        go_wp2
        go_ret
        exact ⟨by rw [Hz.out.1]; rfl, HG.out, _, _, by rw [Hz.out.2]; exact HP.out⟩

end Go.Proofs.YtjaacdapibokiabGreatDoor

/- impl's list of a graph of pointers, by a walk of its text; conditions: lists are shorter than 2^40 (a graph: 2^20), the graph's vertices lie in order and in range. -/
namespace Go.Proofs.YtjaacdapibokiabGreatDoor
open Go.RowKit

theorem arrP_extract (n : Nat) (f : Nat → Value) (o k : Nat) (h : o + k ≤ n) : (arrP n f).extract o (o + k) = arrP k fun a => f (o + a) := by
  apply Array.ext
  · simp [arrP]; omega
  · intro j h1 h2
    simp [arrP]
theorem arrP_one {n : Nat} {f : Nat → Value} (h : ∀ i, i < n → (f i).oneCell' = true) : (arrP n f).all (·.oneCell') = true := by
  rw [Array.all_eq_true_iff_forall_mem]
  intro v hv
  simp only [arrP, List.mem_toArray, List.mem_map, List.mem_range] at hv
  obtain ⟨i, hi, rfl⟩ := hv
  exact h i hi
theorem run_index_row {P : Program} {T E : TypeId} {n k s : Nat} {d : TypeDesc} {cs : Array Value} (hu : P.underlying T = some (.array n E)) (hE : P.underlying E = some d) (hd : (match d with | .struct _ | .array _ _ => true | _ => false) = true)
    (hs : (P.info? E).map (·.size) = some s) (hk : k < n) (w : World) : (Instr.index T (.agg cs) (.int .i64 k)).run P w = .ok (.agg (cs.extract (k * s) (k * s + s))) w := by
  have h1 := run_underlying hu w
  have h2 : (isAgg E).run P w = .ok true w := by
    unfold isAgg; rw [Sem.run_bind, run_underlying hE w]; cases d <;> simp_all
  cases hq : P.info? E with
  | none => simp [hq] at hs
  | some i =>
    have hz : i.size = s := by simpa [hq] using hs
    simp [Instr.index, asIntOf, Sem.run_bind, h1, part, h2, sizeOf, typeInfo, hq, hz, hk]
theorem run_index_one {P : Program} {T E : TypeId} {n k : Nat} {d : TypeDesc} {cs : Array Value} {v : Value} (hu : P.underlying T = some (.array n E)) (hE : P.underlying E = some d) (hd : (match d with | .struct _ | .array _ _ => true | _ => false) = false)
    (hs : (P.info? E).map (·.size) = some 1) (hk : k < n) (hc : cs[k]? = some v) (w : World) : (Instr.index T (.agg cs) (.int .i64 k)).run P w = .ok v w := by
  have h1 := run_underlying hu w
  have h2 : (isAgg E).run P w = .ok false w := by
    unfold isAgg; rw [Sem.run_bind, run_underlying hE w]; cases d <;> simp_all
  cases hq : P.info? E with
  | none => simp [hq] at hs
  | some i =>
    have hz : i.size = 1 := by simpa [hq] using hs
    simp [Instr.index, asIntOf, Sem.run_bind, h1, part, h2, sizeOf, typeInfo, hq, hz, hk, hc]
theorem setRow_strP {W : World} {B : Nat} {t : TypeId} {vs : Array Value} (h : Str W B t vs) (cs : Array Value) : Str (W.setRow B cs) B t cs := setRow_heap W B vs cs t (0, 0) h
theorem grownBy_setRowP (W : World) (B : Nat) (cs : Array Value) : W.grownBy (W.setRow B cs) (some B) := ⟨rfl, rfl, rfl, by simp [World.setRow], fun k _ hk => setRow_other W B k cs (fun e => hk (by rw [e]))⟩

theorem Lk.cases {w0 w : World} {hi G : Nat} {mv : Value} {h : Nat → Value} {g : List Vx} (l : Lk w0 w hi G mv h g) (r a : Nat) (hr : r < 31) (ha : a < 7) :
    (∃ y ∈ g, y.r = r ∧ y.a = a ∧ ∃ q, h (1 + (r * 7 + a)) = ptrV q ∧ Nd w0 w hi G h q y) ∨ (h (1 + (r * 7 + a)) = .pointer none ∧ ∀ y ∈ g, ¬ (y.r = (r : Int) ∧ y.a = (a : Int))) := by
  have hp : plN (r : Int) (a : Int) = 1 + (r * 7 + a) := by unfold plN; simp
  by_cases he : ∃ y ∈ g, y.r = r ∧ y.a = a
  · obtain ⟨y, hy, er, ea⟩ := he
    obtain ⟨q, hq, hn⟩ := l.has y hy
    rw [er, ea, hp] at hq
    exact .inl ⟨y, hy, er, ea, q, hq, hn⟩
  · have hn : ∀ y ∈ g, ¬ (y.r = (r : Int) ∧ y.a = (a : Int)) := fun y hy e => he ⟨y, hy, e⟩
    have := l.non r a (by omega) (by omega) (by omega) (by omega) hn
    rw [hp] at this
    exact .inr ⟨this, hn⟩
theorem Lk.one {w0 w : World} {hi G : Nat} {mv : Value} {h : Nat → Value} {g : List Vx} (l : Lk w0 w hi G mv h g) (i : Nat) (hi : i < 217) : (h (1 + i)).oneCell' = true := by
  have e : i = i / 7 * 7 + i % 7 := by omega
  rcases l.cases (i / 7) (i % 7) (by omega) (by omega) with ⟨_, _, _, _, q, hq, _⟩ | ⟨hq, _⟩
  · rw [← e] at hq; rw [hq]; rfl
  · rw [← e] at hq; rw [hq]; rfl

end Go.Proofs.YtjaacdapibokiabGreatDoor

/- impl's linking of a list of vertices, by a walk of its text; conditions: lists are shorter than 2^40 (a graph: 2^20). -/
namespace Go.Proofs.YtjaacdapibokiabGreatDoor
open Go.RowKit

/-- The vertex at place k may be added to those ahead of it. -/
def stepB (c : List Int) (g : List Vx) (k : Nat) : Bool := (k == 0 || befB (g.getD (k - 1) vx0) (g.getD k vx0)) && (vtxB c (g.getD k vx0) && parB (g.take k) (g.getD k vx0))
theorem hasP_iff {g : List Vx} {r : Int} {ps : List Int} {k : Nat} : hasP g r ps k = true ↔ ∃ y ∈ g, y.r = r - 1 ∧ y.a = ps.getD k 0 := by
  unfold hasP
  rw [decide_eq_true_iff]
  rcases findZ_cases g (r - 1) (ps.getD k 0) with ⟨e, hn⟩ | ⟨j, hj, e, hs, _⟩
  · rw [e]
    refine ⟨fun h => by omega, fun ⟨y, hy, er, ea⟩ => ?_⟩
    have := hn y hy
    unfold sameRA at this
    simp [er, ea] at this
  · rw [e]
    refine ⟨fun _ => ⟨g[j], List.getElem_mem hj, of_decide_eq_true hs⟩, fun _ => by omega⟩
theorem parB_iff {g : List Vx} {x : Vx} : parB g x = true ↔ ∀ p ∈ x.ps, ∃ y ∈ g, y.r = x.r - 1 ∧ y.a = p := by
  constructor
  · intro h p hp
    obtain ⟨k, hk, rfl⟩ := List.mem_iff_getElem.1 hp
    have := hasP_iff.1 (allB_upto h k hk)
    rwa [getD_get hk] at this
  · intro h
    refine allB_yes (k := x.ps.length) (fun k hk => hasP_iff.2 ?_) (Nat.le_refl _)
    rw [getD_get hk]
    exact h _ (List.getElem_mem hk)
theorem step_srt {c : List Int} {g : List Vx} : ∀ k, k ≤ g.length → Upto (stepB c g) k → Srt (g.take k) ∧ ∀ y ∈ g.take k, vtxB c y = true
  | 0, _, _ => ⟨by simp [Srt], by simp⟩
  | k + 1, hk, h => by
    obtain ⟨h1, h2⟩ := step_srt k (by omega) (fun j hj => h j (by omega))
    have hs := h k (by omega)
    unfold stepB at hs
    rw [getV (show k < g.length by omega)] at hs
    simp only [Bool.and_eq_true, Bool.or_eq_true, beq_iff_eq] at hs
    rw [List.take_succ_eq_append_getElem (show k < g.length by omega)]
    refine ⟨?_, ?_⟩
    · unfold Srt at *
      rw [List.pairwise_append]
      refine ⟨h1, by simp, fun a ha b hb => ?_⟩
      simp at hb; subst hb
      rcases hs.1 with e | e
      · subst e; simp at ha
      · rcases Nat.eq_zero_or_pos k with e0 | e0
        · subst e0; simp at ha
        · rw [getV (show k - 1 < g.length by omega)] at e
          obtain ⟨j, hj, rfl⟩ := List.mem_iff_getElem.1 ha
          rw [List.length_take] at hj
          rw [List.getElem_take]
          by_cases ej : j = k - 1
          · subst ej; exact e
          · have := (List.pairwise_iff_getElem.1 h1) j (k - 1) (by rw [List.length_take]; omega) (by rw [List.length_take]; omega) (by omega)
            rw [List.getElem_take, List.getElem_take] at this
            exact bef_trans this e
    · intro y hy
      rcases List.mem_append.1 hy with hy | hy
      · exact h2 y hy
      · simp at hy; subst hy; exact hs.2.1
theorem graph_step {c : List Int} {g : List Vx} : graphB c g = (validB c && allB (stepB c g) g.length) := by
  rw [Bool.eq_iff_iff]
  constructor
  · intro h
    have hs := graph_sorted h
    unfold graphB at h
    rw [Bool.and_eq_true] at h
    rw [Bool.and_eq_true]
    refine ⟨h.1, allB_yes (k := g.length) (fun k hk => ?_) (Nat.le_refl _)⟩
    have ho := allB_upto h.2 k hk
    unfold okV at ho
    unfold stepB
    simp only [Bool.and_eq_true] at ho ⊢
    refine ⟨ho.2.1, ho.1, parB_iff.2 fun p hp => ?_⟩
    obtain ⟨y, hy, er, ea⟩ := parB_iff.1 ho.2.2 p hp
    obtain ⟨j, hj, rfl⟩ := List.mem_iff_getElem.1 hy
    refine ⟨g[j], ?_, er, ea⟩
    rw [getV hk] at er
    have hjk : j < k := by
      rcases Nat.lt_trichotomy j k with h1 | h1 | h1
      · exact h1
      · subst h1; omega
      · have := befB_iff.1 ((List.pairwise_iff_getElem.1 hs) k j hk hj h1); omega
    exact List.mem_iff_getElem.2 ⟨j, by rw [List.length_take]; omega, by rw [List.getElem_take]⟩
  · intro h
    rw [Bool.and_eq_true] at h
    unfold graphB
    rw [Bool.and_eq_true]
    refine ⟨h.1, allB_yes (k := g.length) (fun k hk => ?_) (Nat.le_refl _)⟩
    have hs := allB_upto h.2 k hk
    unfold stepB at hs
    unfold okV
    simp only [Bool.and_eq_true] at hs ⊢
    refine ⟨hs.2.1, hs.1, parB_iff.2 fun p hp => ?_⟩
    obtain ⟨y, hy, er, ea⟩ := parB_iff.1 hs.2.2 p hp
    exact ⟨y, List.mem_of_mem_take hy, er, ea⟩
/-- What adding the next vertex answers, where it comes behind the one ahead of it. -/
theorem step_add {c : List Int} {g : List Vx} {k : Nat} (hk : k < g.length) (hu : Upto (stepB c g) k) (hb : k = 0 ∨ befB (g.getD (k - 1) vx0) g[k] = true) :
    (stepB c g k = true → adN c (g.take k) g[k] = 0 ∧ adG c (g.take k) g[k] = g.take (k + 1)) ∧ (stepB c g k = false → adN c (g.take k) g[k] ≠ 0) := by
  obtain ⟨h1, h2⟩ := step_srt k (by omega) hu
  have hall : ∀ y ∈ g.take k, befB y g[k] = true := by
    intro y hy
    rcases hb with e | e
    · subst e; simp at hy
    · rcases Nat.eq_zero_or_pos k with e0 | e0
      · subst e0; simp at hy
      · rw [getV (show k - 1 < g.length by omega)] at e
        obtain ⟨j, hj, rfl⟩ := List.mem_iff_getElem.1 hy
        rw [List.length_take] at hj
        rw [List.getElem_take]
        by_cases ej : j = k - 1
        · subst ej; exact e
        · have := (List.pairwise_iff_getElem.1 h1) j (k - 1) (by rw [List.length_take]; omega) (by rw [List.length_take]; omega) (by omega)
          rw [List.getElem_take, List.getElem_take] at this
          exact bef_trans this e
  have hno : ∀ y ∈ g.take k, ¬ (y.r = g[k].r ∧ y.a = g[k].a) := fun y hy e => by
    have := befB_iff.1 (hall y hy); omega
  have hs : stepB c g k = (vtxB c g[k] && parB (g.take k) g[k]) := by
    unfold stepB
    rw [getV hk]
    rcases hb with e | e
    · subst e; rfl
    · rw [e]; simp
  rw [hs]
  cases hv : vtxB c g[k] with
  | false => exact ⟨fun h => by simp at h, fun _ => by rw [(ad_not hv).1]; decide⟩
  | true =>
    obtain ⟨f1, f2⟩ := add_fresh hv hno
    refine ⟨fun h => ?_, fun h => ?_⟩
    · obtain ⟨e1, e2⟩ := f2 (by simpa using h)
      exact ⟨e1, by rw [e2, ins_last hall, List.take_succ_eq_append_getElem hk]⟩
    · rw [(f1 (by simpa using h)).1]; decide

def OfPost (w : World) (mv : Value) (c : List Int) (g : List Vx) : Ending → World → Prop := fun e w' => Below w.heap.size w w' ∧
  ((graphB c g = false ∧ e = .returned (.tuple #[.pointer none, .bool false])) ∨ (graphB c g = true ∧ ∃ G hi h, e = .returned (.tuple #[.pointer (some ⟨G, 0, none⟩), .bool true]) ∧ w.heap.size ≤ G ∧ Lk w w' hi G mv h g))
theorem of_no {w w' : World} {mv : Value} {c : List Int} {g : List Vx} {e : Ending} (h : graphB c g = false) (he : e = .returned (.tuple #[.pointer none, .bool false])) (hb : Below w.heap.size w w') : OfPost w mv c g e w' := ⟨hb, .inl ⟨h, he⟩⟩
theorem of_yes {w w' : World} {mv : Value} {c : List Int} {g : List Vx} {e : Ending} {G hi : Nat} {h : Nat → Value} (hg : graphB c g = true) (he : e = .returned (.tuple #[.pointer (some ⟨G, 0, none⟩), .bool true])) (hb : Below w.heap.size w w') (hG : w.heap.size ≤ G) (hl : Lk w w' hi G mv h g) : OfPost w mv c g e w' :=
  ⟨hb, .inr ⟨hg, G, hi, h, he, hG, hl⟩⟩
set_option maxRecDepth 8000 in
set_option maxHeartbeats 4000000 in
theorem impl_graphOf (ac : Option Addr) (capc : Nat) (c : List Int) (g : List Vx) (v : Value) (fp : List Nat) (w : World) (hn : c.length ≤ 1099511627776) (hbig : g.length ≤ 1048576) (hps : ∀ x ∈ g, x.ps.length ≤ 1099511627776) (hc : IntsAt w ac c) (hg : Gr w g v fp) :
    Calls Tryz.prog 52 #[.slice ac c.length capc, v] w (OfPost w (.slice ac c.length capc) c g) := by
  obtain ⟨va, vc, rfl⟩ := hg.slice
  have Hcv := Lib.hid (impl_CommitteeValid ac capc c w hn hc)
  cases hv : validB c with
  | false =>
    have hz : graphB c g = false := by unfold graphB; rw [hv]; rfl
    rw [hv] at Hcv
    have Hz := Lib.hid hz; clear hz hc hg hps
    go_enter Tryz.func52, Tryz.ntmps52
    go_wp2_with fail
    refine Hcv.out.mono ?_
    rintro e w1 ⟨rfl, rfl⟩
    go_wp2
    go_ret2
    exact of_no Hz.out rfl (Below.refl _ _)
  | true =>
  rw [hv] at Hcv
  have Hres := Lib.hid (show graphB c g = allB (stepB c g) g.length by rw [graph_step, hv]; rfl)
  have hA : Tryz.zeroCells108.setIfInBounds 0 (.slice ac c.length capc) = arrP 218 fun i => if i = 0 then .slice ac c.length capc else .pointer none := by kernel_rfl
  have hb0 : Below w.heap.size w (w.alloc (.cells (Tryz.zeroCells108.setIfInBounds 0 (.slice ac c.length capc)) 108)) := (Below.refl _ _).alloc (Nat.le_refl _) _
  have hL0 : Lk w (w.alloc (.cells (Tryz.zeroCells108.setIfInBounds 0 (.slice ac c.length capc)) 108)) (w.heap.size + 1) w.heap.size (.slice ac c.length capc) (fun i => if i = 0 then .slice ac c.length capc else .pointer none) [] :=
    Lk.new (by rw [hA]; exact Str.new w 108 _) (Nat.le_refl _) (by omega) (by simp)
  clear hA
  have HL0 := Lib.hid hL0; clear hL0
  have HP := Lib.hid hps; clear hps
  have Hc := Lib.hid hc; clear hc
  have Hg := Lib.hid hg; clear hg
  have Hb0 := Lib.hid hb0; clear hb0
  go_enter Tryz.func52, Tryz.ntmps52
  go_wp2_with fail
  refine Hcv.out.mono ?_
  rintro e w1 ⟨rfl, rfl⟩
  go_wp2_with fail
  go_loopw [17] (fun i wr => ∃ (k hi : Nat) (h : Nat → Value), k ≤ g.length ∧ i = .int .i64 k ∧ Upto (stepB c g) k ∧ Lk w wr hi w.heap.size (.slice ac c.length capc) h (g.take k) ∧ Below w.heap.size w wr) (fun i _ => g.length - (intOf i).toNat)
  case atStart => exact ⟨0, _, _, by omega, rfl, upto_zero _, HL0.out, Hb0.out⟩
  case round =>
    obtain ⟨k, hi, h, hk, rfl, hup, hL, hbel⟩ := hrel
    have HL := Lib.hid hL; clear hL
    have Hbel := Lib.hid hbel; clear hbel
    have Hup := Lib.hid hup; clear hup
    by_cases hlt : k < g.length
    · obtain ⟨b, off, rfl, hb, hat⟩ := Hg.out.at (by omega)
      obtain ⟨c0, c1, ⟨pa, pc, c2, i2, s2⟩, c3⟩ := hat k hlt
      have hpx := HP.out _ (List.getElem_mem hlt)
      have c0 := (Hbel.out.cell (p := ⟨b, off + k * 4, none⟩) hb).trans c0
      have c1 := (Hbel.out.cell (p := ⟨b, off + k * 4 + 1, none⟩) hb).trans c1
      have c2 := (Hbel.out.cell (p := ⟨b, off + k * 4 + 2, none⟩) hb).trans c2
      have c3 := (Hbel.out.cell (p := ⟨b, off + k * 4 + 3, none⟩) hb).trans c3
      have Hat := Lib.hid hat; clear hat
      have HSA := Lib.hid (step_add hlt Hup.out)
      have hbA : Below wr.heap.size wr (wr.alloc (.cells #[.int .i64 g[k].r, .int .i64 g[k].a, .slice pa g[k].ps.length pc, .int .i64 g[k].d] 64)) := (Below.refl _ _).alloc (Nat.le_refl _) _
      have s0 := Str.new wr 64 #[.int .i64 g[k].r, .int .i64 g[k].a, .slice pa g[k].ps.length pc, .int .i64 g[k].d]
      have k0 := s0.cell 0 (v := .int .i64 g[k].r) rfl
      have k1 := s0.cell 1 (v := .int .i64 g[k].a) rfl
      have k2 := s0.cell 2 (v := .slice pa g[k].ps.length pc) rfl
      have k3 := s0.cell 3 (v := .int .i64 g[k].d) rfl
      have hbwA := below_step Hbel.out Hbel.out.size hbA
      have hsr := step_srt k (by omega) Hup.out
      have hgpt : ∀ y ∈ g.take k, y.ps.length ≤ 1099511627776 := fun y hy => HP.out y (List.mem_of_mem_take hy)
      have HAdd := Lib.hid (fun W (hW : Below (wr.alloc (.cells #[.int .i64 g[k].r, .int .i64 g[k].a, .slice pa g[k].ps.length pc, .int .i64 g[k].d] 64)).heap.size (wr.alloc (.cells #[.int .i64 g[k].r, .int .i64 g[k].a, .slice pa g[k].ps.length pc, .int .i64 g[k].d] 64)) W) =>
        graph_add w W hi w.heap.size ac capc c h (g.take k) g[k] pa pc hv hpx hgpt s2 i2 Hc.out (below_step hbwA hbwA.size hW) ((HL.out.under hbA).under hW) hsr.1 hsr.2)
      have hltB : b < (wr.alloc (.cells #[.int .i64 g[k].r, .int .i64 g[k].a, .slice pa g[k].ps.length pc, .int .i64 g[k].d] 64)).heap.size := Nat.lt_of_lt_of_le hb hbwA.size
      have hlwB : w.heap.size < wr.heap.size := Nat.lt_of_lt_of_le HL.out.lt HL.out.le
      have hwrB : wr.heap.size < (wr.alloc (.cells #[.int .i64 g[k].r, .int .i64 g[k].a, .slice pa g[k].ps.length pc, .int .i64 g[k].d] 64)).heap.size := by simp
      have Hg1 := Lib.hid (show ∀ j, j < g.length → (wr.alloc (.cells #[.int .i64 g[k].r, .int .i64 g[k].a, .slice pa g[k].ps.length pc, .int .i64 g[k].d] 64)).cell? ⟨b, off + j * 4, none⟩ = some (.int .i64 (g.getD j vx0).r) ∧ (wr.alloc (.cells #[.int .i64 g[k].r, .int .i64 g[k].a, .slice pa g[k].ps.length pc, .int .i64 g[k].d] 64)).cell? ⟨b, off + j * 4 + 1, none⟩ = some (.int .i64 (g.getD j vx0).a) ∧ ∃ pa' pc', (wr.alloc (.cells #[.int .i64 g[k].r, .int .i64 g[k].a, .slice pa g[k].ps.length pc, .int .i64 g[k].d] 64)).cell? ⟨b, off + j * 4 + 2, none⟩ = some (.slice pa' (g.getD j vx0).ps.length pc') ∧ (wr.alloc (.cells #[.int .i64 g[k].r, .int .i64 g[k].a, .slice pa g[k].ps.length pc, .int .i64 g[k].d] 64)).cell? ⟨b, off + j * 4 + 3, none⟩ = some (.int .i64 (g.getD j vx0).d) from fun j hj => by
        obtain ⟨d0, d1, ⟨pa', pc', d2, _⟩, d3⟩ := Hat.out j hj
        rw [getV hj]
        exact ⟨(hbwA.cell (p := ⟨b, off + j * 4, none⟩) hb).trans d0, (hbwA.cell (p := ⟨b, off + j * 4 + 1, none⟩) hb).trans d1, pa', pc', (hbwA.cell (p := ⟨b, off + j * 4 + 2, none⟩) hb).trans d2, (hbwA.cell (p := ⟨b, off + j * 4 + 3, none⟩) hb).trans d3⟩)
      have HbwA := Lib.hid hbwA
      have hgk := getV hlt
      have Hgk := Lib.hid hgk
      clear hbA s0 hbwA hsr hgpt i2 s2 hpx Hat hgk HL
      generalize hx : g[k] = x at *
      have Hx := Lib.hid hx; clear hx
      obtain ⟨xr, xa, xp, xd⟩ := x
      dsimp only at *
      go_wp2_with fail
      generalize wr.alloc (.cells #[.int .i64 xr, .int .i64 xa, .slice pa xp.length pc, .int .i64 xd] 64) = wB at *
      clear c0 c1 c2 c3
      have hw1 : IntKind.i64.wrap ((k : Int) - 1) = k - 1 := IntWalk.i64_in _ (by omega)
      by_cases h0 : k = 0
      · have hgt : decide ((0 : Int) < (k : Int)) = false := decide_eq_false (by omega)
        have hgt' : ¬ (0 : Int) < (k : Int) := by omega
        have HS2 := Lib.hid (HSA.out (.inl h0))
        have H0 := Lib.hid h0; clear h0 hw1 HSA
        cases hst : stepB c g k with
        | false =>
          have Hne := Lib.hid (HS2.out.2 hst)
          have Hz := Lib.hid (allB_no hlt hst)
          refine wp_region_held_drew (S := fun w' => wB.grownBy w' (some w.heap.size) ∧ w'.cell? ⟨wr.heap.size, 0, none⟩ = some (.int .i64 xr) ∧ w'.cell? ⟨wr.heap.size, 1, none⟩ = some (.int .i64 xa) ∧ w'.cell? ⟨wr.heap.size, 2, none⟩ = some (.slice pa xp.length pc) ∧ w'.cell? ⟨wr.heap.size, 3, none⟩ = some (.int .i64 xd)) (by kernel_rfl) ⟨below_rowP (Below.refl _ _).drew _, k0, k1, k2, k3⟩ (fun hH => ?_)
          refine takeH 0 (v := ?va0) rfl (by kernel_rfl) (by kernel_rfl) (by kernel_rfl) (fun _ _ _ h => h) hH rfl ?ya0 ?ra0
          case ya0 => intro W hSw; go_simp; try with_reducible rfl
          try simp only [Act.put, List.setIfInBounds_toArray, List.set_cons_zero, List.set_cons_succ]
          refine takeH 1 (v := .bool false) rfl (by kernel_rfl) (by kernel_rfl) (by kernel_rfl) (fun _ _ _ h => h) hH rfl ?ya1 ?ra1
          case ya1 => intro W hSw; go_simp; first | done | simp only [hgt] | omega | (simp; omega)
          try simp only [Act.put, List.setIfInBounds_toArray, List.set_cons_zero, List.set_cons_succ]
          refine takeH 2 (v := ?va2) rfl (by kernel_rfl) (by kernel_rfl) (by kernel_rfl) (fun _ _ _ h => h) hH rfl ?ya2 ?ra2
          case ya2 => intro W hSw; go_simp; try with_reducible rfl
          try simp only [Act.put, List.setIfInBounds_toArray, List.set_cons_zero, List.set_cons_succ]
          refine skipH 3 rfl (by kernel_rfl) (by kernel_rfl) (by kernel_rfl) (fun _ _ _ h => h) hH rfl ?_
          try simp only [Act.put, List.setIfInBounds_toArray, List.set_cons_zero, List.set_cons_succ]
          refine skipH 4 rfl (by kernel_rfl) (by kernel_rfl) (by kernel_rfl) (fun _ _ _ h => h) hH rfl ?_
          try simp only [Act.put, List.setIfInBounds_toArray, List.set_cons_zero, List.set_cons_succ]
          refine skipH 5 rfl (by kernel_rfl) (by kernel_rfl) (by kernel_rfl) (fun _ _ _ h => h) hH rfl ?_
          try simp only [Act.put, List.setIfInBounds_toArray, List.set_cons_zero, List.set_cons_succ]
          refine skipH 6 rfl (by kernel_rfl) (by kernel_rfl) (by kernel_rfl) (fun _ _ _ h => h) hH rfl ?_
          try simp only [Act.put, List.setIfInBounds_toArray, List.set_cons_zero, List.set_cons_succ]
          refine skipH 7 rfl (by kernel_rfl) (by kernel_rfl) (by kernel_rfl) (fun _ _ _ h => h) hH rfl ?_
          try simp only [Act.put, List.setIfInBounds_toArray, List.set_cons_zero, List.set_cons_succ]
          refine skipH 8 rfl (by kernel_rfl) (by kernel_rfl) (by kernel_rfl) (fun _ _ _ h => h) hH rfl ?_
          try simp only [Act.put, List.setIfInBounds_toArray, List.set_cons_zero, List.set_cons_succ]
          refine skipH 9 rfl (by kernel_rfl) (by kernel_rfl) (by kernel_rfl) (fun _ _ _ h => h) hH rfl ?_
          try simp only [Act.put, List.setIfInBounds_toArray, List.set_cons_zero, List.set_cons_succ]
          refine skipH 10 rfl (by kernel_rfl) (by kernel_rfl) (by kernel_rfl) (fun _ _ _ h => h) hH rfl ?_
          try simp only [Act.put, List.setIfInBounds_toArray, List.set_cons_zero, List.set_cons_succ]
          refine takeH 11 (v := ?va11) rfl (by kernel_rfl) (by kernel_rfl) (by kernel_rfl) (fun _ _ _ h => h) hH rfl ?ya11 ?ra11
          case ya11 => intro W hSw; go_simp; try with_reducible rfl
          try simp only [Act.put, List.setIfInBounds_toArray, List.set_cons_zero, List.set_cons_succ]
          refine takeH 12 (v := ?va12) rfl (by kernel_rfl) (by kernel_rfl) (by kernel_rfl) (fun _ _ _ h => h) hH rfl ?ya12 ?ra12
          case ya12 => intro W hSw; go_simp; try with_reducible rfl
          try simp only [Act.put, List.setIfInBounds_toArray, List.set_cons_zero, List.set_cons_succ]
          refine takeH 13 (v := ?va13) rfl (by kernel_rfl) (by kernel_rfl) (by kernel_rfl) (fun _ _ _ h => h) hH rfl ?ya13 ?ra13
          case ya13 => intro W hSw; go_simp; try with_reducible rfl
          try simp only [Act.put, List.setIfInBounds_toArray, List.set_cons_zero, List.set_cons_succ]
          refine takeH 14 (v := ?va14) rfl (by kernel_rfl) (by kernel_rfl) (by kernel_rfl) (fun _ _ _ h => h) hH rfl ?ya14 ?ra14
          case ya14 => intro W hSw; go_simp; try with_reducible rfl
          try simp only [Act.put, List.setIfInBounds_toArray, List.set_cons_zero, List.set_cons_succ]
          refine callH 15 rfl (by kernel_rfl) rfl (fun K hK => ?_)
          go_simp
          go_at_call 77
          refine (HAdd.out _ ((Below.refl _ _).drew)).mono ?_
          rintro e wz ⟨rfl, hgz, _⟩
          generalize hm : adN c (g.take k) ⟨xr, xa, xp, xd⟩ = m at *
          have hm' : (m != 0) = true := by simpa using Hne.out
          clear hm
          refine hK.out _ _ ⟨grownBy_trans hH.1 (hgz), (hgz).cell hH.2.1 (by simp only [ne_eq, Option.some.injEq]; omega), (hgz).cell hH.2.2.1 (by simp only [ne_eq, Option.some.injEq]; omega), (hgz).cell hH.2.2.2.1 (by simp only [ne_eq, Option.some.injEq]; omega), (hgz).cell hH.2.2.2.2 (by simp only [ne_eq, Option.some.injEq]; omega)⟩ (fun hH => ?_)
          clear hK K
          try simp only [Act.put, List.setIfInBounds_toArray, List.set_cons_zero, List.set_cons_succ]
          refine takeH 16 (v := ?va16) rfl (by kernel_rfl) (by kernel_rfl) (by kernel_rfl) (fun _ _ _ h => h) hH rfl ?ya16 ?ra16
          case ya16 => intro W hSw; go_simp; try with_reducible rfl
          try simp only [Act.put, List.setIfInBounds_toArray, List.set_cons_zero, List.set_cons_succ]
          refine takeH 17 (v := ?va17) rfl (by kernel_rfl) (by kernel_rfl) (by kernel_rfl) (fun _ _ _ h => h) hH rfl ?ya17 ?ra17
          case ya17 => intro W hSw; go_simp; try with_reducible rfl
          try simp only [Act.put, List.setIfInBounds_toArray, List.set_cons_zero, List.set_cons_succ]
          refine wpAnyH_done (by kernel_rfl) ?_ _
          try simp only [Act.put]
          have Hend := Lib.hid (HbwA.out.grown hH.1 HbwA.out.size (fun g e => by cases e; exact Nat.le_refl _))
          go_wp2
          go_ret2
          exact of_no (by rw [Hres.out, Hz.out]) rfl Hend.out
        | true =>
          obtain ⟨hz1, hz2⟩ := HS2.out.1 hst
          have Hz1 := Lib.hid hz1
          have Hz2 := Lib.hid hz2
          have Hup1 := Lib.hid (upto_step Hup.out hst)
          clear hz1 hz2
          refine wp_region_held_drew (S := fun w' => wB.grownBy w' (some w.heap.size) ∧ w'.cell? ⟨wr.heap.size, 0, none⟩ = some (.int .i64 xr) ∧ w'.cell? ⟨wr.heap.size, 1, none⟩ = some (.int .i64 xa) ∧ w'.cell? ⟨wr.heap.size, 2, none⟩ = some (.slice pa xp.length pc) ∧ w'.cell? ⟨wr.heap.size, 3, none⟩ = some (.int .i64 xd)) (by kernel_rfl) ⟨below_rowP (Below.refl _ _).drew _, k0, k1, k2, k3⟩ (fun hH => ?_)
          refine takeH 0 (v := ?vb0) rfl (by kernel_rfl) (by kernel_rfl) (by kernel_rfl) (fun _ _ _ h => h) hH rfl ?yb0 ?rb0
          case yb0 => intro W hSw; go_simp; try with_reducible rfl
          try simp only [Act.put, List.setIfInBounds_toArray, List.set_cons_zero, List.set_cons_succ]
          refine takeH 1 (v := .bool false) rfl (by kernel_rfl) (by kernel_rfl) (by kernel_rfl) (fun _ _ _ h => h) hH rfl ?yb1 ?rb1
          case yb1 => intro W hSw; go_simp; first | done | simp only [hgt] | omega | (simp; omega)
          try simp only [Act.put, List.setIfInBounds_toArray, List.set_cons_zero, List.set_cons_succ]
          refine takeH 2 (v := ?vb2) rfl (by kernel_rfl) (by kernel_rfl) (by kernel_rfl) (fun _ _ _ h => h) hH rfl ?yb2 ?rb2
          case yb2 => intro W hSw; go_simp; try with_reducible rfl
          try simp only [Act.put, List.setIfInBounds_toArray, List.set_cons_zero, List.set_cons_succ]
          refine skipH 3 rfl (by kernel_rfl) (by kernel_rfl) (by kernel_rfl) (fun _ _ _ h => h) hH rfl ?_
          try simp only [Act.put, List.setIfInBounds_toArray, List.set_cons_zero, List.set_cons_succ]
          refine skipH 4 rfl (by kernel_rfl) (by kernel_rfl) (by kernel_rfl) (fun _ _ _ h => h) hH rfl ?_
          try simp only [Act.put, List.setIfInBounds_toArray, List.set_cons_zero, List.set_cons_succ]
          refine skipH 5 rfl (by kernel_rfl) (by kernel_rfl) (by kernel_rfl) (fun _ _ _ h => h) hH rfl ?_
          try simp only [Act.put, List.setIfInBounds_toArray, List.set_cons_zero, List.set_cons_succ]
          refine skipH 6 rfl (by kernel_rfl) (by kernel_rfl) (by kernel_rfl) (fun _ _ _ h => h) hH rfl ?_
          try simp only [Act.put, List.setIfInBounds_toArray, List.set_cons_zero, List.set_cons_succ]
          refine skipH 7 rfl (by kernel_rfl) (by kernel_rfl) (by kernel_rfl) (fun _ _ _ h => h) hH rfl ?_
          try simp only [Act.put, List.setIfInBounds_toArray, List.set_cons_zero, List.set_cons_succ]
          refine skipH 8 rfl (by kernel_rfl) (by kernel_rfl) (by kernel_rfl) (fun _ _ _ h => h) hH rfl ?_
          try simp only [Act.put, List.setIfInBounds_toArray, List.set_cons_zero, List.set_cons_succ]
          refine skipH 9 rfl (by kernel_rfl) (by kernel_rfl) (by kernel_rfl) (fun _ _ _ h => h) hH rfl ?_
          try simp only [Act.put, List.setIfInBounds_toArray, List.set_cons_zero, List.set_cons_succ]
          refine skipH 10 rfl (by kernel_rfl) (by kernel_rfl) (by kernel_rfl) (fun _ _ _ h => h) hH rfl ?_
          try simp only [Act.put, List.setIfInBounds_toArray, List.set_cons_zero, List.set_cons_succ]
          refine takeH 11 (v := ?vb11) rfl (by kernel_rfl) (by kernel_rfl) (by kernel_rfl) (fun _ _ _ h => h) hH rfl ?yb11 ?rb11
          case yb11 => intro W hSw; go_simp; try with_reducible rfl
          try simp only [Act.put, List.setIfInBounds_toArray, List.set_cons_zero, List.set_cons_succ]
          refine takeH 12 (v := ?vb12) rfl (by kernel_rfl) (by kernel_rfl) (by kernel_rfl) (fun _ _ _ h => h) hH rfl ?yb12 ?rb12
          case yb12 => intro W hSw; go_simp; try with_reducible rfl
          try simp only [Act.put, List.setIfInBounds_toArray, List.set_cons_zero, List.set_cons_succ]
          refine takeH 13 (v := ?vb13) rfl (by kernel_rfl) (by kernel_rfl) (by kernel_rfl) (fun _ _ _ h => h) hH rfl ?yb13 ?rb13
          case yb13 => intro W hSw; go_simp; try with_reducible rfl
          try simp only [Act.put, List.setIfInBounds_toArray, List.set_cons_zero, List.set_cons_succ]
          refine takeH 14 (v := ?vb14) rfl (by kernel_rfl) (by kernel_rfl) (by kernel_rfl) (fun _ _ _ h => h) hH rfl ?yb14 ?rb14
          case yb14 => intro W hSw; go_simp; try with_reducible rfl
          try simp only [Act.put, List.setIfInBounds_toArray, List.set_cons_zero, List.set_cons_succ]
          refine callH 15 rfl (by kernel_rfl) rfl (fun K hK => ?_)
          go_simp
          go_at_call 77
          refine (HAdd.out _ ((Below.refl _ _).drew)).mono ?_
          rintro e wz ⟨rfl, hgz, hi2, h2, hl2⟩
          rw [Hz1.out]
          rw [Hz2.out] at hl2
          have Hadd := Lib.hid hl2
          clear hl2
          refine hK.out _ _ ⟨grownBy_trans hH.1 (hgz), (hgz).cell hH.2.1 (by simp only [ne_eq, Option.some.injEq]; omega), (hgz).cell hH.2.2.1 (by simp only [ne_eq, Option.some.injEq]; omega), (hgz).cell hH.2.2.2.1 (by simp only [ne_eq, Option.some.injEq]; omega), (hgz).cell hH.2.2.2.2 (by simp only [ne_eq, Option.some.injEq]; omega)⟩ (fun hH => ?_)
          clear hK K
          try simp only [Act.put, List.setIfInBounds_toArray, List.set_cons_zero, List.set_cons_succ]
          refine takeH 16 (v := ?vb16) rfl (by kernel_rfl) (by kernel_rfl) (by kernel_rfl) (fun _ _ _ h => h) hH rfl ?yb16 ?rb16
          case yb16 => intro W hSw; go_simp; try with_reducible rfl
          try simp only [Act.put, List.setIfInBounds_toArray, List.set_cons_zero, List.set_cons_succ]
          refine takeH 17 (v := ?vb17) rfl (by kernel_rfl) (by kernel_rfl) (by kernel_rfl) (fun _ _ _ h => h) hH rfl ?yb17 ?rb17
          case yb17 => intro W hSw; go_simp; try with_reducible rfl
          try simp only [Act.put, List.setIfInBounds_toArray, List.set_cons_zero, List.set_cons_succ]
          refine wpAnyH_done (by kernel_rfl) ?_ _
          try simp only [Act.put]
          have Hend := Lib.hid (HbwA.out.grown hH.1 HbwA.out.size (fun g e => by cases e; exact Nat.le_refl _))
          go_wp2
          go_roundw
          case rel => exact ⟨k + 1, _, _, by omega, by go_num, Hup1.out, Hadd.out, Hend.out⟩
          case measure => simp [intOf]; omega
      · have hgt : decide ((0 : Int) < (k : Int)) = true := decide_eq_true (by omega)
        have hgt' : (0 : Int) < (k : Int) := by omega
        obtain ⟨d0, d1, pa', pc', d2, d3⟩ := Hg1.out (k - 1) (by omega)
        have Hk0 := Lib.hid (show (k == 0) = false by simpa using h0)
        have Hst := Lib.hid (show befB (g.getD (k - 1) vx0) ⟨xr, xa, xp, xd⟩ = false → stepB c g k = false from fun h => by unfold stepB; rw [Hk0.out, Hgk.out, h]; rfl)
        have HS2 := Lib.hid (fun h => HSA.out (.inr h))
        clear Hg1 HSA
        generalize hy : g.getD (k - 1) vx0 = y at *
        have Hy := Lib.hid hy; clear hy
        obtain ⟨yr, ya, yp, yd⟩ := y
        dsimp only at *
        have HB := Lib.hid (vertex_isBefore ⟨yr, ya, yp, yd⟩ ⟨xr, xa, xp, xd⟩ pa' pa pc' pc)
        have e3 : ((k : Int) - 1).toNat = k - 1 := by omega
        have e4 : 0 ≤ (k : Int) - 1 := by omega
        have e5 : 1 ≤ (k : Int) := by omega
        have e6 : (k : Int) - 1 < g.length := by omega
        cases h2 : befB ⟨yr, ya, yp, yd⟩ ⟨xr, xa, xp, xd⟩ with
        | false =>
          rw [h2] at HB
          have Hz := Lib.hid (allB_no hlt (Hst.out h2))
          refine wp_region_held_drew (S := fun w' => wB.grownBy w' (some w.heap.size) ∧ w'.cell? ⟨wr.heap.size, 0, none⟩ = some (.int .i64 xr) ∧ w'.cell? ⟨wr.heap.size, 1, none⟩ = some (.int .i64 xa) ∧ w'.cell? ⟨wr.heap.size, 2, none⟩ = some (.slice pa xp.length pc) ∧ w'.cell? ⟨wr.heap.size, 3, none⟩ = some (.int .i64 xd) ∧ w'.cell? ⟨b, off + (k - 1) * 4, none⟩ = some (.int .i64 yr) ∧ w'.cell? ⟨b, off + (k - 1) * 4 + 1, none⟩ = some (.int .i64 ya) ∧ w'.cell? ⟨b, off + (k - 1) * 4 + 2, none⟩ = some (.slice pa' yp.length pc') ∧ w'.cell? ⟨b, off + (k - 1) * 4 + 3, none⟩ = some (.int .i64 yd)) (by kernel_rfl) ⟨below_rowP (Below.refl _ _).drew _, k0, k1, k2, k3, d0, d1, d2, d3⟩ (fun hH => ?_)
          refine takeH 0 (v := ?vd0) rfl (by kernel_rfl) (by kernel_rfl) (by kernel_rfl) (fun _ _ _ h => h) hH rfl ?yd0 ?rd0
          case yd0 => intro W hSw; go_simp; try with_reducible rfl
          try simp only [Act.put, List.setIfInBounds_toArray, List.set_cons_zero, List.set_cons_succ]
          refine takeH 1 (v := .bool true) rfl (by kernel_rfl) (by kernel_rfl) (by kernel_rfl) (fun _ _ _ h => h) hH rfl ?yd1 ?rd1
          case yd1 => intro W hSw; go_simp; first | done | simp only [hgt] | omega | (simp; omega)
          try simp only [Act.put, List.setIfInBounds_toArray, List.set_cons_zero, List.set_cons_succ]
          refine takeH 2 (v := ?vd2) rfl (by kernel_rfl) (by kernel_rfl) (by kernel_rfl) (fun _ _ _ h => h) hH rfl ?yd2 ?rd2
          case yd2 => intro W hSw; go_simp; try with_reducible rfl
          try simp only [Act.put, List.setIfInBounds_toArray, List.set_cons_zero, List.set_cons_succ]
          refine takeH 3 (v := ?vd3) rfl (by kernel_rfl) (by kernel_rfl) (by kernel_rfl) (fun _ _ _ h => h) hH rfl ?yd3 ?rd3
          case yd3 => intro W hSw; go_simp; try with_reducible rfl
          try simp only [Act.put, List.setIfInBounds_toArray, List.set_cons_zero, List.set_cons_succ]
          refine takeH 4 (v := ?vd4) rfl (by kernel_rfl) (by kernel_rfl) (by kernel_rfl) (fun _ _ _ h => h) hH rfl ?yd4 ?rd4
          case yd4 => intro W hSw; go_simp; try with_reducible rfl
          try simp only [Act.put, List.setIfInBounds_toArray, List.set_cons_zero, List.set_cons_succ]
          refine takeH 5 (v := ?vd5) rfl (by kernel_rfl) (by kernel_rfl) (by kernel_rfl) (fun _ _ _ h => h) hH rfl ?yd5 ?rd5
          case yd5 => intro W hSw; go_simp; try with_reducible rfl
          try simp only [Act.put, List.setIfInBounds_toArray, List.set_cons_zero, List.set_cons_succ]
          refine takeH 6 (v := ?vd6) rfl (by kernel_rfl) (by kernel_rfl) (by kernel_rfl) (fun _ _ _ h => h) hH rfl ?yd6 ?rd6
          case yd6 => intro W hSw; go_simp; try with_reducible rfl
          try simp only [Act.put, List.setIfInBounds_toArray, List.set_cons_zero, List.set_cons_succ]
          refine takeH 7 (v := ?vd7) rfl (by kernel_rfl) (by kernel_rfl) (by kernel_rfl) (fun _ _ _ h => h) hH rfl ?yd7 ?rd7
          case yd7 => intro W hSw; go_simp; try with_reducible rfl
          try simp only [Act.put, List.setIfInBounds_toArray, List.set_cons_zero, List.set_cons_succ]
          refine takeH 8 (v := ?vd8) rfl (by kernel_rfl) (by kernel_rfl) (by kernel_rfl) (fun _ _ _ h => h) hH rfl ?yd8 ?rd8
          case yd8 => intro W hSw; go_simp; try with_reducible rfl
          try simp only [Act.put, List.setIfInBounds_toArray, List.set_cons_zero, List.set_cons_succ]
          refine callH 9 rfl (by kernel_rfl) rfl (fun K hK => ?_)
          go_simp
          go_at_call 76
          refine (HB.out _).mono ?_
          rintro e wx ⟨rfl, hbx⟩
          refine hK.out _ _ ⟨grownBy_trans hH.1 (below_rowP hbx (some w.heap.size)), (below_rowP hbx (some w.heap.size)).cell hH.2.1 (by simp only [ne_eq, Option.some.injEq]; omega), (below_rowP hbx (some w.heap.size)).cell hH.2.2.1 (by simp only [ne_eq, Option.some.injEq]; omega), (below_rowP hbx (some w.heap.size)).cell hH.2.2.2.1 (by simp only [ne_eq, Option.some.injEq]; omega), (below_rowP hbx (some w.heap.size)).cell hH.2.2.2.2.1 (by simp only [ne_eq, Option.some.injEq]; omega), (below_rowP hbx (some w.heap.size)).cell hH.2.2.2.2.2.1 (by simp only [ne_eq, Option.some.injEq]; omega), (below_rowP hbx (some w.heap.size)).cell hH.2.2.2.2.2.2.1 (by simp only [ne_eq, Option.some.injEq]; omega), (below_rowP hbx (some w.heap.size)).cell hH.2.2.2.2.2.2.2.1 (by simp only [ne_eq, Option.some.injEq]; omega), (below_rowP hbx (some w.heap.size)).cell hH.2.2.2.2.2.2.2.2 (by simp only [ne_eq, Option.some.injEq]; omega)⟩ (fun hH => ?_)
          clear hK K
          try simp only [Act.put, List.setIfInBounds_toArray, List.set_cons_zero, List.set_cons_succ]
          refine takeH 10 (v := ?vd10) rfl (by kernel_rfl) (by kernel_rfl) (by kernel_rfl) (fun _ _ _ h => h) hH rfl ?yd10 ?rd10
          case yd10 => intro W hSw; go_simp; try with_reducible rfl
          try simp only [Act.put, List.setIfInBounds_toArray, List.set_cons_zero, List.set_cons_succ]
          refine takeH 11 (v := ?vd11) rfl (by kernel_rfl) (by kernel_rfl) (by kernel_rfl) (fun _ _ _ h => h) hH rfl ?yd11 ?rd11
          case yd11 => intro W hSw; go_simp; try with_reducible rfl
          try simp only [Act.put, List.setIfInBounds_toArray, List.set_cons_zero, List.set_cons_succ]
          refine takeH 12 (v := ?vd12) rfl (by kernel_rfl) (by kernel_rfl) (by kernel_rfl) (fun _ _ _ h => h) hH rfl ?yd12 ?rd12
          case yd12 => intro W hSw; go_simp; try with_reducible rfl
          try simp only [Act.put, List.setIfInBounds_toArray, List.set_cons_zero, List.set_cons_succ]
          refine skipH 13 rfl (by kernel_rfl) (by kernel_rfl) (by kernel_rfl) (fun _ _ _ h => h) hH rfl ?_
          try simp only [Act.put, List.setIfInBounds_toArray, List.set_cons_zero, List.set_cons_succ]
          refine skipH 14 rfl (by kernel_rfl) (by kernel_rfl) (by kernel_rfl) (fun _ _ _ h => h) hH rfl ?_
          try simp only [Act.put, List.setIfInBounds_toArray, List.set_cons_zero, List.set_cons_succ]
          refine skipH 15 rfl (by kernel_rfl) (by kernel_rfl) (by kernel_rfl) (fun _ _ _ h => h) hH rfl ?_
          try simp only [Act.put, List.setIfInBounds_toArray, List.set_cons_zero, List.set_cons_succ]
          refine skipH 16 rfl (by kernel_rfl) (by kernel_rfl) (by kernel_rfl) (fun _ _ _ h => h) hH rfl ?_
          try simp only [Act.put, List.setIfInBounds_toArray, List.set_cons_zero, List.set_cons_succ]
          refine takeH 17 (v := ?vd17) rfl (by kernel_rfl) (by kernel_rfl) (by kernel_rfl) (fun _ _ _ h => h) hH rfl ?yd17 ?rd17
          case yd17 => intro W hSw; go_simp; try with_reducible rfl
          try simp only [Act.put, List.setIfInBounds_toArray, List.set_cons_zero, List.set_cons_succ]
          refine wpAnyH_done (by kernel_rfl) ?_ _
          try simp only [Act.put]
          have Hend := Lib.hid (HbwA.out.grown hH.1 HbwA.out.size (fun g e => by cases e; exact Nat.le_refl _))
          go_wp2
          go_ret2
          exact of_no (by rw [Hres.out, Hz.out]) rfl Hend.out
        | true =>
        rw [h2] at HB
        have HS2 := Lib.hid (HS2.out h2)
        cases hst : stepB c g k with
        | false =>
          have Hne := Lib.hid (HS2.out.2 hst)
          have Hz := Lib.hid (allB_no hlt hst)
          refine wp_region_held_drew (S := fun w' => wB.grownBy w' (some w.heap.size) ∧ w'.cell? ⟨wr.heap.size, 0, none⟩ = some (.int .i64 xr) ∧ w'.cell? ⟨wr.heap.size, 1, none⟩ = some (.int .i64 xa) ∧ w'.cell? ⟨wr.heap.size, 2, none⟩ = some (.slice pa xp.length pc) ∧ w'.cell? ⟨wr.heap.size, 3, none⟩ = some (.int .i64 xd) ∧ w'.cell? ⟨b, off + (k - 1) * 4, none⟩ = some (.int .i64 yr) ∧ w'.cell? ⟨b, off + (k - 1) * 4 + 1, none⟩ = some (.int .i64 ya) ∧ w'.cell? ⟨b, off + (k - 1) * 4 + 2, none⟩ = some (.slice pa' yp.length pc') ∧ w'.cell? ⟨b, off + (k - 1) * 4 + 3, none⟩ = some (.int .i64 yd)) (by kernel_rfl) ⟨below_rowP (Below.refl _ _).drew _, k0, k1, k2, k3, d0, d1, d2, d3⟩ (fun hH => ?_)
          refine takeH 0 (v := ?ve0) rfl (by kernel_rfl) (by kernel_rfl) (by kernel_rfl) (fun _ _ _ h => h) hH rfl ?ye0 ?re0
          case ye0 => intro W hSw; go_simp; try with_reducible rfl
          try simp only [Act.put, List.setIfInBounds_toArray, List.set_cons_zero, List.set_cons_succ]
          refine takeH 1 (v := .bool true) rfl (by kernel_rfl) (by kernel_rfl) (by kernel_rfl) (fun _ _ _ h => h) hH rfl ?ye1 ?re1
          case ye1 => intro W hSw; go_simp; first | done | simp only [hgt] | omega | (simp; omega)
          try simp only [Act.put, List.setIfInBounds_toArray, List.set_cons_zero, List.set_cons_succ]
          refine takeH 2 (v := ?ve2) rfl (by kernel_rfl) (by kernel_rfl) (by kernel_rfl) (fun _ _ _ h => h) hH rfl ?ye2 ?re2
          case ye2 => intro W hSw; go_simp; try with_reducible rfl
          try simp only [Act.put, List.setIfInBounds_toArray, List.set_cons_zero, List.set_cons_succ]
          refine takeH 3 (v := ?ve3) rfl (by kernel_rfl) (by kernel_rfl) (by kernel_rfl) (fun _ _ _ h => h) hH rfl ?ye3 ?re3
          case ye3 => intro W hSw; go_simp; try with_reducible rfl
          try simp only [Act.put, List.setIfInBounds_toArray, List.set_cons_zero, List.set_cons_succ]
          refine takeH 4 (v := ?ve4) rfl (by kernel_rfl) (by kernel_rfl) (by kernel_rfl) (fun _ _ _ h => h) hH rfl ?ye4 ?re4
          case ye4 => intro W hSw; go_simp; try with_reducible rfl
          try simp only [Act.put, List.setIfInBounds_toArray, List.set_cons_zero, List.set_cons_succ]
          refine takeH 5 (v := ?ve5) rfl (by kernel_rfl) (by kernel_rfl) (by kernel_rfl) (fun _ _ _ h => h) hH rfl ?ye5 ?re5
          case ye5 => intro W hSw; go_simp; try with_reducible rfl
          try simp only [Act.put, List.setIfInBounds_toArray, List.set_cons_zero, List.set_cons_succ]
          refine takeH 6 (v := ?ve6) rfl (by kernel_rfl) (by kernel_rfl) (by kernel_rfl) (fun _ _ _ h => h) hH rfl ?ye6 ?re6
          case ye6 => intro W hSw; go_simp; try with_reducible rfl
          try simp only [Act.put, List.setIfInBounds_toArray, List.set_cons_zero, List.set_cons_succ]
          refine takeH 7 (v := ?ve7) rfl (by kernel_rfl) (by kernel_rfl) (by kernel_rfl) (fun _ _ _ h => h) hH rfl ?ye7 ?re7
          case ye7 => intro W hSw; go_simp; try with_reducible rfl
          try simp only [Act.put, List.setIfInBounds_toArray, List.set_cons_zero, List.set_cons_succ]
          refine takeH 8 (v := ?ve8) rfl (by kernel_rfl) (by kernel_rfl) (by kernel_rfl) (fun _ _ _ h => h) hH rfl ?ye8 ?re8
          case ye8 => intro W hSw; go_simp; try with_reducible rfl
          try simp only [Act.put, List.setIfInBounds_toArray, List.set_cons_zero, List.set_cons_succ]
          refine callH 9 rfl (by kernel_rfl) rfl (fun K hK => ?_)
          go_simp
          go_at_call 76
          refine (HB.out _).mono ?_
          rintro e wx ⟨rfl, hbx⟩
          refine hK.out _ _ ⟨grownBy_trans hH.1 (below_rowP hbx (some w.heap.size)), (below_rowP hbx (some w.heap.size)).cell hH.2.1 (by simp only [ne_eq, Option.some.injEq]; omega), (below_rowP hbx (some w.heap.size)).cell hH.2.2.1 (by simp only [ne_eq, Option.some.injEq]; omega), (below_rowP hbx (some w.heap.size)).cell hH.2.2.2.1 (by simp only [ne_eq, Option.some.injEq]; omega), (below_rowP hbx (some w.heap.size)).cell hH.2.2.2.2.1 (by simp only [ne_eq, Option.some.injEq]; omega), (below_rowP hbx (some w.heap.size)).cell hH.2.2.2.2.2.1 (by simp only [ne_eq, Option.some.injEq]; omega), (below_rowP hbx (some w.heap.size)).cell hH.2.2.2.2.2.2.1 (by simp only [ne_eq, Option.some.injEq]; omega), (below_rowP hbx (some w.heap.size)).cell hH.2.2.2.2.2.2.2.1 (by simp only [ne_eq, Option.some.injEq]; omega), (below_rowP hbx (some w.heap.size)).cell hH.2.2.2.2.2.2.2.2 (by simp only [ne_eq, Option.some.injEq]; omega)⟩ (fun hH => ?_)
          clear hK K
          try simp only [Act.put, List.setIfInBounds_toArray, List.set_cons_zero, List.set_cons_succ]
          refine takeH 10 (v := ?ve10) rfl (by kernel_rfl) (by kernel_rfl) (by kernel_rfl) (fun _ _ _ h => h) hH rfl ?ye10 ?re10
          case ye10 => intro W hSw; go_simp; try with_reducible rfl
          try simp only [Act.put, List.setIfInBounds_toArray, List.set_cons_zero, List.set_cons_succ]
          refine takeH 11 (v := ?ve11) rfl (by kernel_rfl) (by kernel_rfl) (by kernel_rfl) (fun _ _ _ h => h) hH rfl ?ye11 ?re11
          case ye11 => intro W hSw; go_simp; try with_reducible rfl
          try simp only [Act.put, List.setIfInBounds_toArray, List.set_cons_zero, List.set_cons_succ]
          refine takeH 12 (v := ?ve12) rfl (by kernel_rfl) (by kernel_rfl) (by kernel_rfl) (fun _ _ _ h => h) hH rfl ?ye12 ?re12
          case ye12 => intro W hSw; go_simp; try with_reducible rfl
          try simp only [Act.put, List.setIfInBounds_toArray, List.set_cons_zero, List.set_cons_succ]
          refine takeH 13 (v := ?ve13) rfl (by kernel_rfl) (by kernel_rfl) (by kernel_rfl) (fun _ _ _ h => h) hH rfl ?ye13 ?re13
          case ye13 => intro W hSw; go_simp; try with_reducible rfl
          try simp only [Act.put, List.setIfInBounds_toArray, List.set_cons_zero, List.set_cons_succ]
          refine takeH 14 (v := ?ve14) rfl (by kernel_rfl) (by kernel_rfl) (by kernel_rfl) (fun _ _ _ h => h) hH rfl ?ye14 ?re14
          case ye14 => intro W hSw; go_simp; try with_reducible rfl
          try simp only [Act.put, List.setIfInBounds_toArray, List.set_cons_zero, List.set_cons_succ]
          refine callH 15 rfl (by kernel_rfl) rfl (fun K hK => ?_)
          go_simp
          go_at_call 77
          refine (HAdd.out _ ((Below.refl _ _).drew.trans hbx)).mono ?_
          rintro e wz ⟨rfl, hgz, _⟩
          generalize hm : adN c (g.take k) ⟨xr, xa, xp, xd⟩ = m at *
          have hm' : (m != 0) = true := by simpa using Hne.out
          clear hm
          refine hK.out _ _ ⟨grownBy_trans hH.1 (hgz), (hgz).cell hH.2.1 (by simp only [ne_eq, Option.some.injEq]; omega), (hgz).cell hH.2.2.1 (by simp only [ne_eq, Option.some.injEq]; omega), (hgz).cell hH.2.2.2.1 (by simp only [ne_eq, Option.some.injEq]; omega), (hgz).cell hH.2.2.2.2.1 (by simp only [ne_eq, Option.some.injEq]; omega), (hgz).cell hH.2.2.2.2.2.1 (by simp only [ne_eq, Option.some.injEq]; omega), (hgz).cell hH.2.2.2.2.2.2.1 (by simp only [ne_eq, Option.some.injEq]; omega), (hgz).cell hH.2.2.2.2.2.2.2.1 (by simp only [ne_eq, Option.some.injEq]; omega), (hgz).cell hH.2.2.2.2.2.2.2.2 (by simp only [ne_eq, Option.some.injEq]; omega)⟩ (fun hH => ?_)
          clear hK K
          try simp only [Act.put, List.setIfInBounds_toArray, List.set_cons_zero, List.set_cons_succ]
          refine takeH 16 (v := ?ve16) rfl (by kernel_rfl) (by kernel_rfl) (by kernel_rfl) (fun _ _ _ h => h) hH rfl ?ye16 ?re16
          case ye16 => intro W hSw; go_simp; try with_reducible rfl
          try simp only [Act.put, List.setIfInBounds_toArray, List.set_cons_zero, List.set_cons_succ]
          refine takeH 17 (v := ?ve17) rfl (by kernel_rfl) (by kernel_rfl) (by kernel_rfl) (fun _ _ _ h => h) hH rfl ?ye17 ?re17
          case ye17 => intro W hSw; go_simp; try with_reducible rfl
          try simp only [Act.put, List.setIfInBounds_toArray, List.set_cons_zero, List.set_cons_succ]
          refine wpAnyH_done (by kernel_rfl) ?_ _
          try simp only [Act.put]
          have Hend := Lib.hid (HbwA.out.grown hH.1 HbwA.out.size (fun g e => by cases e; exact Nat.le_refl _))
          go_wp2
          go_ret2
          exact of_no (by rw [Hres.out, Hz.out]) rfl Hend.out
        | true =>
          obtain ⟨hz1, hz2⟩ := HS2.out.1 hst
          have Hz1 := Lib.hid hz1
          have Hz2 := Lib.hid hz2
          have Hup1 := Lib.hid (upto_step Hup.out hst)
          clear hz1 hz2
          refine wp_region_held_drew (S := fun w' => wB.grownBy w' (some w.heap.size) ∧ w'.cell? ⟨wr.heap.size, 0, none⟩ = some (.int .i64 xr) ∧ w'.cell? ⟨wr.heap.size, 1, none⟩ = some (.int .i64 xa) ∧ w'.cell? ⟨wr.heap.size, 2, none⟩ = some (.slice pa xp.length pc) ∧ w'.cell? ⟨wr.heap.size, 3, none⟩ = some (.int .i64 xd) ∧ w'.cell? ⟨b, off + (k - 1) * 4, none⟩ = some (.int .i64 yr) ∧ w'.cell? ⟨b, off + (k - 1) * 4 + 1, none⟩ = some (.int .i64 ya) ∧ w'.cell? ⟨b, off + (k - 1) * 4 + 2, none⟩ = some (.slice pa' yp.length pc') ∧ w'.cell? ⟨b, off + (k - 1) * 4 + 3, none⟩ = some (.int .i64 yd)) (by kernel_rfl) ⟨below_rowP (Below.refl _ _).drew _, k0, k1, k2, k3, d0, d1, d2, d3⟩ (fun hH => ?_)
          refine takeH 0 (v := ?vf0) rfl (by kernel_rfl) (by kernel_rfl) (by kernel_rfl) (fun _ _ _ h => h) hH rfl ?yf0 ?rf0
          case yf0 => intro W hSw; go_simp; try with_reducible rfl
          try simp only [Act.put, List.setIfInBounds_toArray, List.set_cons_zero, List.set_cons_succ]
          refine takeH 1 (v := .bool true) rfl (by kernel_rfl) (by kernel_rfl) (by kernel_rfl) (fun _ _ _ h => h) hH rfl ?yf1 ?rf1
          case yf1 => intro W hSw; go_simp; first | done | simp only [hgt] | omega | (simp; omega)
          try simp only [Act.put, List.setIfInBounds_toArray, List.set_cons_zero, List.set_cons_succ]
          refine takeH 2 (v := ?vf2) rfl (by kernel_rfl) (by kernel_rfl) (by kernel_rfl) (fun _ _ _ h => h) hH rfl ?yf2 ?rf2
          case yf2 => intro W hSw; go_simp; try with_reducible rfl
          try simp only [Act.put, List.setIfInBounds_toArray, List.set_cons_zero, List.set_cons_succ]
          refine takeH 3 (v := ?vf3) rfl (by kernel_rfl) (by kernel_rfl) (by kernel_rfl) (fun _ _ _ h => h) hH rfl ?yf3 ?rf3
          case yf3 => intro W hSw; go_simp; try with_reducible rfl
          try simp only [Act.put, List.setIfInBounds_toArray, List.set_cons_zero, List.set_cons_succ]
          refine takeH 4 (v := ?vf4) rfl (by kernel_rfl) (by kernel_rfl) (by kernel_rfl) (fun _ _ _ h => h) hH rfl ?yf4 ?rf4
          case yf4 => intro W hSw; go_simp; try with_reducible rfl
          try simp only [Act.put, List.setIfInBounds_toArray, List.set_cons_zero, List.set_cons_succ]
          refine takeH 5 (v := ?vf5) rfl (by kernel_rfl) (by kernel_rfl) (by kernel_rfl) (fun _ _ _ h => h) hH rfl ?yf5 ?rf5
          case yf5 => intro W hSw; go_simp; try with_reducible rfl
          try simp only [Act.put, List.setIfInBounds_toArray, List.set_cons_zero, List.set_cons_succ]
          refine takeH 6 (v := ?vf6) rfl (by kernel_rfl) (by kernel_rfl) (by kernel_rfl) (fun _ _ _ h => h) hH rfl ?yf6 ?rf6
          case yf6 => intro W hSw; go_simp; try with_reducible rfl
          try simp only [Act.put, List.setIfInBounds_toArray, List.set_cons_zero, List.set_cons_succ]
          refine takeH 7 (v := ?vf7) rfl (by kernel_rfl) (by kernel_rfl) (by kernel_rfl) (fun _ _ _ h => h) hH rfl ?yf7 ?rf7
          case yf7 => intro W hSw; go_simp; try with_reducible rfl
          try simp only [Act.put, List.setIfInBounds_toArray, List.set_cons_zero, List.set_cons_succ]
          refine takeH 8 (v := ?vf8) rfl (by kernel_rfl) (by kernel_rfl) (by kernel_rfl) (fun _ _ _ h => h) hH rfl ?yf8 ?rf8
          case yf8 => intro W hSw; go_simp; try with_reducible rfl
          try simp only [Act.put, List.setIfInBounds_toArray, List.set_cons_zero, List.set_cons_succ]
          refine callH 9 rfl (by kernel_rfl) rfl (fun K hK => ?_)
          go_simp
          go_at_call 76
          refine (HB.out _).mono ?_
          rintro e wx ⟨rfl, hbx⟩
          refine hK.out _ _ ⟨grownBy_trans hH.1 (below_rowP hbx (some w.heap.size)), (below_rowP hbx (some w.heap.size)).cell hH.2.1 (by simp only [ne_eq, Option.some.injEq]; omega), (below_rowP hbx (some w.heap.size)).cell hH.2.2.1 (by simp only [ne_eq, Option.some.injEq]; omega), (below_rowP hbx (some w.heap.size)).cell hH.2.2.2.1 (by simp only [ne_eq, Option.some.injEq]; omega), (below_rowP hbx (some w.heap.size)).cell hH.2.2.2.2.1 (by simp only [ne_eq, Option.some.injEq]; omega), (below_rowP hbx (some w.heap.size)).cell hH.2.2.2.2.2.1 (by simp only [ne_eq, Option.some.injEq]; omega), (below_rowP hbx (some w.heap.size)).cell hH.2.2.2.2.2.2.1 (by simp only [ne_eq, Option.some.injEq]; omega), (below_rowP hbx (some w.heap.size)).cell hH.2.2.2.2.2.2.2.1 (by simp only [ne_eq, Option.some.injEq]; omega), (below_rowP hbx (some w.heap.size)).cell hH.2.2.2.2.2.2.2.2 (by simp only [ne_eq, Option.some.injEq]; omega)⟩ (fun hH => ?_)
          clear hK K
          try simp only [Act.put, List.setIfInBounds_toArray, List.set_cons_zero, List.set_cons_succ]
          refine takeH 10 (v := ?vf10) rfl (by kernel_rfl) (by kernel_rfl) (by kernel_rfl) (fun _ _ _ h => h) hH rfl ?yf10 ?rf10
          case yf10 => intro W hSw; go_simp; try with_reducible rfl
          try simp only [Act.put, List.setIfInBounds_toArray, List.set_cons_zero, List.set_cons_succ]
          refine takeH 11 (v := ?vf11) rfl (by kernel_rfl) (by kernel_rfl) (by kernel_rfl) (fun _ _ _ h => h) hH rfl ?yf11 ?rf11
          case yf11 => intro W hSw; go_simp; try with_reducible rfl
          try simp only [Act.put, List.setIfInBounds_toArray, List.set_cons_zero, List.set_cons_succ]
          refine takeH 12 (v := ?vf12) rfl (by kernel_rfl) (by kernel_rfl) (by kernel_rfl) (fun _ _ _ h => h) hH rfl ?yf12 ?rf12
          case yf12 => intro W hSw; go_simp; try with_reducible rfl
          try simp only [Act.put, List.setIfInBounds_toArray, List.set_cons_zero, List.set_cons_succ]
          refine takeH 13 (v := ?vf13) rfl (by kernel_rfl) (by kernel_rfl) (by kernel_rfl) (fun _ _ _ h => h) hH rfl ?yf13 ?rf13
          case yf13 => intro W hSw; go_simp; try with_reducible rfl
          try simp only [Act.put, List.setIfInBounds_toArray, List.set_cons_zero, List.set_cons_succ]
          refine takeH 14 (v := ?vf14) rfl (by kernel_rfl) (by kernel_rfl) (by kernel_rfl) (fun _ _ _ h => h) hH rfl ?yf14 ?rf14
          case yf14 => intro W hSw; go_simp; try with_reducible rfl
          try simp only [Act.put, List.setIfInBounds_toArray, List.set_cons_zero, List.set_cons_succ]
          refine callH 15 rfl (by kernel_rfl) rfl (fun K hK => ?_)
          go_simp
          go_at_call 77
          refine (HAdd.out _ ((Below.refl _ _).drew.trans hbx)).mono ?_
          rintro e wz ⟨rfl, hgz, hi2, h2, hl2⟩
          rw [Hz1.out]
          rw [Hz2.out] at hl2
          have Hadd := Lib.hid hl2
          clear hl2
          refine hK.out _ _ ⟨grownBy_trans hH.1 (hgz), (hgz).cell hH.2.1 (by simp only [ne_eq, Option.some.injEq]; omega), (hgz).cell hH.2.2.1 (by simp only [ne_eq, Option.some.injEq]; omega), (hgz).cell hH.2.2.2.1 (by simp only [ne_eq, Option.some.injEq]; omega), (hgz).cell hH.2.2.2.2.1 (by simp only [ne_eq, Option.some.injEq]; omega), (hgz).cell hH.2.2.2.2.2.1 (by simp only [ne_eq, Option.some.injEq]; omega), (hgz).cell hH.2.2.2.2.2.2.1 (by simp only [ne_eq, Option.some.injEq]; omega), (hgz).cell hH.2.2.2.2.2.2.2.1 (by simp only [ne_eq, Option.some.injEq]; omega), (hgz).cell hH.2.2.2.2.2.2.2.2 (by simp only [ne_eq, Option.some.injEq]; omega)⟩ (fun hH => ?_)
          clear hK K
          try simp only [Act.put, List.setIfInBounds_toArray, List.set_cons_zero, List.set_cons_succ]
          refine takeH 16 (v := ?vf16) rfl (by kernel_rfl) (by kernel_rfl) (by kernel_rfl) (fun _ _ _ h => h) hH rfl ?yf16 ?rf16
          case yf16 => intro W hSw; go_simp; try with_reducible rfl
          try simp only [Act.put, List.setIfInBounds_toArray, List.set_cons_zero, List.set_cons_succ]
          refine takeH 17 (v := ?vf17) rfl (by kernel_rfl) (by kernel_rfl) (by kernel_rfl) (fun _ _ _ h => h) hH rfl ?yf17 ?rf17
          case yf17 => intro W hSw; go_simp; try with_reducible rfl
          try simp only [Act.put, List.setIfInBounds_toArray, List.set_cons_zero, List.set_cons_succ]
          refine wpAnyH_done (by kernel_rfl) ?_ _
          try simp only [Act.put]
          have Hend := Lib.hid (HbwA.out.grown hH.1 HbwA.out.size (fun g e => by cases e; exact Nat.le_refl _))
          go_wp2
          go_roundw
          case rel => exact ⟨k + 1, _, _, by omega, by go_num, Hup1.out, Hadd.out, Hend.out⟩
          case measure => simp [intOf]; omega
    · have hke : k = g.length := by omega
      subst hke
      rw [List.take_length] at HL
      have Hz := Lib.hid (show graphB c g = true by rw [Hres.out]; exact allB_yes Hup.out (Nat.le_refl _))
      go_wp2
      go_ret2
      exact of_yes Hz.out rfl Hbel.out (Nat.le_refl _) HL.out

end Go.Proofs.YtjaacdapibokiabGreatDoor

/- impl's authors of a round, GraphValid, VertexValid, GraphAdd, GraphAuthors, GraphHeight and GraphMerge, each by a walk of its text; conditions: lists are shorter than 2^40 (a graph: 2^20). -/
namespace Go.Proofs.YtjaacdapibokiabGreatDoor
open Go.RowKit

section
variable (ac : Option Addr) (capc : Nat) (c : List Int) (g : List Vx) (v : Value) (fp : List Nat) (w : World) (hn : c.length ≤ 1099511627776) (hbig : g.length ≤ 1048576) (hps : ∀ x ∈ g, x.ps.length ≤ 1099511627776) (hc : IntsAt w ac c) (hg : Gr w g v fp)
include hn hbig hps hc hg
theorem graphOf_no (h : graphB c g = false) : Calls Tryz.prog 52 #[.slice ac c.length capc, v] w fun e w' => e = .returned (.tuple #[.pointer none, .bool false]) ∧ Below w.heap.size w w' :=
  (impl_graphOf ac capc c g v fp w hn hbig hps hc hg).mono fun e w' hp => by
    obtain ⟨hb, ⟨_, he⟩ | ⟨ht, _⟩⟩ := hp
    · exact ⟨he, hb⟩
    · rw [h] at ht; cases ht
theorem graphOf_yes (h : graphB c g = true) : Calls Tryz.prog 52 #[.slice ac c.length capc, v] w fun e w' => ∃ G, e = .returned (.tuple #[.pointer (some ⟨G, 0, none⟩), .bool true]) ∧ Below w.heap.size w w' ∧ w.heap.size ≤ G ∧ ∃ hi h, Lk w w' hi G (.slice ac c.length capc) h g :=
  (impl_graphOf ac capc c g v fp w hn hbig hps hc hg).mono fun e w' hp => by
    obtain ⟨hb, ⟨hf, _⟩ | ⟨_, G, hi, h', he, hG, hl⟩⟩ := hp
    · rw [h] at hf; cases hf
    · exact ⟨G, he, hb, hG, hi, h', hl⟩
end

theorem impl_GraphValid' (ac : Option Addr) (capc : Nat) (c : List Int) (g : List Vx) (v : Value) (fp : List Nat) (w : World) (hn : c.length ≤ 1099511627776) (hbig : g.length ≤ 1048576) (hps : ∀ x ∈ g, x.ps.length ≤ 1099511627776) (hc : IntsAt w ac c) (hg : Gr w g v fp) :
    Calls Tryz.prog 49 #[.slice ac c.length capc, v] w fun e w' => e = .returned (.bool (graphB c g)) ∧ Below w.heap.size w w' := by
  cases h : graphB c g with
  | false =>
    have H := Lib.hid (graphOf_no ac capc c g v fp w hn hbig hps hc hg h)
    clear hc hg hps h
    go_enter Tryz.func49, Tryz.ntmps49
    go_wp2_with fail
    refine H.out.mono ?_
    rintro e w1 ⟨rfl, hb⟩
    go_wp2
    go_ret
    exact ⟨rfl, hb⟩
  | true =>
    have H := Lib.hid (graphOf_yes ac capc c g v fp w hn hbig hps hc hg h)
    clear hc hg hps h
    go_enter Tryz.func49, Tryz.ntmps49
    go_wp2_with fail
    refine H.out.mono ?_
    rintro e w1 ⟨G, rfl, hb, _⟩
    go_wp2
    go_ret
    exact ⟨rfl, hb⟩

end Go.Proofs.YtjaacdapibokiabGreatDoor

/- impl's marking of a vertex's past along pointers, by a walk of its text (it calls itself: by the vertex's round); the graph is valid. -/
namespace Go.Proofs.YtjaacdapibokiabGreatDoor
open Go.RowKit

/-- The number of a mark. -/
def plM (r a : Int) : Nat := r.toNat * 7 + a.toNat
theorem plM_inj {r a r' a' : Int} (hr : 0 ≤ r) (ha : 0 ≤ a) (ha' : a ≤ 6) (hr2 : 0 ≤ r') (ha2 : 0 ≤ a') (ha2' : a' ≤ 6) (h : plM r a = plM r' a') : r = r' ∧ a = a' := by
  unfold plM at h; omega
theorem plM_bd {r a : Int} (h : r ≤ 30) (ha : a ≤ 6) : plM r a < 217 := by unfold plM; omega
/-- Each parent of a vertex is there. -/
def Par (g : List Vx) : Prop := ∀ y ∈ g, ∀ p ∈ y.ps, ∃ z ∈ g, z.r = y.r - 1 ∧ z.a = p
/-- What is marked in the first n rounds has its parents marked. -/
def ClsM (g : List Vx) (bs : Nat → Bool) (n : Int) : Prop := ∀ z ∈ g, z.r ≤ n → bs (plM z.r z.a) = true → ∀ p ∈ z.ps, bs (plM (z.r - 1) p) = true
/-- A set of vertices that is closed. -/
def ClsP (g : List Vx) (P : Vx → Prop) : Prop := ∀ y ∈ g, P y → ∀ p ∈ y.ps, ∀ z ∈ g, z.r = y.r - 1 → z.a = p → P z
def setM (bs : Nat → Bool) (i : Nat) : Nat → Bool := fun j => if j = i then true else bs j
def marksV (bs : Nat → Bool) : Array Value := arrP 217 fun i => .bool (bs i)
theorem marksV_set (bs : Nat → Bool) (i : Nat) : (marksV bs).setIfInBounds i (.bool true) = marksV (setM bs i) := by
  unfold marksV; rw [arrP_set]; congr 1; funext j
  unfold setM
  by_cases h : j = i <;> simp [h]
/-- What marking a vertex's past does to the marks. -/
structure Mkd (g : List Vx) (y : Vx) (bs bs' : Nat → Bool) : Prop where
  up : ∀ i, bs i = true → bs' i = true
  it : bs' (plM y.r y.a) = true
  cls : ClsM g bs' y.r
  new : ∀ i, bs' i = true → bs i = true ∨ i = plM y.r y.a ∨ i < y.r.toNat * 7
  only : ∀ P, ClsP g P → P y → ∀ z ∈ g, bs' (plM z.r z.a) = true → bs (plM z.r z.a) = true ∨ P z
theorem mkd_old {g : List Vx} {y : Vx} {bs : Nat → Bool} (h : bs (plM y.r y.a) = true) (hc : ClsM g bs y.r) : Mkd g y bs bs :=
  ⟨fun _ h => h, h, hc, fun _ h => .inl h, fun _ _ _ _ _ h => .inl h⟩
/-- Behind the first k parents. -/
structure Mkk (g : List Vx) (y : Vx) (bs bs' : Nat → Bool) (k : Nat) : Prop where
  up : ∀ i, bs i = true → bs' i = true
  it : bs' (plM y.r y.a) = true
  ps : ∀ j (h : j < y.ps.length), j < k → bs' (plM (y.r - 1) y.ps[j]) = true
  cls : ClsM g bs' (y.r - 1)
  new : ∀ i, bs' i = true → bs i = true ∨ i = plM y.r y.a ∨ i < y.r.toNat * 7
  only : ∀ P, ClsP g P → P y → ∀ z ∈ g, bs' (plM z.r z.a) = true → bs (plM z.r z.a) = true ∨ P z
theorem mkk_start {g : List Vx} {y : Vx} {bs : Nat → Bool} (hs : Srt g) (hin : ∀ z ∈ g, inPl z) (hy : y ∈ g) (hc : ClsM g bs y.r) : Mkk g y bs (setM bs (plM y.r y.a)) 0 := by
  refine ⟨fun i h => ?_, ?_, fun j _ h => by omega, fun z hz hr hm p hp => ?_, fun i h => ?_, fun P hP hPy z hz hm => ?_⟩
  · unfold setM; split
    · rfl
    · exact h
  · unfold setM; rw [if_pos rfl]
  · have iy := hin y hy
    have iz := hin z hz
    unfold inPl at iy iz
    unfold setM at hm ⊢
    rw [if_neg (fun e => by have := (plM_inj iz.1 iz.2.2.1 iz.2.2.2 iy.1 iy.2.2.1 iy.2.2.2 e).1; omega)] at hm
    split
    · rfl
    · exact hc z hz (by omega) hm p hp
  · unfold setM at h
    split at h
    · rename_i e; exact .inr (.inl e)
    · exact .inl h
  · unfold setM at hm
    split at hm
    · rename_i e
      have iy := hin y hy
      have iz := hin z hz
      unfold inPl at iy iz
      obtain ⟨e1, e2⟩ := plM_inj iz.1 iz.2.2.1 iz.2.2.2 iy.1 iy.2.2.1 iy.2.2.2 e
      rw [srt_uni hs hz hy e1 e2]
      exact .inr hPy
    · exact .inl hm
theorem mkk_step {g : List Vx} {y z : Vx} {bs b1 b2 : Nat → Bool} {k : Nat} (hin : ∀ z ∈ g, inPl z) (hy : y ∈ g) (h : Mkk g y bs b1 k) (hz : z ∈ g) (hk : k < y.ps.length) (hr : z.r = y.r - 1) (ha : z.a = y.ps[k]) (h2 : Mkd g z b1 b2) : Mkk g y bs b2 (k + 1) := by
  have iz := hin z hz
  unfold inPl at iz
  refine ⟨fun i hi => h2.up i (h.up i hi), h2.up _ h.it, fun j hj hjk => ?_, by rw [← hr]; exact h2.cls, fun i hi => ?_, fun P hP hPy x hx hm => ?_⟩
  · by_cases e : j = k
    · subst e; rw [← hr, ← ha]; exact h2.it
    · exact h2.up _ (h.ps j hj (by omega))
  · rcases h2.new i hi with h' | h' | h'
    · exact h.new i h'
    · exact .inr (.inr (by rw [h']; unfold plM; omega))
    · exact .inr (.inr (by omega))
  · have hPz : P z := hP y hy hPy _ (List.getElem_mem hk) z hz hr ha
    rcases h2.only P hP hPz x hx hm with h' | h'
    · exact h.only P hP hPy x hx h'
    · exact .inr h'
theorem mkk_end {g : List Vx} {y : Vx} {bs bs' : Nat → Bool} (hs : Srt g) (hin : ∀ z ∈ g, inPl z) (hy : y ∈ g) (hc : ClsM g bs y.r) (h : Mkk g y bs bs' y.ps.length) : Mkd g y bs bs' := by
  refine ⟨h.up, h.it, fun z hz hr hm p hp => ?_, h.new, h.only⟩
  have iy := hin y hy
  have iz := hin z hz
  unfold inPl at iy iz
  by_cases e : z.r ≤ y.r - 1
  · exact h.cls z hz e hm p hp
  · rcases h.new _ hm with h' | h' | h'
    · exact h.up _ (hc z hz hr h' p hp)
    · obtain ⟨e1, e2⟩ := plM_inj iz.1 iz.2.2.1 iz.2.2.2 iy.1 iy.2.2.1 iy.2.2.2 h'
      have := srt_uni hs hz hy e1 e2
      subst this
      obtain ⟨j, hj, rfl⟩ := List.mem_iff_getElem.1 hp
      exact h.ps j hj hj
    · unfold plM at h'; omega

theorem run_mark (M : Nat) (r a : Int) (hr : 0 ≤ r) (hr2 : r ≤ 30) (ha : 0 ≤ a) (ha2 : a ≤ 6) : ∃ o1, (∀ w, (Instr.indexAt 141 (.pointer (some ⟨M, 0, none⟩)) (.int .i64 r)).run Tryz.prog w = .ok (.pointer (some ⟨M, o1, none⟩)) w) ∧
    ∀ w, (Instr.indexAt 139 (.pointer (some ⟨M, o1, none⟩)) (.int .i64 a)).run Tryz.prog w = .ok (.pointer (some ⟨M, plM r a, none⟩)) w := by
  refine ⟨0 + r.toNat * 7, fun w => ?_, fun w => ?_⟩
  · exact run_index_z (s := 7) Tryz.underlying141 (by kernel_rfl) (by omega) (by omega) w
  · have := run_index_z (P := Tryz.prog) (B := M) (o := 0 + r.toNat * 7) (s := 1) (k := a.toNat) (z := a) Tryz.underlying139 (by kernel_rfl) (by omega) (by omega) w
    rw [this]
    unfold plM
    rw [Nat.mul_one, Nat.zero_add]
def MarkPost (w : World) (M : Nat) (g : List Vx) (y : Vx) (bs : Nat → Bool) : Ending → World → Prop := fun e w' =>
  e = .returned (.tuple #[]) ∧ w.grownBy w' (some M) ∧ ∃ bs', Str w' M 141 (marksV bs') ∧ Mkd g y bs bs'
set_option maxRecDepth 8000 in
set_option maxHeartbeats 4000000 in
theorem mark_past (w0 wl : World) (hi G : Nat) (mv : Value) (h : Nat → Value) (g : List Vx) (M : Nat) (hL : Lk w0 wl hi G mv h g) (hM : hi ≤ M) (hsrt : Srt g) (hin : ∀ y ∈ g, inPl y) (hpar : Par g) (hr0 : ∀ y ∈ g, y.r = 0 → y.ps.length = 0) (hgp : ∀ y ∈ g, y.ps.length ≤ 1099511627776) :
    ∀ (n : Nat) (y : Vx) (q : Nat) (w : World) (bs : Nat → Bool), y ∈ g → y.r.toNat = n → h (plN y.r y.a) = ptrV q → wl.grownBy w (some M) → Str w M 141 (marksV bs) → ClsM g bs y.r →
      Calls Tryz.prog 99 #[.pointer (some ⟨q, 0, none⟩), .pointer (some ⟨M, 0, none⟩)] w (MarkPost w M g y bs) := by
  have hself : ∀ y ∈ g, ∀ p ∈ y.ps, ∃ z ∈ g, z.r = y.r - 1 ∧ z.a = p := hpar
  have HL := Lib.hid hL; clear hL
  have Hsrt := Lib.hid hsrt; clear hsrt
  have Hin := Lib.hid hin; clear hin
  have Hpar := Lib.hid hself; clear hself hpar
  have Hr0 := Lib.hid hr0; clear hr0
  have Hgp := Lib.hid hgp; clear hgp
  intro n
  induction n using Nat.strongRecOn with
  | _ n ih =>
  intro y q w bs hy hn hq hg hM2 hc
  have iy := Hin.out y hy
  unfold inPl at iy
  obtain ⟨q', hq', nd⟩ := HL.out.has y hy
  have hqq : q' = q := by rw [hq] at hq'; unfold ptrV at hq'; simp at hq'; exact hq'.symm
  subst hqq
  obtain ⟨pa, pc, pv, qs, sq, iq, srq, own, hob, hql, hqp⟩ := nd.ex
  have hqM : q' < M := Nat.lt_of_lt_of_le nd.lt hM
  obtain ⟨pp, pcap, rfl, _⟩ := own.slice
  have HN := Lib.hid (fun W (hW : wl.grownBy W (some M)) => (⟨sq.kept hW (by intro e; cases e; omega), own.kept hW (by
    cases hv : (Value.slice pp qs.length pcap).ownBlock with
    | none => exact .inl rfl
    | some b => refine .inr fun e => ?_; cases e; have := (hob _ hv).2; omega)⟩ : Str W q' 66 #[.int .i64 y.r, .int .i64 y.a, .slice pa y.ps.length pc, .int .i64 y.d, .slice pp qs.length pcap] ∧ OwnP 62 W w0.heap.size (.slice pp qs.length pcap) qs))
  have hqlen : qs.length ≤ 1099511627776 := by have := Hgp.out y hy; omega
  obtain ⟨o1, ho1, ho2⟩ := run_mark M y.r y.a iy.1 iy.2.1 iy.2.2.1 iy.2.2.2
  have sqw := (HN.out w hg).1
  have e0 := sqw.cell 0 (v := .int .i64 y.r) rfl
  have e1 := sqw.cell 1 (v := .int .i64 y.a) rfl
  have em := hM2.cell (plM y.r y.a) (v := .bool (bs (plM y.r y.a))) (arrP_get (plM_bd iy.2.1 iy.2.2.2))
  have hmlt : M < w.heap.size := hM2.lt
  have HG := Lib.hid hg
  have HM2 := Lib.hid hM2
  have Hc := Lib.hid hc
  have Hn := Lib.hid hn
  have Hqp := Lib.hid hqp
  have Hql := Lib.hid hql
  have Hih := Lib.hid ih
  have Hiy := Lib.hid iy
  clear hg hM2 hc hn hqp hql sq iq srq own hob nd hq hq' sqw ih iy
  cases hb : bs (plM y.r y.a) with
  | true =>
    rw [hb] at em
    have Hd := Lib.hid (mkd_old hb Hc.out)
    clear hb
    go_enter Tryz.func99, Tryz.ntmps99
    go_wp2_with fail
    refine wp_region_held_drew (S := fun w' => w'.cell? ⟨q', 0, none⟩ = some (.int .i64 y.r) ∧ w'.cell? ⟨q', 1, none⟩ = some (.int .i64 y.a) ∧ w'.cell? ⟨M, plM y.r y.a, none⟩ = some (.bool true)) (by kernel_rfl) ⟨e0, e1, em⟩ (fun hH => ?_)
    refine takeH 0 (v := ?va0) rfl (by kernel_rfl) (by kernel_rfl) (by kernel_rfl) (fun _ _ _ h => h) hH rfl ?ya0 ?ra0
    case ya0 => intro W hSw; go_simp; try with_reducible rfl
    try simp only [Act.put, List.setIfInBounds_toArray, List.set_cons_zero, List.set_cons_succ]
    refine takeH 1 (v := ?va1) rfl (by kernel_rfl) (by kernel_rfl) (by kernel_rfl) (fun _ _ _ h => h) hH rfl ?ya1 ?ra1
    case ya1 => intro W hSw; go_simp; try with_reducible rfl
    try simp only [Act.put, List.setIfInBounds_toArray, List.set_cons_zero, List.set_cons_succ]
    refine takeH 2 (v := ?va2) rfl (by kernel_rfl) (by kernel_rfl) (by kernel_rfl) (fun _ _ _ h => h) hH rfl ?ya2 ?ra2
    case ya2 => intro W hSw; go_simp; try with_reducible rfl
    try simp only [Act.put, List.setIfInBounds_toArray, List.set_cons_zero, List.set_cons_succ]
    refine takeH 3 (v := ?va3) rfl (by kernel_rfl) (by kernel_rfl) (by kernel_rfl) (fun _ _ _ h => h) hH rfl ?ya3 ?ra3
    case ya3 => intro W hSw; go_simp; try with_reducible rfl
    try simp only [Act.put, List.setIfInBounds_toArray, List.set_cons_zero, List.set_cons_succ]
    refine takeH 4 (v := ?va4) rfl (by kernel_rfl) (by kernel_rfl) (by kernel_rfl) (fun _ _ _ h => h) hH rfl ?ya4 ?ra4
    case ya4 => intro W hSw; go_simp; try with_reducible rfl
    try simp only [Act.put, List.setIfInBounds_toArray, List.set_cons_zero, List.set_cons_succ]
    refine takeH 5 (v := ?va5) rfl (by kernel_rfl) (by kernel_rfl) (by kernel_rfl) (fun _ _ _ h => h) hH rfl ?ya5 ?ra5
    case ya5 => intro W hSw; go_simp; try with_reducible rfl
    try simp only [Act.put, List.setIfInBounds_toArray, List.set_cons_zero, List.set_cons_succ]
    refine takeH 6 (v := ?va6) rfl (by kernel_rfl) (by kernel_rfl) (by kernel_rfl) (fun _ _ _ h => h) hH rfl ?ya6 ?ra6
    case ya6 => intro W hSw; go_simp; try with_reducible rfl
    try simp only [Act.put, List.setIfInBounds_toArray, List.set_cons_zero, List.set_cons_succ]
    refine takeH 7 (v := ?va7) rfl (by kernel_rfl) (by kernel_rfl) (by kernel_rfl) (fun _ _ _ h => h) hH rfl ?ya7 ?ra7
    case ya7 => intro W hSw; go_simp; try with_reducible rfl
    try simp only [Act.put, List.setIfInBounds_toArray, List.set_cons_zero, List.set_cons_succ]
    refine takeH 8 (v := ?va8) rfl (by kernel_rfl) (by kernel_rfl) (by kernel_rfl) (fun _ _ _ h => h) hH rfl ?ya8 ?ra8
    case ya8 => intro W hSw; go_simp; try with_reducible rfl
    try simp only [Act.put, List.setIfInBounds_toArray, List.set_cons_zero, List.set_cons_succ]
    refine takeH 9 (v := ?va9) rfl (by kernel_rfl) (by kernel_rfl) (by kernel_rfl) (fun _ _ _ h => h) hH rfl ?ya9 ?ra9
    case ya9 => intro W hSw; go_simp; try with_reducible rfl
    try simp only [Act.put, List.setIfInBounds_toArray, List.set_cons_zero, List.set_cons_succ]
    refine takeH 10 (v := ?va10) rfl (by kernel_rfl) (by kernel_rfl) (by kernel_rfl) (fun _ _ _ h => h) hH rfl ?ya10 ?ra10
    case ya10 => intro W hSw; go_simp; try with_reducible rfl
    try simp only [Act.put, List.setIfInBounds_toArray, List.set_cons_zero, List.set_cons_succ]
    refine takeH 11 (v := ?va11) rfl (by kernel_rfl) (by kernel_rfl) (by kernel_rfl) (fun _ _ _ h => h) hH rfl ?ya11 ?ra11
    case ya11 => intro W hSw; go_simp; try with_reducible rfl
    try simp only [Act.put, List.setIfInBounds_toArray, List.set_cons_zero, List.set_cons_succ]
    refine takeH 12 (v := ?va12) rfl (by kernel_rfl) (by kernel_rfl) (by kernel_rfl) (fun _ _ _ h => h) hH rfl ?ya12 ?ra12
    case ya12 => intro W hSw; go_simp; try with_reducible rfl
    try simp only [Act.put, List.setIfInBounds_toArray, List.set_cons_zero, List.set_cons_succ]
    refine takeH 13 (v := ?va13) rfl (by kernel_rfl) (by kernel_rfl) (by kernel_rfl) (fun _ _ _ h => h) hH rfl ?ya13 ?ra13
    case ya13 => intro W hSw; go_simp; try with_reducible rfl
    try simp only [Act.put, List.setIfInBounds_toArray, List.set_cons_zero, List.set_cons_succ]
    refine takeH 14 (v := ?va14) rfl (by kernel_rfl) (by kernel_rfl) (by kernel_rfl) (fun _ _ _ h => h) hH rfl ?ya14 ?ra14
    case ya14 => intro W hSw; go_simp; try with_reducible rfl
    try simp only [Act.put, List.setIfInBounds_toArray, List.set_cons_zero, List.set_cons_succ]
    refine wpAnyH_done (by kernel_rfl) ?_ _
    try simp only [Act.put]
    have hdr : w.grownBy w.drew (some M) := below_rowP (Below.refl _ _).drew _
    have hst : Str w.drew M 141 (marksV bs) := HM2.out
    generalize w.drew = W1 at *
    go_wp2
    go_end0
    exact ⟨rfl, hdr, bs, hst, Hd.out⟩
  | false =>
    rw [hb] at em
    have Hk0 := Lib.hid (mkk_start Hsrt.out Hin.out hy Hc.out)
    clear hb
    go_enter Tryz.func99, Tryz.ntmps99
    go_wp2_with fail
    refine wp_region_held_drew (S := fun w' => w'.cell? ⟨q', 0, none⟩ = some (.int .i64 y.r) ∧ w'.cell? ⟨q', 1, none⟩ = some (.int .i64 y.a) ∧ w'.cell? ⟨M, plM y.r y.a, none⟩ = some (.bool false)) (by kernel_rfl) ⟨e0, e1, em⟩ (fun hH => ?_)
    refine takeH 0 (v := ?vb0) rfl (by kernel_rfl) (by kernel_rfl) (by kernel_rfl) (fun _ _ _ h => h) hH rfl ?yb0 ?rb0
    case yb0 => intro W hSw; go_simp; try with_reducible rfl
    try simp only [Act.put, List.setIfInBounds_toArray, List.set_cons_zero, List.set_cons_succ]
    refine takeH 1 (v := ?vb1) rfl (by kernel_rfl) (by kernel_rfl) (by kernel_rfl) (fun _ _ _ h => h) hH rfl ?yb1 ?rb1
    case yb1 => intro W hSw; go_simp; try with_reducible rfl
    try simp only [Act.put, List.setIfInBounds_toArray, List.set_cons_zero, List.set_cons_succ]
    refine takeH 2 (v := ?vb2) rfl (by kernel_rfl) (by kernel_rfl) (by kernel_rfl) (fun _ _ _ h => h) hH rfl ?yb2 ?rb2
    case yb2 => intro W hSw; go_simp; try with_reducible rfl
    try simp only [Act.put, List.setIfInBounds_toArray, List.set_cons_zero, List.set_cons_succ]
    refine takeH 3 (v := ?vb3) rfl (by kernel_rfl) (by kernel_rfl) (by kernel_rfl) (fun _ _ _ h => h) hH rfl ?yb3 ?rb3
    case yb3 => intro W hSw; go_simp; try with_reducible rfl
    try simp only [Act.put, List.setIfInBounds_toArray, List.set_cons_zero, List.set_cons_succ]
    refine takeH 4 (v := ?vb4) rfl (by kernel_rfl) (by kernel_rfl) (by kernel_rfl) (fun _ _ _ h => h) hH rfl ?yb4 ?rb4
    case yb4 => intro W hSw; go_simp; try with_reducible rfl
    try simp only [Act.put, List.setIfInBounds_toArray, List.set_cons_zero, List.set_cons_succ]
    refine takeH 5 (v := ?vb5) rfl (by kernel_rfl) (by kernel_rfl) (by kernel_rfl) (fun _ _ _ h => h) hH rfl ?yb5 ?rb5
    case yb5 => intro W hSw; go_simp; try with_reducible rfl
    try simp only [Act.put, List.setIfInBounds_toArray, List.set_cons_zero, List.set_cons_succ]
    refine takeH 6 (v := ?vb6) rfl (by kernel_rfl) (by kernel_rfl) (by kernel_rfl) (fun _ _ _ h => h) hH rfl ?yb6 ?rb6
    case yb6 => intro W hSw; go_simp; try with_reducible rfl
    try simp only [Act.put, List.setIfInBounds_toArray, List.set_cons_zero, List.set_cons_succ]
    refine takeH 7 (v := ?vb7) rfl (by kernel_rfl) (by kernel_rfl) (by kernel_rfl) (fun _ _ _ h => h) hH rfl ?yb7 ?rb7
    case yb7 => intro W hSw; go_simp; try with_reducible rfl
    try simp only [Act.put, List.setIfInBounds_toArray, List.set_cons_zero, List.set_cons_succ]
    refine takeH 8 (v := ?vb8) rfl (by kernel_rfl) (by kernel_rfl) (by kernel_rfl) (fun _ _ _ h => h) hH rfl ?yb8 ?rb8
    case yb8 => intro W hSw; go_simp; try with_reducible rfl
    try simp only [Act.put, List.setIfInBounds_toArray, List.set_cons_zero, List.set_cons_succ]
    refine takeH 9 (v := ?vb9) rfl (by kernel_rfl) (by kernel_rfl) (by kernel_rfl) (fun _ _ _ h => h) hH rfl ?yb9 ?rb9
    case yb9 => intro W hSw; go_simp; try with_reducible rfl
    try simp only [Act.put, List.setIfInBounds_toArray, List.set_cons_zero, List.set_cons_succ]
    refine takeH 10 (v := ?vb10) rfl (by kernel_rfl) (by kernel_rfl) (by kernel_rfl) (fun _ _ _ h => h) hH rfl ?yb10 ?rb10
    case yb10 => intro W hSw; go_simp; try with_reducible rfl
    try simp only [Act.put, List.setIfInBounds_toArray, List.set_cons_zero, List.set_cons_succ]
    refine takeH 11 (v := ?vb11) rfl (by kernel_rfl) (by kernel_rfl) (by kernel_rfl) (fun _ _ _ h => h) hH rfl ?yb11 ?rb11
    case yb11 => intro W hSw; go_simp; try with_reducible rfl
    try simp only [Act.put, List.setIfInBounds_toArray, List.set_cons_zero, List.set_cons_succ]
    refine takeH 12 (v := ?vb12) rfl (by kernel_rfl) (by kernel_rfl) (by kernel_rfl) (fun _ _ _ h => h) hH rfl ?yb12 ?rb12
    case yb12 => intro W hSw; go_simp; try with_reducible rfl
    try simp only [Act.put, List.setIfInBounds_toArray, List.set_cons_zero, List.set_cons_succ]
    refine takeH 13 (v := ?vb13) rfl (by kernel_rfl) (by kernel_rfl) (by kernel_rfl) (fun _ _ _ h => h) hH rfl ?yb13 ?rb13
    case yb13 => intro W hSw; go_simp; try with_reducible rfl
    try simp only [Act.put, List.setIfInBounds_toArray, List.set_cons_zero, List.set_cons_succ]
    refine takeH 14 (v := ?vb14) rfl (by kernel_rfl) (by kernel_rfl) (by kernel_rfl) (fun _ _ _ h => h) hH rfl ?yb14 ?rb14
    case yb14 => intro W hSw; go_simp; try with_reducible rfl
    try simp only [Act.put, List.setIfInBounds_toArray, List.set_cons_zero, List.set_cons_succ]
    refine wpAnyH_done (by kernel_rfl) ?_ _
    try simp only [Act.put]
    have hdr : w.grownBy w.drew (some M) := below_rowP (Below.refl _ _).drew _
    have hst : Str w.drew M 141 (marksV bs) := HM2.out
    obtain ⟨e0, e1, em⟩ := hH
    generalize w.drew = W1 at *
    have HG1 := Lib.hid (grownBy_trans HG.out hdr)
    have Hdr := Lib.hid hdr
    have gm : W1.drew.cell? ⟨M, plM y.r y.a, none⟩ = some (.bool false) := em
    have gf : W1.drew.frozen? ⟨M, plM y.r y.a, none⟩ = false := hst.frozen _
    have Hst := Lib.hid hst
    clear hst hdr em
    go_wp2_with fail
    refine wp_region_L 14 (fun w' => w'.cell? ⟨q', 0, none⟩ = some (.int .i64 y.r) ∧ w'.cell? ⟨q', 1, none⟩ = some (.int .i64 y.a)) (by kernel_rfl) ⟨e0, e1⟩ (fun hH => ?_)
    refine takeL 0 (v := ?vc0) rfl (by kernel_rfl) (by kernel_rfl) (by kernel_rfl) (by kernel_rfl) (by kernel_rfl) (fun _ _ _ h => h) hH rfl ?yc0 ?rc0
    case yc0 => intro w hSw; go_simp; try with_reducible rfl
    try simp only [Act.put, List.setIfInBounds_toArray, List.set_cons_zero, List.set_cons_succ]
    refine takeL 1 (v := ?vc1) rfl (by kernel_rfl) (by kernel_rfl) (by kernel_rfl) (by kernel_rfl) (by kernel_rfl) (fun _ _ _ h => h) hH rfl ?yc1 ?rc1
    case yc1 => intro w hSw; go_simp; try with_reducible rfl
    try simp only [Act.put, List.setIfInBounds_toArray, List.set_cons_zero, List.set_cons_succ]
    refine takeL 2 (v := ?vc2) rfl (by kernel_rfl) (by kernel_rfl) (by kernel_rfl) (by kernel_rfl) (by kernel_rfl) (fun _ _ _ h => h) hH rfl ?yc2 ?rc2
    case yc2 => intro w hSw; go_simp; try with_reducible rfl
    try simp only [Act.put, List.setIfInBounds_toArray, List.set_cons_zero, List.set_cons_succ]
    refine takeL 3 (v := ?vc3) rfl (by kernel_rfl) (by kernel_rfl) (by kernel_rfl) (by kernel_rfl) (by kernel_rfl) (fun _ _ _ h => h) hH rfl ?yc3 ?rc3
    case yc3 => intro w hSw; go_simp; try with_reducible rfl
    try simp only [Act.put, List.setIfInBounds_toArray, List.set_cons_zero, List.set_cons_succ]
    refine takeL 4 (v := ?vc4) rfl (by kernel_rfl) (by kernel_rfl) (by kernel_rfl) (by kernel_rfl) (by kernel_rfl) (fun _ _ _ h => h) hH rfl ?yc4 ?rc4
    case yc4 => intro w hSw; go_simp; try with_reducible rfl
    try simp only [Act.put, List.setIfInBounds_toArray, List.set_cons_zero, List.set_cons_succ]
    refine takeL 5 (v := ?vc5) rfl (by kernel_rfl) (by kernel_rfl) (by kernel_rfl) (by kernel_rfl) (by kernel_rfl) (fun _ _ _ h => h) hH rfl ?yc5 ?rc5
    case yc5 => intro w hSw; go_simp; try with_reducible rfl
    try simp only [Act.put, List.setIfInBounds_toArray, List.set_cons_zero, List.set_cons_succ]
    refine takeL 6 (v := ?vc6) rfl (by kernel_rfl) (by kernel_rfl) (by kernel_rfl) (by kernel_rfl) (by kernel_rfl) (fun _ _ _ h => h) hH rfl ?yc6 ?rc6
    case yc6 => intro w hSw; go_simp; try with_reducible rfl
    try simp only [Act.put, List.setIfInBounds_toArray, List.set_cons_zero, List.set_cons_succ]
    refine takeL 7 (v := ?vc7) rfl (by kernel_rfl) (by kernel_rfl) (by kernel_rfl) (by kernel_rfl) (by kernel_rfl) (fun _ _ _ h => h) hH rfl ?yc7 ?rc7
    case yc7 => intro w hSw; go_simp; try with_reducible rfl
    try simp only [Act.put, List.setIfInBounds_toArray, List.set_cons_zero, List.set_cons_succ]
    refine takeL 8 (v := ?vc8) rfl (by kernel_rfl) (by kernel_rfl) (by kernel_rfl) (by kernel_rfl) (by kernel_rfl) (fun _ _ _ h => h) hH rfl ?yc8 ?rc8
    case yc8 => intro w hSw; go_simp; try with_reducible rfl
    try simp only [Act.put, List.setIfInBounds_toArray, List.set_cons_zero, List.set_cons_succ]
    refine takeL 9 (v := ?vc9) rfl (by kernel_rfl) (by kernel_rfl) (by kernel_rfl) (by kernel_rfl) (by kernel_rfl) (fun _ _ _ h => h) hH rfl ?yc9 ?rc9
    case yc9 => intro w hSw; go_simp; try with_reducible rfl
    try simp only [Act.put, List.setIfInBounds_toArray, List.set_cons_zero, List.set_cons_succ]
    refine takeL 10 (v := ?vc10) rfl (by kernel_rfl) (by kernel_rfl) (by kernel_rfl) (by kernel_rfl) (by kernel_rfl) (fun _ _ _ h => h) hH rfl ?yc10 ?rc10
    case yc10 => intro w hSw; go_simp; try with_reducible rfl
    try simp only [Act.put, List.setIfInBounds_toArray, List.set_cons_zero, List.set_cons_succ]
    refine callL 11 rfl (by kernel_rfl) rfl (fun K hK => ?_)
    go_simp
    refine hK.out _ _ hH (fun hH => ?_)
    clear hK K
    try simp only [Act.put, List.setIfInBounds_toArray, List.set_cons_zero, List.set_cons_succ]
    refine callL 12 rfl (by kernel_rfl) rfl (fun K hK => ?_)
    go_simp
    refine hK.out _ _ hH (fun hH => ?_)
    clear hK K
    try simp only [Act.put, List.setIfInBounds_toArray, List.set_cons_zero, List.set_cons_succ]
    refine callL 13 rfl (by kernel_rfl) rfl (fun K hK => ?_)
    go_simp
    refine hK.out _ _ hH (fun hH => ?_)
    clear hK K
    try simp only [Act.put, List.setIfInBounds_toArray, List.set_cons_zero, List.set_cons_succ]
    refine lastL rfl (by kernel_rfl) (by kernel_rfl) (by kernel_rfl) rfl (fun K hK => ?_)
    go_simp
    refine hK.out _ _ ?_
    clear hK K
    try simp only [Act.put, List.setIfInBounds_toArray, List.set_cons_zero, List.set_cons_succ]
    have hs2 : Str (W1.setCell ⟨M, plM y.r y.a, none⟩ (.bool true)).drew M 141 (marksV (setM bs (plM y.r y.a))) := by
      have := Str.set (W := W1) Hst.out (plM y.r y.a) (.bool true)
      rw [marksV_set] at this
      exact this
    have hg2 : W1.grownBy (W1.setCell ⟨M, plM y.r y.a, none⟩ (.bool true)).drew (some M) := grownBy_trans (grownBy_set W1 M (plM y.r y.a) (.bool true)) (below_rowP (Below.refl _ _).drew _)
    generalize (W1.setCell ⟨M, plM y.r y.a, none⟩ (.bool true)).drew = W2 at *
    have HG2 := Lib.hid (grownBy_trans HG1.out hg2)
    have Hg2 := Lib.hid (grownBy_trans Hdr.out hg2)
    have Hs2 := Lib.hid hs2
    have e4 := (HN.out W2 HG2.out).1.cell 4 (v := .slice pp qs.length pcap) rfl
    clear hs2 hg2 gm gf e0 e1 hH
    go_wp2_with fail
    go_loopw [40] (fun i wr => ∃ (k : Nat) (b2 : Nat → Bool), k ≤ qs.length ∧ i = .int .i64 k ∧ wl.grownBy wr (some M) ∧ w.grownBy wr (some M) ∧ Str wr M 141 (marksV b2) ∧ Mkk g y bs b2 k) (fun i _ => qs.length - (intOf i).toNat)
    case atStart => exact ⟨0, _, by omega, rfl, HG2.out, Hg2.out, Hs2.out, Hk0.out⟩
    case round =>
      obtain ⟨k, b2, hk, rfl, hgl, hgw, hsm, hmk⟩ := hrel
      by_cases hlt : k < qs.length
      · obtain ⟨gb, cap, ep, _, _, hcell⟩ := (HN.out wr hgl).2.cell k hlt
        have hkp : k < y.ps.length := by have := Hql.out; omega
        obtain ⟨z, hz, hzr, hza⟩ := Hpar.out y hy y.ps[k] (List.getElem_mem hkp)
        have hr1 : 1 ≤ y.r := by
          by_cases e : y.r = 0
          · have := Hr0.out y hy e; omega
          · have := Hiy.out.1; omega
        have hzq : h (plN z.r z.a) = ptrV qs[k] := by rw [hzr, hza]; exact Hqp.out k hlt hkp
        have iz := Hin.out z hz
        unfold inPl at iz
        have Hcall := Lib.hid (Hih.out z.r.toNat (by have := Hn.out; omega) z qs[k] wr b2 hz rfl hzq hgl hsm (by rw [hzr]; exact hmk.cls))
        have Hstep := Lib.hid (fun b3 => mkk_step (b2 := b3) Hin.out hy hmk hz hkp hzr hza)
        have Hgl := Lib.hid hgl
        have Hgw := Lib.hid hgw
        simp only [Value.slice.injEq, true_and] at ep
        obtain ⟨rfl, rfl⟩ := ep
        unfold ptrV at hcell
        generalize qs[k] = qk at *
        clear hgl hgw hsm hmk hzr hza hzq iz hr1 hkp
        go_wp2_with fail
        refine Hcall.out.mono ?_
        rintro e w2 ⟨rfl, hg3, b3, hs3, hd3⟩
        have Hg3 := Lib.hid hg3
        have Hs3 := Lib.hid hs3
        have Hd3 := Lib.hid hd3
        clear hg3 hs3 hd3 hcell
        go_wp2
        go_roundw
        case rel => exact ⟨k + 1, b3, by omega, by go_num, grownBy_trans Hgl.out Hg3.out, grownBy_trans Hgw.out Hg3.out, Hs3.out, Hstep.out _ Hd3.out⟩
        case measure => simp [intOf]; omega
      · have hke : k = y.ps.length := by have := Hql.out; omega
        rw [hke] at hmk
        have Hmk := Lib.hid (mkk_end Hsrt.out Hin.out hy Hc.out hmk)
        have Hgw := Lib.hid hgw
        have Hsm := Lib.hid hsm
        clear hmk hgl hgw hsm hke
        go_wp2
        go_end0
        exact ⟨rfl, Hgw.out, b2, Hsm.out, Hmk.out⟩

end Go.Proofs.YtjaacdapibokiabGreatDoor

/- impl's GraphPast, by a walk of its text; conditions: lists are shorter than 2^40 (a graph: 2^20). -/
namespace Go.Proofs.YtjaacdapibokiabGreatDoor
open Go.RowKit

theorem own_ne_str {E t : TypeId} {w : World} {B M : Nat} {v : Value} {xs : List Int} {vs : Array Value} (h : Own E w B v xs) (s : Str w M t vs) (hne : E ≠ t) : v.ownBlock ≠ some M := by
  intro e
  rcases h.2 with ⟨rfl, _⟩ | ⟨g, cap, cur, rfl, _, hg, _⟩
  · cases e
  · cases e
    have := hg.symm.trans s
    simp at this
    exact hne this.2
theorem pair_uni {g : List Vx} (h : Srt g) {i j : Nat} (hi : i < g.length) (hj : j < g.length) (hr : g[i].r = g[j].r) (ha : g[i].a = g[j].a) : i = j := by
  have hs := List.pairwise_iff_getElem.1 h
  rcases Nat.lt_trichotomy i j with h1 | h1 | h1
  · have := befB_iff.1 (hs i j hi hj h1); omega
  · exact h1
  · have := befB_iff.1 (hs j i hj hi h1); omega
/-- The marks are the past, as the reference reckons it. -/
theorem marks_past {c : List Int} {g : List Vx} (h : graphB c g = true) {a : Nat} (ha : a < g.length) {bs : Nat → Bool} (hm : Mkd g g[a] (fun _ => false) bs) (hr : ∀ z ∈ g, z.r ≤ g[a].r ∨ True) : ∀ j (hj : j < g.length), bs (plM g[j].r g[j].a) = (pastB g a).getD j false := by
  have hs := graph_sorted h
  obtain ⟨hcl, hca, hcb⟩ := past_closed h ha
  have hfind : ∀ j (hj : j < g.length), findZ g g[j].r g[j].a = j := fun j hj => by
    obtain ⟨k, hk, e, e2⟩ := findZ_mem hs (List.getElem_mem hj)
    rw [e, pair_uni hs hk hj (by rw [e2]) (by rw [e2])]
  have h1 : ∀ j (hj : j < g.length), bs (plM g[j].r g[j].a) = true → (pastB g a).getD j false = true := by
    intro j hj hb
    rcases hm.only (fun z => ∃ i, ∃ hi : i < g.length, g[i] = z ∧ (pastB g a).getD i false = true) (fun y hy hP p hp z hz er ea => by
      obtain ⟨i, hi, rfl, hb⟩ := hP
      obtain ⟨k, hk, rfl⟩ := List.mem_iff_getElem.1 hp
      obtain ⟨j, hj, e, e2⟩ := findZ_mem hs hz
      rw [er, ea] at e
      have := hcl i hi (Nat.zero_le _) hb k hk
      rw [e, Int.toNat_natCast] at this
      exact ⟨j, hj, e2, this⟩) ⟨a, ha, rfl, hca⟩ g[j] (List.getElem_mem hj) hb with h0 | ⟨i, hi, e, hb⟩
    · cases h0
    · rwa [pair_uni hs hi hj (by rw [e]) (by rw [e])] at hb
  have h2 : ∀ n j, (hj : j < g.length) → g.length - j ≤ n → (pastB g a).getD j false = true → bs (plM g[j].r g[j].a) = true ∧ g[j].r ≤ g[a].r := by
    intro n
    induction n with
    | zero => intro j hj hn; omega
    | succ n ih =>
      intro j hj hn hb
      by_cases e : j = a
      · subst e; exact ⟨hm.it, Int.le_refl _⟩
      · obtain ⟨i, hi, hji, hbi, _, er, ep⟩ := past_least h ha j hb e
        obtain ⟨i1, i2⟩ := ih i hi (by omega) hbi
        have := hm.cls g[i] (List.getElem_mem hi) i2 i1 g[j].a ep
        rw [show g[i].r - 1 = g[j].r by omega] at this
        exact ⟨this, by omega⟩
  intro j hj
  cases hb : (pastB g a).getD j false with
  | true => exact (h2 (g.length - j) j hj (Nat.le_refl _) hb).1
  | false =>
    cases hb2 : bs (plM g[j].r g[j].a) with
    | false => rfl
    | true => rw [h1 j hj hb2] at hb; cases hb
theorem pastB_none (g : List Vx) : idxTo (pastB g (-1)) g.length = [] := by
  unfold idxTo pastB
  rw [if_pos (by omega)]
  rw [List.map_eq_nil_iff, List.filter_eq_nil_iff]
  intro i hi
  have hi' := List.mem_range.1 hi
  simp [List.getD, hi']

end Go.Proofs.YtjaacdapibokiabGreatDoor
