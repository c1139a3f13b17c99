/- Texts that the laws of this folder share, one behind another; no conditions. -/
import Derived.Test.YtjaacdapibokiabDoorRows
import Derived.Test.YtjaacdapibokiabDoorBu3
import Derived.Test.YtjaacdapibokiabDoorBu2
import Derived.Deep.QuietTactic
import Derived.BigQuiet
import Derived.WalkSmall
import Derived.Test.YtjaacdapibokiabDoorBu1
import Derived.Maps.AppendAt
import Derived.Deep.MidRow
import Derived.Laws.Rows
import Derived.Test.YtjaacdapibokiabDoorBu0
import Derived.Shelf.Slices.Reverse
import Derived.Sort.OwnSortedInts

/- The reference's waves of all vertices and its order, each by a walk of its text; condition: the graph has at most 2^20 vertices. -/
namespace Go.Proofs.YtjaacdapibokiabDoor
open Go.RowKit

theorem owL_len (g : List Vx) (ls : List Int) (O : List Nat) : (owL g ls O).length = g.length := fnL_len _ _
theorem owM_len (g : List Vx) (ls : List Int) (O : List Nat) (w k : Nat) : (owM g ls O w k).length = g.length := fnL_len _ _
theorem owL_zero (g : List Vx) (ls : List Int) : owL g ls [] = fnL g.length fun _ => 0 := fnL_congr fun _ _ => rfl
theorem ow_bd {g : List Vx} {ls : List Int} {O : List Nat} (h : ∀ v ∈ O, v ≤ 15) (k : Nat) : owN g ls O k ≤ 15 := by
  by_cases e : owN g ls O k = 0
  · omega
  · exact h _ (ow_find e).1

set_option maxHeartbeats 4000000 in
set_option maxRecDepth 8000 in
theorem spec_l22Waves (ac : Option Addr) (capc : Nat) (c : List Int) (g : List Vx) (v : Value) (fp : List Nat) (al : Option Addr) (cap : Nat) (ls : List Int) (w : World) (hwa : waB c g ls = true) (hbig : g.length ≤ 1048576) (hps : ∀ x ∈ g, x.ps.length ≤ 1099511627776) (hc : IntsAt w ac c) (hg : Gr w g v fp) (hi : IntsAt w al ls) :
    Calls Tryd.prog 25 #[.slice ac c.length capc, v, .slice al ls.length cap] w fun e w' => ∃ u, e = .returned u ∧ Own 3 w' w.heap.size u (owL g ls (cwN c g ls)) ∧ Below w.heap.size w w' := by
  have hgb : graphB c g = true := by unfold waB at hwa; simp only [Bool.and_eq_true] at hwa; exact hwa.1
  have h15 : ls.length ≤ 15 := by unfold waB at hwa; simp only [Bool.and_eq_true] at hwa; exact (ldAt hwa.2).1
  obtain ⟨hcw, hcok⟩ := cwN_ok hwa hps
  have hwv : (wvs c g ls ls.length).1 = (cwN c g ls).map Int.ofNat := by rw [← hcw]; unfold cwZ; rw [if_pos hwa]
  have hmk : ∀ w, (Instr.makeSlice 22 (.int .i64 (g.length : Int)) (.int .i64 (g.length : Int))).run Tryd.prog w = .ok (.slice (some ⟨w.heap.size, 0, none⟩) g.length g.length) (w.alloc (.cells (madeCells #[.int .i64 0] g.length) 3)) :=
    fun w => run_make_row' 22 3 (.int .i64 0) 8 Tryd.underlying22 (by kernel_rfl) rfl .i64 .i64 g.length (by omega) (by omega) w
  have hb1 : Below w.heap.size w (w.alloc (.cells (madeCells #[.int .i64 0] g.length) 3)) := (Below.refl _ _).alloc (Nat.le_refl _) _
  have ho1 := own_zeros 3 w g.length (by unfold maxLen; omega)
  rw [← owL_zero g ls] at ho1
  have hz1 : (w.alloc (.cells (madeCells #[.int .i64 0] g.length) 3)).heap.size = w.heap.size + 1 := by simp
  obtain ⟨va, vc, rfl⟩ := hg.slice
  have HW := Lib.hid (spec_l21Waves ac capc c g (.slice va g.length vc) fp al cap ls _ hgb h15 hbig hps (hc.below hb1) (hg.under hb1) (hi.below hb1))
  rw [hwv] at HW
  have HL := Lib.hid (fun m hm W (hb : Below w.heap.size w W) => spec_l21Leader g (.slice va g.length vc) fp al cap ls m W (by omega) hm h15 (hg.under hb) (hi.below hb))
  have HP := Lib.hid (fun at' ha W (hb : Below w.heap.size w W) => spec_l11Past c g (.slice va g.length vc) fp at' W hgb hbig hps ha (hg.under hb))
  have Hgr := Lib.hid (fun W (hb : Below w.heap.size w W) => hg.under hb)
  have Hcok := Lib.hid hcok
  have HB15 := Lib.hid (show ∀ v ∈ cwN c g ls, v ≤ 15 from fun v hv => by have := (hcok.mem v hv).2.1; omega)
  have hOl : (cwN c g ls).length ≤ 15 := by
    have h2 : (cwN c g ls).length ≤ (List.range' 1 ls.length).length := List.Nodup.length_le_of_subset (show (cwN c g ls).Nodup from hcok.asc.imp (fun {a b} h => Nat.ne_of_lt h)) fun v hv => by
      have := hcok.mem v hv; rw [List.mem_range'_1]; omega
    rw [List.length_range'] at h2; omega
  have HO1 := Lib.hid (show ∀ v ∈ cwN c g ls, 1 ≤ v from fun v hv => (hcok.mem v hv).1)
  have Ho1 := Lib.hid ho1; have Hb1 := Lib.hid hb1
  generalize cwN c g ls = O at *
  clear hc hg hi hps hwa hgb hwv hcw hcok ho1
  go_enter Tryd.func25, Tryd.ntmps25
  go_wp2_with fail
  generalize w.alloc (.cells (madeCells #[.int .i64 0] g.length) 3) = w1 at *
  refine HW.out.mono ?_
  rintro e w2 ⟨uw, rfl, how, hb2⟩
  have hs2 := hb2.size
  have Ho2 := Lib.hid (Ho1.out.below hb2)
  have Hb2 := Lib.hid (below_step Hb1.out Hb1.out.size hb2)
  have Hw2 := Lib.hid how
  obtain ⟨aw, cw, rfl, _, _⟩ := how.ints
  rw [List.length_map] at *
  clear hb1 hb2 how hmk HW Ho1 Hb1
  generalize hLO : w.heap.size = LO at *
  go_wp2_with fail
  go_loopw [9, 10, 11] (fun i _ _ wr => ∃ m : Nat, m ≤ O.length ∧ i = .int .i64 m ∧ Own 3 wr LO (.slice (some ⟨LO, 0, none⟩) g.length g.length) (owL g ls (O.take m)) ∧ Own 3 wr (LO + 1) (.slice aw O.length cw) (O.map Int.ofNat) ∧ Below LO w wr) (fun i _ _ _ => O.length - (intOf i).toNat)
  case atStart => exact ⟨0, by omega, rfl, by rw [List.take_zero]; exact Ho2.out, hz1 ▸ Hw2.out, Hb2.out⟩
  case round =>
    obtain ⟨m, hm, rfl, ho, hw, hb⟩ := hrel
    have Ho := Lib.hid ho; have Hw := Lib.hid hw; have Hb := Lib.hid hb
    by_cases hlt : m < O.length
    · have hlt' : (m : Int) < (O.length : Int) := by omega
      obtain ⟨gw, cw', ep, hgw, hgl, _, hcell, _⟩ := Own.row hw (by rw [List.length_map]; omega)
      simp only [Value.slice.injEq, List.length_map, true_and] at ep
      obtain ⟨rfl, rfl⟩ := ep
      have cm := hcell m (by rw [List.length_map]; exact hlt)
      rw [List.getElem_map] at cm
      have hmem := Hcok.out.mem _ (List.getElem_mem hlt)
      have hT1 : ∀ v ∈ O.take m, 1 ≤ v := fun v hv => HO1.out v (List.mem_of_mem_take hv)
      have hT15 : ∀ v ∈ O.take m, v ≤ 15 := fun v hv => HB15.out v (List.mem_of_mem_take hv)
      have htk : O.take m ++ [O[m]] = O.take (m + 1) := (List.take_succ_eq_append_getElem hlt).symm
      generalize O[m] = W at *
      have cm : wr.cell? ⟨gw, m, none⟩ = some (.int .i64 (W : Int)) := cm
      have HT1 := Lib.hid hT1; have HT15 := Lib.hid hT15; have Htk := Lib.hid htk
      generalize O.take m = OP at *
      have HLm := Lib.hid (HL.out W ⟨hmem.1, hmem.2.1⟩ wr Hb.out)
      have HPm := Lib.hid (HP.out (ldZ g ls W) (by
        have h0 := hmem.2.2
        obtain ⟨j, hj, ej, _⟩ := ld_at h0
        exact .inr ⟨j, hj, ej⟩))
      have Hmem := Lib.hid hmem
      have Hh := Lib.hid (show ∀ k, hitB g ls W k = ((pastB g (ldZ g ls W)).getD k false && decide (2 * (W : Int) - 7 ≤ (g.getD k vx0).r)) from fun k => rfl)
      have hW := hmem.1; have hW15 : W ≤ 15 := by omega
      have hpl := pastB_len g (ldZ g ls W)
      generalize pastB g (ldZ g ls W) = PB at *
      have hzr := hb.size
      clear hcell hT1 hT15 htk hmem ho hw hb
      go_wp2_with fail
      refine HLm.out.mono ?_
      rintro e w3 ⟨rfl, rfl⟩
      go_wp2_with fail
      refine (HPm.out wr Hb.out).mono ?_
      rintro e w4 ⟨up, rfl, hop, hb4⟩
      have hz4 := hb4.size
      have Ho3 := Lib.hid (Ho.out.below hb4)
      have Hw3 := Lib.hid (Hw.out.below hb4)
      obtain ⟨ap, cp, rfl, _⟩ := hop.slice
      rw [hpl] at hop
      have Hp3 := Lib.hid (hop.mono (show LO + 1 ≤ wr.heap.size by have := World.block_lt_of_cell? _ _ cm; simp only at this; omega))
      have Hb3 := Lib.hid (below_step Hb.out (by omega) hb4)
      have HPl := Lib.hid hpl
      rw [hpl]
      clear hop hb4 cm HLm HPm Ho Hw Hb hpl
      go_wp2
      go_loopw [11] (fun kk wr => ∃ k : Nat, k ≤ g.length ∧ kk = .int .i64 k ∧ Own 3 wr LO (.slice (some ⟨LO, 0, none⟩) g.length g.length) (owM g ls OP W k) ∧ OwnB 4 wr (LO + 1) (.slice ap g.length cp) PB ∧ Own 3 wr (LO + 1) (.slice (some ⟨gw, 0, none⟩) O.length cw) (O.map Int.ofNat) ∧ Below LO w wr) (fun kk _ => g.length - (intOf kk).toNat)
      case atStart => exact ⟨0, by omega, rfl, by rw [owM_zero]; exact Ho3.out, Hp3.out, Hw3.out, Hb3.out⟩
      case round =>
        obtain ⟨k, hk, rfl, ho, hp, hw, hb⟩ := hrel
        have Ho4 := Lib.hid ho; have Hp4 := Lib.hid hp; have Hw4 := Lib.hid hw; have Hb4 := Lib.hid hb
        by_cases hlk : k < g.length
        · have hlk' : (k : Int) < (g.length : Int) := by omega
          obtain ⟨gp, cp', ep, _, hgpl, _, hpc, _⟩ := hp.row (by rw [HPl.out]; omega)
          simp only [Value.slice.injEq, HPl.out, true_and] at ep
          obtain ⟨rfl, rfl⟩ := ep
          have cp0 := hpc k (by rw [HPl.out]; exact hlk)
          have hgd : PB.getD k false = PB[k]'(by rw [HPl.out]; exact hlk) := by simp [List.getD, List.getElem?_eq_getElem (show k < PB.length by rw [HPl.out]; exact hlk)]
          rw [← hgd] at cp0
          obtain ⟨gq, cq, eq, _, _, _, hoc, hof⟩ := Own.row ho (by rw [owM_len]; omega)
          simp only [Value.slice.injEq, Option.some.injEq, Addr.mk.injEq, and_true, true_and, owM_len] at eq
          obtain ⟨rfl, rfl⟩ := eq
          have co0 := hoc k (by rw [owM_len]; exact hlk)
          rw [← getD_get (by rw [owM_len]; exact hlk), owM_get hlk] at co0
          have fo0 := hof k
          obtain ⟨_, _, eg, _, _, _, hwc, _⟩ := Own.row hw (by rw [List.length_map]; omega)
          simp only [Value.slice.injEq, Option.some.injEq, Addr.mk.injEq, and_true, true_and, List.length_map] at eg
          obtain ⟨rfl, rfl⟩ := eg
          have cw0 := hwc m (by rw [List.length_map]; exact hlt)
          rw [List.getElem_map] at cw0
          have hOm : (Int.ofNat O[m] : Int) = (W : Int) := by
            have h1 := Htk.out
            rw [List.take_succ_eq_append_getElem hlt] at h1
            have h2 := List.append_inj_right' h1 (by simp)
            simp at h2
            rw [h2]; rfl
          rw [hOm] at cw0
          obtain ⟨b, off, hag, hbl, hat⟩ := (Hgr.out wr hb).at (by omega)
          subst hag
          obtain ⟨c0, _⟩ := hat k hlk
          have hr : 0 ≤ g[k].r ∨ g[k].r ≤ 0 := by omega
          have hgk : (g.getD k vx0).r = g[k].r := by rw [getV hlk]
          have Hhk := Lib.hid ((Hh.out k).trans (by rw [hgk]))
          have hxb := ow_bd (g := g) (ls := ls) HT15.out k
          have Hn := Lib.hid (owM_no (g := g) (ls := ls) (w := W) (k := k) HT1.out)
          have Hy := Lib.hid (owM_yes (g := g) (ls := ls) (w := W) (k := k) HT1.out)
          have Hown := Lib.hid (fun n => (ho.drewN n).store (by rw [owM_len]) k (W : Int))
          generalize hitB g ls W k = HB at *
          generalize g[k].r = R at *
          generalize PB.getD k false = PK at *
          generalize owN g ls OP k = X at *
          have e1 : IntKind.i64.wrap (2 * (W : Int)) = 2 * (W : Int) := IntWalk.i64_in _ (by omega)
          have e2 : IntKind.i64.wrap (2 * (W : Int) - 1) = 2 * (W : Int) - 1 := IntWalk.i64_in _ (by omega)
          have e3 : IntKind.i64.wrap (2 * (W : Int) - 1 - 6) = 2 * (W : Int) - 7 := by rw [IntWalk.i64_in _ (by omega)]; omega
          clear hpc hoc hof hwc hat hgd hgk hOm ho hp hw hb hr
          cases PK with
          | false =>
            have Hno := Lib.hid (Hn.out (fun h => by have := h.2; rw [Hhk.out] at this; simp at this))
            clear Hn Hy Hhk
            go_wp2_with fail
            go_quiet (fail)
            go_wp2
            go_roundw
            case rel => exact ⟨k + 1, by omega, by go_num, by rw [← Hno.out]; exact (Ho4.out.below (below_drewN (Below.refl _ _) _)), Hp4.out.below (below_drewN (Below.refl _ _) _), Hw4.out.below (below_drewN (Below.refl _ _) _), below_drewN Hb4.out _⟩
            case measure => simp [intOf]; omega
          | true =>
            by_cases hX : X = 0
            case neg =>
              have hX' : ((X : Int) == 0) = false := by rw [beq_eq_false_iff_ne]; omega
              have Hno := Lib.hid (Hn.out (fun h => hX h.1))
              clear Hn Hy Hhk hX
              go_wp2_with fail
              go_quiet (fail)
              go_wp2
              go_roundw
              case rel => exact ⟨k + 1, by omega, by go_num, by rw [← Hno.out]; exact (Ho4.out.below (below_drewN (Below.refl _ _) _)), Hp4.out.below (below_drewN (Below.refl _ _) _), Hw4.out.below (below_drewN (Below.refl _ _) _), below_drewN Hb4.out _⟩
              case measure => simp [intOf]; omega
            subst hX
            have hX' : (((0 : Nat) : Int) == 0) = true := rfl
            have co0 : wr.cell? ⟨w.heap.size, k, none⟩ = some (.int .i64 0) := by rw [hLO]; exact co0
            by_cases hR : 2 * (W : Int) - 7 ≤ R
            case neg =>
              have hR' : decide (2 * (W : Int) - 7 ≤ R) = false := decide_eq_false hR
              have Hno := Lib.hid (Hn.out (fun h => by have := h.2; rw [Hhk.out, hR'] at this; simp at this))
              clear Hn Hy Hhk hR'
              go_wp2_with fail
              go_quiet (fail)
              go_wp2
              go_roundw
              case rel => exact ⟨k + 1, by omega, by go_num, by rw [← Hno.out]; exact (Ho4.out.below (below_drewN (Below.refl _ _) _)), Hp4.out.below (below_drewN (Below.refl _ _) _), Hw4.out.below (below_drewN (Below.refl _ _) _), below_drewN Hb4.out _⟩
              case measure => simp [intOf]; omega
            have hR' : decide (2 * (W : Int) - 7 ≤ R) = true := decide_eq_true hR
            have Hye := Lib.hid (Hy.out rfl (by rw [Hhk.out, hR']; rfl))
            clear Hn Hy Hhk hR'
            go_wp2_with fail
            go_quiet (fail)
            go_wp2
            obtain ⟨s1, g1⟩ := Hown.out nq
            have hneP : ∀ (u : Value), (∀ q, u.ownBlock = some q → LO + 1 ≤ q) → (u.ownBlock = none ∨ u.ownBlock ≠ some LO) := fun u h => by
              cases hu : u.ownBlock with
              | none => exact .inl rfl
              | some q => exact .inr (fun e => by have := h q hu; simp at e; omega)
            have Hp5 := Lib.hid ((Hp4.out.below (below_drewN (Below.refl _ _) nq)).kept g1 (hneP _ (fun q e => (Hp4.out.lt q e).1)))
            have Hw5 := Lib.hid ((Hw4.out.below (below_drewN (Below.refl _ _) nq)).kept g1 (hneP _ (fun q e => (Hw4.out.lt q e).1)))
            have Hb5 := Lib.hid ((below_drewN Hb4.out nq).setCell (p := ⟨LO, k, none⟩) (Nat.le_refl _) (.int .i64 W))
            have Ho5 := Lib.hid s1
            clear s1 g1 hneP
            go_roundw
            case rel => exact ⟨k + 1, by omega, by go_num, by rw [← Hye.out]; exact Ho5.out, Hp5.out, Hw5.out, Hb5.out⟩
            case measure => simp [intOf]; omega
        · have hkl : k = g.length := by omega
          subst hkl
          have Ho5 := Lib.hid ho; have Hw5 := Lib.hid hw; have Hb5 := Lib.hid hb
          clear ho hp hw hb
          go_wp2
          go_roundw
          case rel => exact ⟨m + 1, by omega, by go_num, by rw [← Htk.out, ← owM_end]; exact Ho5.out, Hw5.out, Hb5.out⟩
          case measure => simp [intOf]; omega
    · have hml : O.take m = O := List.take_of_length_le (by omega)
      rw [hml] at Ho
      clear hml ho hw hb
      go_wp2
      go_ret
      exact ⟨_, rfl, by rw [hLO]; exact Ho.out, by rw [hLO]; exact Hb.out⟩

end Go.Proofs.YtjaacdapibokiabDoor

/- A heap in a list: sifting up and down keeps what is in it, the least comes first; plain facts on lists, nothing here is walked. -/
namespace Go.Proofs.YtjaacdapibokiabDoor
open Go.RowKit

/-- A vertex's place as its key. -/
def kyV (v : Vx) : Nat := plN v.r v.a
theorem ky_bef {x y : Vx} (hx : inPl x) (hy : inPl y) : befB x y = true ↔ kyV x < kyV y := by
  unfold inPl at hx hy
  rw [befB_iff]
  unfold kyV plN
  omega
/-- The key at a place of a list. -/
def kyA (L : List Vx) (i : Nat) : Nat := kyV (L.getD i vx0)
/-- Two places changed. -/
def swpL (L : List Vx) (i j : Nat) : List Vx := (L.set i (L.getD j vx0)).set j (L.getD i vx0)
theorem swp_len (L : List Vx) (i j : Nat) : (swpL L i j).length = L.length := by simp [swpL]
theorem swp_get {L : List Vx} {i j : Nat} (hi : i < L.length) (hj : j < L.length) (k : Nat) : (swpL L i j).getD k vx0 = if k = j then L.getD i vx0 else if k = i then L.getD j vx0 else L.getD k vx0 := by
  unfold swpL
  generalize L.getD i vx0 = x
  generalize L.getD j vx0 = y
  simp only [List.getD, List.getElem?_set, List.length_set]
  by_cases h1 : k = j
  · subst h1; simp [hj]
  · rw [if_neg (fun h => h1 h.symm), if_neg h1]
    by_cases h2 : k = i
    · subst h2; simp [hi]
    · rw [if_neg (fun h => h2 h.symm), if_neg h2]
theorem swp_perm {L : List Vx} {i j : Nat} (hi : i < L.length) (hj : j < L.length) : (swpL L i j).Perm L := by
  have := @List.set_set_perm _ L i j hi hj
  unfold swpL
  rw [getV hi, getV hj]
  exact this
theorem swp_ky {L : List Vx} {i j : Nat} (hi : i < L.length) (hj : j < L.length) (k : Nat) : kyA (swpL L i j) k = if k = j then kyA L i else if k = i then kyA L j else kyA L k := by
  unfold kyA
  rw [swp_get hi hj]
  split
  · rfl
  · split <;> rfl

/-- The first n places are a heap. -/
def HpN (L : List Vx) (n : Nat) : Prop := ∀ i, 0 < i → i < n → kyA L ((i - 1) / 2) ≤ kyA L i
/-- A heap but for what stands at place j, which may be too small for it. -/
def HpU (L : List Vx) (n j : Nat) : Prop := (∀ i, 0 < i → i < n → i ≠ j → kyA L ((i - 1) / 2) ≤ kyA L i) ∧ ∀ i, 0 < i → i < n → (i - 1) / 2 = j → 0 < j → kyA L ((j - 1) / 2) ≤ kyA L i
/-- A heap but for what stands at place j, which may be too great for it. -/
def HpD (L : List Vx) (n j : Nat) : Prop := (∀ i, 0 < i → i < n → (i - 1) / 2 ≠ j → kyA L ((i - 1) / 2) ≤ kyA L i) ∧ ∀ i, 0 < i → i < n → (i - 1) / 2 = j → 0 < j → kyA L ((j - 1) / 2) ≤ kyA L i
theorem hpu_end {L : List Vx} {n j : Nat} (h : HpU L n j) (e : 0 < j → kyA L ((j - 1) / 2) ≤ kyA L j) : HpN L n := by
  intro i h0 hi
  by_cases hij : i = j
  · subst hij; exact e h0
  · exact h.1 i h0 hi hij
theorem hpu_step {L : List Vx} {n j : Nat} (hn : n = L.length) (hj : j < n) (h0 : 0 < j) (h : HpU L n j) (hl : kyA L j < kyA L ((j - 1) / 2)) : HpU (swpL L ((j - 1) / 2) j) n ((j - 1) / 2) := by
  have hp : (j - 1) / 2 < L.length := by omega
  have hj' : j < L.length := by omega
  refine ⟨fun i hi hi2 hne => ?_, fun i hi hi2 hpi hpo => ?_⟩
  · rw [swp_ky hp hj', swp_ky hp hj']
    have h1 := h.1 i hi hi2
    have h2 := h.2 i hi hi2
    by_cases e1 : i = j
    · subst e1
      rw [if_neg (by omega), if_pos rfl, if_pos rfl]; omega
    · have h1 := h1 e1
      rw [if_neg e1, if_neg hne]
      by_cases e2 : (i - 1) / 2 = j
      · rw [if_pos e2]; exact h2 e2 h0
      · rw [if_neg e2]
        by_cases e3 : (i - 1) / 2 = (j - 1) / 2
        · rw [if_pos e3]; rw [e3] at h1; omega
        · rw [if_neg e3]; exact h1
  · rw [swp_ky hp hj', swp_ky hp hj']
    have h3 := h.1 ((j - 1) / 2) hpo (by omega) (by omega)
    rw [if_neg (by omega), if_neg (by omega)]
    by_cases e1 : i = j
    · rw [if_pos e1]; exact h3
    · have h1 := h.1 i hi hi2 e1
      rw [if_neg e1, if_neg (by omega)]
      rw [hpi] at h1; omega
theorem hpd_end {L : List Vx} {n j : Nat} (h : HpD L n j) (e : ∀ i, 0 < i → i < n → (i - 1) / 2 = j → kyA L j ≤ kyA L i) : HpN L n := by
  intro i h0 hi
  by_cases hij : (i - 1) / 2 = j
  · rw [hij]; exact e i h0 hi hij
  · exact h.1 i h0 hi hij
theorem hpd_step {L : List Vx} {n i j : Nat} (hn : n ≤ L.length) (hj : j < n) (h0 : 0 < j) (hp : (j - 1) / 2 = i) (h : HpD L n i) (hl : kyA L j < kyA L i) (hm : ∀ k, 0 < k → k < n → (k - 1) / 2 = i → kyA L j ≤ kyA L k) : HpD (swpL L i j) n j := by
  have hi' : i < L.length := by omega
  have hj' : j < L.length := by omega
  refine ⟨fun k hk hk2 hne => ?_, fun k hk hk2 hpk hpo => ?_⟩
  · rw [swp_ky hi' hj', swp_ky hi' hj']
    by_cases e1 : k = j
    · subst e1
      rw [if_neg (by omega), if_pos hp, if_pos rfl]; omega
    · rw [if_neg e1, if_neg hne]
      by_cases e2 : (k - 1) / 2 = i
      · rw [if_pos e2, if_neg (by omega)]; exact hm k hk hk2 e2
      · rw [if_neg e2]
        by_cases e3 : k = i
        · rw [if_pos e3]
          subst e3
          exact h.2 j h0 hj hp hk
        · rw [if_neg e3]; exact h.1 k hk hk2 e2
  · rw [swp_ky hi' hj', swp_ky hi' hj']
    rw [if_neg (by omega), if_pos hp, if_neg (by omega), if_neg (by omega)]
    have := h.1 k hk hk2 (by omega)
    rw [hpk] at this
    exact this
theorem hpn_min {L : List Vx} {n : Nat} (h : HpN L n) : ∀ i, i < n → kyA L 0 ≤ kyA L i := by
  intro i
  induction i using Nat.strongRecOn with
  | _ i ih =>
    intro hi
    by_cases h0 : i = 0
    · subst h0; exact Nat.le_refl _
    · have h1 := ih ((i - 1) / 2) (by omega) (by omega)
      have h2 := h i (by omega) hi
      omega
/-- A new one at the end. -/
theorem hpu_push {L : List Vx} {x : Vx} (h : HpN L L.length) : HpU (L ++ [x]) (L.length + 1) L.length := by
  have hk : ∀ i, i < L.length → kyA (L ++ [x]) i = kyA L i := fun i hi => by
    unfold kyA; simp only [List.getD]; rw [List.getElem?_append_left hi]
  refine ⟨fun i h0 hi hne => ?_, fun i h0 hi hp h1 => by omega⟩
  rw [hk i (by omega), hk _ (by omega)]
  exact h i h0 (by omega)
/-- The first and the last one changed: what is before the last one is a heap but for the first. -/
theorem hpd_swap {L : List Vx} {n : Nat} (hn : L.length = n + 1) (h : HpN L (n + 1)) : HpD (swpL L 0 n) n 0 := by
  refine ⟨fun i h0 hi hne => ?_, fun i h0 hi hp h1 => by omega⟩
  rw [swp_ky (by omega) (by omega), swp_ky (by omega) (by omega)]
  rw [if_neg (by omega), if_neg (by omega), if_neg (by omega), if_neg (by omega)]
  exact h i h0 (by omega)
/-- What is left when the last one has gone. -/
theorem hpn_drop {L : List Vx} {n : Nat} (hn : L.length = n + 1) (h : HpN L n) : HpN L.dropLast L.dropLast.length := by
  have hl : L.dropLast.length = n := by rw [List.length_dropLast, hn]; rfl
  have hk : ∀ i, i < n → kyA L.dropLast i = kyA L i := fun i hi => by
    unfold kyA; simp only [List.getD]; rw [List.getElem?_dropLast, if_pos (by omega)]
  rw [hl]
  intro i h0 hi
  rw [hk i hi, hk _ (by omega)]
  exact h i h0 hi
theorem perm_last {L : List Vx} {n : Nat} (hn : L.length = n + 1) : L = L.dropLast ++ [L.getD n vx0] := by
  have hne : L ≠ [] := by intro e; rw [e] at hn; simp at hn
  have h1 := List.dropLast_concat_getLast hne
  rw [List.getLast_eq_getElem] at h1
  have e : L.length - 1 = n := by omega
  rw [getV (by omega)]
  simp only [e] at h1
  exact h1.symm

end Go.Proofs.YtjaacdapibokiabDoor

/- Gathering what a wave orders: which vertices get the wave, and that these are the ones that the document names; plain facts, nothing here is walked. -/
namespace Go.Proofs.YtjaacdapibokiabDoor
open Go.RowKit

/-- A wave is written at a place. -/
def setO (wv : Nat → Nat) (i W : Nat) : Nat → Nat := fun j => if j = i then W else wv j
def plV (v : Vx) : Nat := plN v.r v.a
/-- What has a wave in the first n rounds has its parents there, from the floor on. -/
def ClsO (g : List Vx) (wv : Nat → Nat) (fl n : Int) : Prop := ∀ z ∈ g, z.r ≤ n → 0 < wv (plV z) → fl ≤ z.r - 1 → ∀ p ∈ z.ps, 0 < wv (plN (z.r - 1) p)
/-- What gathering a vertex does to the waves. -/
structure Gth (g : List Vx) (y : Vx) (fl : Int) (W : Nat) (wv wv' : Nat → Nat) : Prop where
  up : ∀ i, 0 < wv i → wv' i = wv i
  it : fl ≤ y.r → 0 < wv' (plV y)
  cls : ClsO g wv' fl y.r
  new : ∀ i, wv' i = wv i ∨ (wv i = 0 ∧ wv' i = W ∧ (i = plV y ∨ i < 1 + y.r.toNat * 7))
  only : ∀ P, ClsP g P → P y → ∀ z ∈ g, wv (plV z) = 0 → 0 < wv' (plV z) → P z ∧ fl ≤ z.r
theorem gth_old {g : List Vx} {y : Vx} {fl : Int} {W : Nat} {wv : Nat → Nat} (h : y.r < fl ∨ 0 < wv (plV y)) (hc : ClsO g wv fl y.r) : Gth g y fl W wv wv :=
  ⟨fun _ _ => rfl, fun h2 => by rcases h with h | h
                                · omega
                                · exact h, hc, fun _ => .inl rfl, fun _ _ _ _ _ h1 h2 => by omega⟩
/-- Behind the first k parents. -/
structure Gtk (g : List Vx) (y : Vx) (fl : Int) (W : Nat) (wv wv' : Nat → Nat) (k : Nat) : Prop where
  up : ∀ i, 0 < wv i → wv' i = wv i
  it : 0 < wv' (plV y)
  ps : ∀ j (h : j < y.ps.length), j < k → fl ≤ y.r - 1 → 0 < wv' (plN (y.r - 1) y.ps[j])
  cls : ClsO g wv' fl (y.r - 1)
  new : ∀ i, wv' i = wv i ∨ (wv i = 0 ∧ wv' i = W ∧ (i = plV y ∨ i < 1 + y.r.toNat * 7))
  only : ∀ P, ClsP g P → P y → ∀ z ∈ g, wv (plV z) = 0 → 0 < wv' (plV z) → P z ∧ fl ≤ z.r
theorem plV_inj {y z : Vx} (hy : inPl y) (hz : inPl z) (e : plV z = plV y) : z.r = y.r ∧ z.a = y.a := by
  unfold inPl at hy hz
  unfold plV at e
  exact plN_inj hz.1 hz.2.2.1 hz.2.2.2 hy.1 hy.2.2.1 hy.2.2.2 e
theorem gtk_start {g : List Vx} {y : Vx} {fl : Int} {W : Nat} {wv : Nat → Nat} (hs : Srt g) (hin : ∀ z ∈ g, inPl z) (hW : 0 < W) (hy : y ∈ g) (hf : fl ≤ y.r) (h0 : wv (plV y) = 0) (hc : ClsO g wv fl y.r) : Gtk g y fl W wv (setO wv (plV y) W) 0 := by
  refine ⟨fun i h => ?_, ?_, fun j _ h => by omega, fun z hz hr hm hfl p hp => ?_, fun i => ?_, fun P hP hPy z hz h1 h2 => ?_⟩
  · unfold setO; rw [if_neg (fun e => by subst e; omega)]
  · unfold setO; rw [if_pos rfl]; exact hW
  · unfold setO at hm ⊢
    rw [if_neg (fun e => by have := (plV_inj (hin y hy) (hin z hz) e).1; omega)] at hm
    split
    · exact hW
    · exact hc z hz (by omega) hm hfl p hp
  · unfold setO
    split
    · rename_i e; subst e; exact .inr ⟨h0, rfl, .inl rfl⟩
    · exact .inl rfl
  · unfold setO at h2
    split at h2
    · rename_i e
      obtain ⟨e1, e2⟩ := plV_inj (hin y hy) (hin z hz) e
      rw [srt_uni hs hz hy e1 e2]
      exact ⟨hPy, hf⟩
    · omega
theorem gtk_step {g : List Vx} {y z : Vx} {fl : Int} {W : Nat} {wv w1 w2 : Nat → Nat} {k : Nat} (hin : ∀ z ∈ g, inPl z) (hy : y ∈ g) (hW : 0 < W) (h : Gtk g y fl W wv w1 k) (hz : z ∈ g) (hk : k < y.ps.length) (hr : z.r = y.r - 1) (ha : z.a = y.ps[k]) (h2 : Gth g z fl W w1 w2) : Gtk g y fl W wv w2 (k + 1) := by
  have iz := hin z hz
  unfold inPl at iz
  have hup : ∀ i, 0 < w1 i → 0 < w2 i := fun i hi => by rw [h2.up i hi]; exact hi
  refine ⟨fun i hi => ?_, hup _ h.it, fun j hj hjk hf => ?_, by rw [← hr]; exact h2.cls, fun i => ?_, fun P hP hPy x hx h0 hm => ?_⟩
  · have e := h.up i hi
    rw [h2.up i (by omega), e]
  · by_cases e : j = k
    · subst e; rw [← hr, ← ha]; exact h2.it (by omega)
    · exact hup _ (h.ps j hj (by omega) hf)
  · rcases h2.new i with h' | ⟨h1, h3, h4⟩
    · rw [h']; exact h.new i
    · rcases h.new i with h5 | ⟨_, h6, _⟩
      · refine .inr ⟨by omega, h3, ?_⟩
        rcases h4 with h4 | h4
        · exact .inr (by rw [h4]; unfold plV plN; omega)
        · exact .inr (by omega)
      · omega
  · have hPz : P z := hP y hy hPy _ (List.getElem_mem hk) z hz hr ha
    by_cases e : w1 (plV x) = 0
    · exact h2.only P hP hPz x hx e hm
    · exact h.only P hP hPy x hx h0 (by omega)
theorem gtk_end {g : List Vx} {y : Vx} {fl : Int} {W : Nat} {wv wv' : Nat → Nat} (hs : Srt g) (hin : ∀ z ∈ g, inPl z) (hy : y ∈ g) (hc : ClsO g wv fl y.r) (h : Gtk g y fl W wv wv' y.ps.length) : Gth g y fl W wv wv' := by
  refine ⟨h.up, fun _ => h.it, fun z hz hr hm hfl p hp => ?_, h.new, h.only⟩
  have iy := hin y hy
  have iz := hin z hz
  by_cases e : z.r ≤ y.r - 1
  · exact h.cls z hz e hm hfl p hp
  · rcases h.new (plV z) with h' | ⟨_, _, h' | h'⟩
    · have h1 := hc z hz hr (by omega) hfl p hp
      rw [h.up _ h1]; exact h1
    · obtain ⟨e1, e2⟩ := plV_inj iy iz h'
      have := srt_uni hs hz hy e1 e2
      subst this
      obtain ⟨j, hj, rfl⟩ := List.mem_iff_getElem.1 hp
      exact h.ps j hj hj hfl
    · unfold inPl at iy iz; unfold plV plN at h'; omega

/-- What waits is just what has the wave. -/
def Wtg (g : List Vx) (W : Nat) (wv : Nat → Nat) (L : List Vx) : Prop := L.Nodup ∧ ∀ z, z ∈ L ↔ z ∈ g ∧ wv (plV z) = W
theorem wtg_push {g : List Vx} {W : Nat} {wv : Nat → Nat} {L L' : List Vx} {y : Vx} (hs : Srt g) (hin : ∀ z ∈ g, inPl z) (hy : y ∈ g) (hW : 0 < W) (h0 : wv (plV y) = 0) (h : Wtg g W wv L) (hp : L'.Perm (L ++ [y])) : Wtg g W (setO wv (plV y) W) L' := by
  have hny : y ∉ L := fun hm => by have := ((h.2 y).1 hm).2; omega
  refine ⟨hp.nodup_iff.2 ?_, fun z => ?_⟩
  · rw [List.nodup_append]
    exact ⟨h.1, by simp, fun a ha b hb e => by rw [List.mem_singleton] at hb; subst hb; subst e; exact hny ha⟩
  · rw [hp.mem_iff, List.mem_append, List.mem_singleton, h.2 z]
    unfold setO
    constructor
    · rintro (⟨h1, h2⟩ | rfl)
      · refine ⟨h1, ?_⟩; split
        · rfl
        · exact h2
      · exact ⟨hy, by rw [if_pos rfl]⟩
    · rintro ⟨h1, h2⟩
      split at h2
      · rename_i e
        obtain ⟨e1, e2⟩ := plV_inj (hin y hy) (hin z h1) e
        exact .inr (srt_uni hs h1 hy e1 e2)
      · exact .inl ⟨h1, h2⟩

/-- The waves are those of the document, for the waves so far. -/
def WvOk (g : List Vx) (ls : List Int) (O : List Nat) (wv : Nat → Nat) : Prop := ∀ k (h : k < g.length), wv (plV g[k]) = owN g ls O k
theorem wv_zero (g : List Vx) (ls : List Int) : WvOk g ls [] fun _ => 0 := fun _ _ => rfl
section
variable {c : List Int} {g : List Vx} {ls : List Int} {O : List Nat} (ok : Good21 c g ls)
include ok
/-- Behind a wave that has been gathered from its leader vertex. -/
theorem wv_step {w : Nat} {wv wv' : Nat → Nat} (hO : ∀ v ∈ O, 1 ≤ v) (hw1 : 1 ≤ w) (h0 : 0 ≤ ldZ g ls w) (h : WvOk g ls O wv) (hg : Gth g (ldV g ls w) (2 * (w : Int) - 7) w wv wv') : WvOk g ls (O ++ [w]) wv' := by
  obtain ⟨hLg, hLr, _⟩ := ldV_at h0
  intro k hk
  rw [ow_snoc hO, ← h k hk]
  by_cases e : wv (plV g[k]) = 0
  · by_cases hh : hitB g ls w k = true
    · rw [if_pos ⟨e, hh⟩]
      have hr := (hit_iff ok h0 hk).1 hh
      have hpos : 0 < wv' (plV g[k]) := by
        have key : ∀ {x z : Vx}, Rch g x z → x ∈ g → x.r ≤ (ldV g ls w).r → 0 < wv' (plV x) → 2 * (w : Int) - 7 ≤ z.r → 0 < wv' (plV z) := by
          intro x z hrch
          induction hrch with
          | refl => intro _ _ h2 _; exact h2
          | step hy hyr hya _ ih =>
            intro hx hxr hm hz
            rename_i hrest
            have hyz := rch_round hrest
            refine ih hy (by omega) ?_ hz
            have := hg.cls _ hx hxr hm (by omega) _ hya
            unfold plV
            rw [hyr]; exact this
        exact key hr.1 hLg (Int.le_refl _) (hg.it (by omega)) hr.2
      rcases hg.new (plV g[k]) with h' | ⟨_, h', _⟩
      · omega
      · exact h'
    · rw [if_neg (fun h2 => hh h2.2)]
      rcases hg.new (plV g[k]) with h' | ⟨_, h', _⟩
      · exact h'
      · exfalso
        obtain ⟨h3, h4⟩ := hg.only (Rch g (ldV g ls w)) (fun y hy hp p hpp z hz hzr hza => hp.snoc hz hzr (by rw [hza]; exact hpp)) (.refl _) g[k] (List.getElem_mem hk) e (by omega)
        exact hh ((hit_iff ok h0 hk).2 ⟨h3, h4⟩)
  · rw [if_neg (fun h2 => e h2.1)]
    exact hg.up _ (by omega)
/-- The next wave's start: what has a wave is closed from its floor on. -/
theorem cls_next {w : Nat} {wv : Nat → Nat} (cO : ∀ v ∈ O, 1 ≤ v ∧ 0 ≤ ldZ g ls v) (hlt : ∀ v ∈ O, v < w) (h : WvOk g ls O wv) (n : Int) : ClsO g wv (2 * (w : Int) - 7) n := by
  intro z hz _ hm hf p hp
  obtain ⟨k, hk, rfl⟩ := List.mem_iff_getElem.1 hz
  obtain ⟨x, hx, exr, exa⟩ := ok.par _ hz p hp
  obtain ⟨j, hj, rfl⟩ := List.mem_iff_getElem.1 hx
  rw [h k hk] at hm
  obtain ⟨h1, h2⟩ := ow_find (g := g) (ls := ls) (O := O) (k := k) (by omega)
  have hv := hlt _ h1
  have hr := (hit_iff ok (cO _ h1).2 hk).1 h2
  have hrj : Rch g (ldV g ls (owN g ls O k)) g[j] := hr.1.snoc (List.getElem_mem hj) exr (by rw [exa]; exact hp)
  have hh := (hit_iff ok (cO _ h1).2 hj).2 ⟨hrj, by omega⟩
  have e : plN (g[k].r - 1) p = plV g[j] := by unfold plV; rw [exr, exa]
  rw [e, h j hj]
  have : owN g ls O j ≠ 0 := by
    intro e0
    unfold owN at e0
    cases hf2 : O.find? fun w => hitB g ls w j with
    | none => have := List.find?_eq_none.1 hf2 _ h1; rw [hh] at this; exact this rfl
    | some v =>
      rw [hf2] at e0
      have := (cO v (List.mem_of_find?_eq_some hf2)).1
      simp at e0; omega
  omega
omit ok in
/-- What has the wave of the last of the waves is what that wave orders. -/
theorem wt_seg {w : Nat} {wv : Nat → Nat} {L : List Vx} (h : WvOk g ls O wv) (hs : Srt g) (hL : Wtg g w wv L) : L.Perm (segV g ls O w) := by
  have hnd : (segV g ls O w).Nodup := by
    refine (seg_srt (ls := ls) (O := O) (w := w) hs).imp fun {a b} hab e => ?_
    subst e; exact srtx_irr hab
  refine (List.perm_ext_iff_of_nodup hL.1 hnd).2 fun z => ?_
  rw [hL.2 z, seg_mem]
  constructor
  · rintro ⟨hz, e⟩
    obtain ⟨k, hk, rfl⟩ := List.mem_iff_getElem.1 hz
    exact ⟨k, hk, rfl, by rw [← h k hk]; exact e⟩
  · rintro ⟨k, hk, rfl, e⟩
    exact ⟨List.getElem_mem hk, by rw [h k hk]; exact e⟩
end
/-- Behind the pops: what came out is in order, and all of it. -/
theorem srt_perm {a b : List Vx} (ha : Srt a) (hb : Srt b) (h : a.Perm b) : a = b := srtx_ext ha hb fun _ => h.mem_iff
/-- One more comes out: the least of those left. -/
structure Pops (M T L : List Vx) : Prop where
  prm : (T ++ L).Perm M
  srt : Srt T
  lt : ∀ t ∈ T, ∀ l ∈ L, befB t l = true
theorem pops_start {M L : List Vx} (h : L.Perm M) : Pops M [] L := ⟨by simpa using h, .nil, fun _ h => by cases h⟩
theorem pops_step {M T L L' : List Vx} {n : Nat} (hin : ∀ y ∈ M, inPl y) (hM : Srt M) (h : Pops M T L) (hn : L.length = n + 1) (hh : HpN L (n + 1)) (hq : (L' ++ [L.getD 0 vx0]).Perm L) : Pops M (T ++ [L.getD 0 vx0]) L' := by

  generalize hx : L.getD 0 vx0 = x at *
  have hmem : ∀ z, z ∈ L ↔ z ∈ L' ∨ z = x := fun z => by rw [← hq.mem_iff]; simp
  have hperm : (T ++ [x] ++ L').Perm M := by
    refine List.Perm.trans ?_ h.prm
    rw [List.append_assoc]
    refine List.Perm.append_left T (List.Perm.trans ?_ hq)
    exact List.perm_append_comm
  have hMi : ∀ z ∈ L, z ∈ M := fun z hz => h.prm.mem_iff.1 (List.mem_append.2 (.inr hz))
  have hxL : x ∈ L := (hmem x).2 (.inr rfl)
  have hnd : (T ++ [x] ++ L').Nodup := hperm.nodup_iff.2 (hM.imp fun {a b} hab e => by subst e; exact srtx_irr hab)
  refine ⟨hperm, ?_, fun t ht l hl => ?_⟩
  · unfold Srt
    rw [List.pairwise_append]
    exact ⟨h.srt, by simp, fun a ha b hb => by rw [List.mem_singleton] at hb; subst hb; exact h.lt a ha _ hxL⟩
  · rcases List.mem_append.1 ht with ht | ht
    · exact h.lt t ht l ((hmem l).2 (.inl hl))
    · rw [List.mem_singleton] at ht
      subst ht
      have hlL : l ∈ L := (hmem l).2 (.inl hl)
      obtain ⟨i, hi, e⟩ := List.mem_iff_getElem.1 hlL
      have hmin := hpn_min hh i (by omega)
      have k1 : kyA L i = kyV l := by unfold kyA; rw [getV hi, e]
      have k0 : kyA L 0 = kyV t := by unfold kyA; rw [hx]
      have ne : t ≠ l := by
        intro e2
        subst e2
        rw [List.append_assoc] at hnd
        have := (List.nodup_append.1 (List.nodup_append.1 hnd).2.1).2.2 t (by simp) t hl
        exact this rfl
      have i1 := hin t (hMi _ hxL)
      have i2 := hin l (hMi _ hlL)
      refine (ky_bef i1 i2).2 ?_
      rcases Nat.lt_or_ge (kyV t) (kyV l) with hlt | hge
      · exact hlt
      · exfalso
        have e3 : kyV l = kyV t := by omega
        obtain ⟨e4, e5⟩ := plV_inj i1 i2 (show plV l = plV t from e3)
        exact ne (srt_uni hM (hMi _ hxL) (hMi _ hlL) e4.symm e5.symm)
theorem pops_end {M T : List Vx} (hM : Srt M) (h : Pops M T []) : T = M := srt_perm h.srt hM (by simpa using h.prm)

end Go.Proofs.YtjaacdapibokiabDoor

/- The order of vertices in memory: its struct, the list of those that are ordered, the waves, the list of those that wait; what stays of it when other memory is made or written; no conditions. -/
namespace Go.Proofs.YtjaacdapibokiabDoor
open Go.RowKit

/-- The block of a vertex. -/
def qV (h : Nat → Value) (y : Vx) : Nat := match h (plV y) with | .pointer (some a) => a.block | _ => 0
theorem qV_of {h : Nat → Value} {y : Vx} {q : Nat} (e : h (plN y.r y.a) = ptrV q) : qV h y = q := by
  unfold qV plV; rw [e]; rfl
section
variable {E : TypeId} {w w' : World} {B : Nat} {v : Value} {qs : List Nat}
theorem OwnP.mono {B' : Nat} (h : OwnP E w B v qs) (hB : B' ≤ B) : OwnP E w B' v qs := by
  refine ⟨h.1, ?_⟩
  rcases h.2 with h0 | ⟨g, cap, cur, rfl, hb, hg, rest⟩
  · exact .inl h0
  · exact .inr ⟨g, cap, cur, rfl, by omega, hg, rest⟩
theorem OwnP.same (h : OwnP E w B v qs) (hb : ∀ g, v.ownBlock = some g → w'.heap[g]? = w.heap[g]?) : OwnP E w' B v qs := by
  refine ⟨h.1, ?_⟩
  rcases h.2 with h0 | ⟨g, cap, cur, rfl, hb', hg, rest⟩
  · exact .inl h0
  · exact .inr ⟨g, cap, cur, rfl, hb', (hb g rfl).trans hg, rest⟩
theorem OwnP.row (h : OwnP E w B v qs) (hx : 0 < qs.length) : ∃ g cap, v = .slice (some ⟨g, 0, none⟩) qs.length cap ∧ B ≤ g ∧ g < w.heap.size ∧ qs.length ≤ cap ∧
    (∀ j (h : j < qs.length), w.cell? ⟨g, j, none⟩ = some (ptrV qs[j])) ∧ ∀ j, w.frozen? ⟨g, j, none⟩ = false := by
  rcases h.2 with ⟨rfl, h0⟩ | ⟨g, cap, cur, rfl, hb, hg, hn, hm, hs, ht⟩
  · omega
  · refine ⟨g, cap, rfl, hb, (Array.getElem?_eq_some_iff.1 hg).1, hn, fun j hj => ?_, fun j => frozen_of_row w g j cur E hg⟩
    have hc := World.ownsRow.cells (w := w) (base := B) (e := E) (size := 1) (v := .slice (some ⟨g, 0, none⟩) qs.length cap) (n := qs.length) (xs := qs.map ptrV) h (g := g) rfl j (ptrV qs[j]) (by simp [hj])
    rwa [addr_add] at hc
theorem OwnP.store {g cap n : Nat} (h : OwnP E w B (.slice (some ⟨g, 0, none⟩) n cap) qs) (hn : n = qs.length) (j q : Nat) :
    OwnP E (w.setCell ⟨g, j, none⟩ (ptrV q)) B (.slice (some ⟨g, 0, none⟩) n cap) (qs.set j q) ∧ w.grownBy (w.setCell ⟨g, j, none⟩ (ptrV q)) (some g) := by
  subst hn
  have := World.ownsRow.stored (w := w) (base := B) (e := E) (size := 1) (g := g) (n := qs.length) (cap := cap) h j (ptrV q)
  refine ⟨?_, this.2⟩
  unfold OwnP
  rw [List.map_set, List.length_set]
  exact this.1
theorem OwnP.pop {g cap n : Nat} (h : OwnP E w B (.slice (some ⟨g, 0, none⟩) (n + 1) cap) qs) (hn : qs.length = n + 1) : OwnP E w B (.slice (some ⟨g, 0, none⟩) n cap) qs.dropLast := by
  have hl : qs.dropLast.length = n := by rw [List.length_dropLast, hn]; rfl
  have hne : qs ≠ [] := by intro e; rw [e] at hn; simp at hn
  unfold OwnP at h ⊢
  rw [hl]
  rw [hn] at h
  have e : qs.map ptrV = qs.dropLast.map ptrV ++ [ptrV (qs.getLast hne)] := by
    rw [← List.map_singleton (f := ptrV), ← List.map_append, List.dropLast_concat_getLast hne]
  rw [e] at h
  exact ownsRow_pop (size := 1) (by rw [List.length_map, hl, Nat.mul_one]) h
end
theorem Below.str {B0 : Nat} {w w' : World} {B : Nat} {t : TypeId} {vs : Array Value} (hb : Below B0 w w') (h : Str w B t vs) (hl : B < B0) : Str w' B t vs := (hb.block B hl).trans h

/-- The cells of an order. -/
def ordF (vs wt : Value) (wv : Nat → Nat) : Nat → Value := fun i => if i = 0 then vs else if i = 218 then wt else .int .i64 (wv i)
def ordA (vs wt : Value) (wv : Nat → Nat) : Array Value := arrP 219 (ordF vs wt wv)
theorem ordA_vs (vs wt : Value) (wv : Nat → Nat) : (ordA vs wt wv)[0]? = some vs := by unfold ordA; rw [arrP_get (by omega)]; rfl
theorem ordA_wt (vs wt : Value) (wv : Nat → Nat) : (ordA vs wt wv)[218]? = some wt := by unfold ordA; rw [arrP_get (by omega)]; rfl
theorem ordA_wv (vs wt : Value) (wv : Nat → Nat) {i : Nat} (h0 : 1 ≤ i) (h1 : i < 218) : (ordA vs wt wv)[i]? = some (.int .i64 (wv i)) := by
  unfold ordA; rw [arrP_get (by omega)]; unfold ordF; rw [if_neg (by omega), if_neg (by omega)]
theorem ordA_setVs (vs wt : Value) (wv : Nat → Nat) (v : Value) : (ordA vs wt wv).setIfInBounds 0 v = ordA v wt wv := by
  unfold ordA; rw [arrP_set]; congr 1; funext i; unfold ordF
  by_cases h : i = 0
  · simp [h]
  · simp [h]
theorem ordA_setWt (vs wt : Value) (wv : Nat → Nat) (v : Value) : (ordA vs wt wv).setIfInBounds 218 v = ordA vs v wv := by
  unfold ordA; rw [arrP_set]; congr 1; funext i; unfold ordF
  by_cases h : i = 218
  · simp [h]
  · simp [h]
theorem ordA_setWv (vs wt : Value) (wv : Nat → Nat) (i W : Nat) (h0 : 1 ≤ i) (h1 : i < 218) : (ordA vs wt wv).setIfInBounds i (.int .i64 (W : Nat)) = ordA vs wt (setO wv i W) := by
  unfold ordA; rw [arrP_set]; congr 1; funext j; unfold ordF setO
  by_cases h : j = i
  · subst h; simp; rw [if_neg (by omega), if_neg (by omega)]
  · simp [h]

/-- All below hi stays, but for block B. -/
structure Bx (hi B : Nat) (w w' : World) : Prop where
  os : w'.os = w.os
  tape : w'.tape = w.tape
  output : w'.output = w.output
  size : w.heap.size ≤ w'.heap.size
  block : ∀ k, k < hi → k ≠ B → w'.heap[k]? = w.heap[k]?
theorem Bx.refl (hi B : Nat) (w : World) : Bx hi B w w := ⟨rfl, rfl, rfl, Nat.le_refl _, fun _ _ _ => rfl⟩
theorem Bx.trans {hi B : Nat} {a b c : World} (h : Bx hi B a b) (k : Bx hi B b c) : Bx hi B a c :=
  ⟨k.os.trans h.os, k.tape.trans h.tape, k.output.trans h.output, Nat.le_trans h.size k.size, fun i hi' hb => (k.block i hi' hb).trans (h.block i hi' hb)⟩
theorem Bx.of {s hi B : Nat} {w w' : World} (h : Below s w w') (hs : hi ≤ s) : Bx hi B w w' := ⟨h.os, h.tape, h.output, h.size, fun k hk _ => h.block k (Nat.lt_of_lt_of_le hk hs)⟩
theorem Bx.drew {hi B : Nat} {a w : World} (h : Bx hi B a w) : Bx hi B a w.drew := ⟨h.os, h.tape, h.output, h.size, h.block⟩
theorem Bx.setCell {hi B : Nat} {a w : World} (h : Bx hi B a w) {p : Addr} (hp : hi ≤ p.block ∨ p.block = B) (u : Value) : Bx hi B a (w.setCell p u) := by
  refine ⟨h.os, h.tape, h.output, by rw [World.size_setCell]; exact h.size, fun k hk hb => ?_⟩
  rw [Below.heap_setCell w p u k (fun e => by subst e; omega)]
  exact h.block k hk hb
theorem Bx.grown {hi B : Nat} {a w w' : World} {row : Option Nat} (h : Bx hi B a w) (hg : w.grownBy w' row) (hz : hi ≤ w.heap.size) (hr : ∀ k, row = some k → hi ≤ k) : Bx hi B a w' :=
  ⟨hg.os.trans h.os, hg.tape.trans h.tape, hg.output.trans h.output, Nat.le_trans h.size hg.size, fun k hk hb => (hg.block k (Nat.lt_of_lt_of_le hk hz) (fun e => by have := hr k e.symm; omega)).trans (h.block k hk hb)⟩
theorem Bx.low {lo hi B : Nat} {w w' : World} (h : Bx hi B w w') (h1 : lo ≤ hi) (h2 : lo ≤ B) : Below lo w w' := ⟨h.os, h.tape, h.output, h.size, fun k hk => h.block k (by omega) (by omega)⟩

/-- An order in memory: T is ordered, wv are the waves, L waits. -/
structure Oq (w : World) (lo hi B : Nat) (h : Nat → Value) (vs wt : Value) (T : List Vx) (wv : Nat → Nat) (L : List Vx) : Prop where
  hB : lo ≤ B
  hl : lo ≤ hi
  hz : hi ≤ w.heap.size
  st : Str w B 56 (ordA vs wt wv)
  ov : OwnP 57 w hi vs (T.map (qV h))
  ow : OwnP 57 w hi wt (L.map (qV h))
  nv : vs.ownBlock ≠ some B
  nw : wt.ownBlock ≠ some B
  ne : ∀ b, vs.ownBlock = some b → wt.ownBlock ≠ some b
section
variable {w w' : World} {lo hi B : Nat} {h : Nat → Value} {vs wt : Value} {T L : List Vx} {wv : Nat → Nat}
theorem Oq.lt (o : Oq w lo hi B h vs wt T wv L) : B < w.heap.size := o.st.lt
theorem Oq.cvs (o : Oq w lo hi B h vs wt T wv L) : w.cell? ⟨B, 0, none⟩ = some vs := o.st.cell 0 (ordA_vs _ _ _)
theorem Oq.cwt (o : Oq w lo hi B h vs wt T wv L) : w.cell? ⟨B, 218, none⟩ = some wt := o.st.cell 218 (ordA_wt _ _ _)
theorem Oq.cwv (o : Oq w lo hi B h vs wt T wv L) {i : Nat} (h0 : 1 ≤ i) (h1 : i < 218) : w.cell? ⟨B, i, none⟩ = some (.int .i64 (wv i)) := o.st.cell i (ordA_wv _ _ _ h0 h1)
theorem Oq.kept (o : Oq w lo hi B h vs wt T wv L) (hg : w.grownBy w' none) : Oq w' lo hi B h vs wt T wv L :=
  ⟨o.hB, o.hl, Nat.le_trans o.hz hg.size, o.st.kept hg (by simp), o.ov.kept hg (by cases hv : vs.ownBlock <;> simp), o.ow.kept hg (by cases hv : wt.ownBlock <;> simp), o.nv, o.nw, o.ne⟩
theorem Oq.below (o : Oq w lo hi B h vs wt T wv L) (hb : Below w.heap.size w w') : Oq w' lo hi B h vs wt T wv L := o.kept (below_grown hb)
theorem Oq.drew (o : Oq w lo hi B h vs wt T wv L) : Oq w.drew lo hi B h vs wt T wv L := o.below (Below.refl _ _).drew
/-- A wave is written. -/
theorem Oq.setWv (o : Oq w lo hi B h vs wt T wv L) (i W : Nat) (h0 : 1 ≤ i) (h1 : i < 218) : Oq (w.setCell ⟨B, i, none⟩ (.int .i64 (W : Nat))) lo hi B h vs wt T (setO wv i W) L := by
  have hg := grownBy_set w B i (.int .i64 (W : Nat))
  refine ⟨o.hB, o.hl, Nat.le_trans o.hz hg.size, ?_, o.ov.kept hg (.inr o.nv), o.ow.kept hg (.inr o.nw), o.nv, o.nw, o.ne⟩
  have := o.st.set i (.int .i64 (W : Nat))
  rwa [ordA_setWv _ _ _ _ _ h0 h1] at this
/-- Two that wait are changed. -/
theorem Oq.swap {g cap n : Nat} (o : Oq w lo hi B h vs (.slice (some ⟨g, 0, none⟩) n cap) T wv L) (hn : n = L.length) (i j : Nat) (_hi' : i < L.length) (_hj : j < L.length) :
    Oq ((w.setCell ⟨g, i, none⟩ (ptrV (qV h (L.getD j vx0)))).setCell ⟨g, j, none⟩ (ptrV (qV h (L.getD i vx0)))) lo hi B h vs (.slice (some ⟨g, 0, none⟩) n cap) T wv (swpL L i j) := by
  have hgB : g ≠ B := fun e => o.nw (by rw [e]; rfl)
  obtain ⟨s1, g1⟩ := o.ow.store (by rw [List.length_map]; exact hn) i (qV h (L.getD j vx0))
  obtain ⟨s2, g2⟩ := s1.store (by rw [List.length_set, List.length_map]; exact hn) j (qV h (L.getD i vx0))
  refine ⟨o.hB, o.hl, Nat.le_trans o.hz (Nat.le_trans g1.size g2.size), (o.st.kept g1 (by simpa using fun e => hgB e.symm)).kept g2 (by simpa using fun e => hgB e.symm), (o.ov.kept g1 ?_).kept g2 ?_, ?_, o.nv, o.nw, o.ne⟩
  · cases hv : vs.ownBlock with
    | none => exact .inl rfl
    | some b => exact .inr fun e => o.ne b hv (by rw [e]; rfl)
  · cases hv : vs.ownBlock with
    | none => exact .inl rfl
    | some b => exact .inr fun e => o.ne b hv (by rw [e]; rfl)
  · unfold swpL
    rw [List.map_set, List.map_set]
    exact s2
/-- The last one that waits is struck. -/
theorem Oq.pop {g cap n : Nat} (o : Oq w lo hi B h vs (.slice (some ⟨g, 0, none⟩) (n + 1) cap) T wv L) (hn : L.length = n + 1) :
    Oq (w.setCell ⟨B, 218, none⟩ (.slice (some ⟨g, 0, none⟩) n cap)) lo hi B h vs (.slice (some ⟨g, 0, none⟩) n cap) T wv L.dropLast := by
  have hg := grownBy_set w B 218 (.slice (some ⟨g, 0, none⟩) n cap)
  have hnw : (Value.slice (some ⟨g, 0, none⟩) n cap).ownBlock ≠ some B := o.nw
  refine ⟨o.hB, o.hl, Nat.le_trans o.hz hg.size, ?_, o.ov.kept hg (.inr o.nv), ?_, o.nv, hnw, o.ne⟩
  · have := o.st.set 218 (.slice (some ⟨g, 0, none⟩) n cap)
    rwa [ordA_setWt] at this
  · have h1 := o.ow.pop (by rw [List.length_map]; exact hn)
    rw [← List.map_dropLast] at h1
    exact h1.kept hg (.inr hnw)
/-- One more waits: behind the append and the store. -/
theorem Oq.pushW {w1 : World} {wt' : Value} {y : Vx} {q : Nat} (o : Oq w lo hi B h vs wt T wv L) (hq : qV h y = q) (h1 : OwnP 57 w1 hi wt' (L.map (qV h) ++ [q])) (hg : w.grownBy w1 wt.ownBlock) (hl : ∀ g, wt'.ownBlock = some g → wt.ownBlock = some g ∨ w.heap.size ≤ g) :
    Oq (w1.setCell ⟨B, 218, none⟩ wt') lo hi B h vs wt' T wv (L ++ [y]) := by
  have hg2 := grownBy_set w1 B 218 wt'
  have hnw : wt'.ownBlock ≠ some B := fun e => by
    rcases hl B e with h | h
    · exact o.nw h
    · have := o.lt; omega
  have hvl : ∀ b, vs.ownBlock = some b → b < w.heap.size := fun b e => (World.ownsRow.lt o.ov b e).2
  refine ⟨o.hB, o.hl, Nat.le_trans o.hz (Nat.le_trans hg.size hg2.size), ?_, (o.ov.kept hg ?_).kept hg2 (.inr o.nv), ?_, o.nv, hnw, fun b e e2 => ?_⟩
  · have := (o.st.kept hg (fun e => o.nw e.symm)).set 218 wt'
    rwa [ordA_setWt] at this
  · cases hv : vs.ownBlock with
    | none => exact .inl rfl
    | some b => exact .inr fun e => o.ne b hv (by rw [← e])
  · rw [List.map_append, List.map_singleton, hq]
    exact h1.kept hg2 (.inr hnw)
  · rcases hl b e2 with h3 | h3
    · exact o.ne b e h3
    · have := hvl b e; omega
/-- One more is ordered: behind the append and the store. -/
theorem Oq.pushV {w1 : World} {vs' : Value} {y : Vx} {q : Nat} (o : Oq w lo hi B h vs wt T wv L) (hq : qV h y = q) (h1 : OwnP 57 w1 hi vs' (T.map (qV h) ++ [q])) (hg : w.grownBy w1 vs.ownBlock) (hl : ∀ g, vs'.ownBlock = some g → vs.ownBlock = some g ∨ w.heap.size ≤ g) :
    Oq (w1.setCell ⟨B, 0, none⟩ vs') lo hi B h vs' wt (T ++ [y]) wv L := by
  have hg2 := grownBy_set w1 B 0 vs'
  have hnv : vs'.ownBlock ≠ some B := fun e => by
    rcases hl B e with h | h
    · exact o.nv h
    · have := o.lt; omega
  have hwl : ∀ b, wt.ownBlock = some b → b < w.heap.size := fun b e => (World.ownsRow.lt o.ow b e).2
  refine ⟨o.hB, o.hl, Nat.le_trans o.hz (Nat.le_trans hg.size hg2.size), ?_, ?_, (o.ow.kept hg ?_).kept hg2 (.inr o.nw), hnv, o.nw, fun b e e2 => ?_⟩
  · have := (o.st.kept hg (fun e => o.nv e.symm)).set 0 vs'
    rwa [ordA_setVs] at this
  · rw [List.map_append, List.map_singleton, hq]
    exact h1.kept hg2 (.inr hnv)
  · cases hw : wt.ownBlock with
    | none => exact .inl rfl
    | some b => exact .inr fun e => o.ne b (by rw [← e]) hw
  · rcases hl b e with h3 | h3
    · exact o.ne b h3 e2
    · have := hwl b e2; omega
end

end Go.Proofs.YtjaacdapibokiabDoor

/- A graph of pointers while an order beside it changes: it stays as it was; its vertices by their blocks. -/
namespace Go.Proofs.YtjaacdapibokiabDoor
open Go.RowKit

theorem Nd.low {w0 w w' : World} {hi G q : Nat} {h : Nat → Value} {y : Vx} (n : Nd w0 w hi G h q y) (hb : Below hi w w') : Nd w0 w' hi G h q y := by
  obtain ⟨pa, pc, pv, qs, s, i, c, o, ob, l, p⟩ := n.ex
  exact ⟨n.lo, n.lt, n.ne, pa, pc, pv, qs, (hb.block _ n.lt).trans s, i, c, o.same fun g e => hb.block g (ob g e).2, ob, l, p⟩
theorem Lk.low {w0 w w' : World} {hi G : Nat} {mv : Value} {h : Nat → Value} {g : List Vx} (l : Lk w0 w hi G mv h g) (hb : Below hi w w') : Lk w0 w' hi G mv h g :=
  ⟨l.lo, l.lt, Nat.le_trans l.le hb.size, (hb.block _ l.lt).trans l.str, l.mem, fun y hy => by
    obtain ⟨q, e, n⟩ := l.has y hy
    exact ⟨q, e, n.low hb⟩, l.non⟩
/-- A vertex's struct, by its block. -/
def Vs (w : World) (hi : Nat) (h : Nat → Value) (y : Vx) : Prop := ∃ pa pc pv, Str w (qV h y) 59 #[.int .i64 y.r, .int .i64 y.a, .slice pa y.ps.length pc, .int .i64 y.d, pv] ∧ qV h y < hi
theorem Lk.vs {w0 w : World} {hi G : Nat} {mv : Value} {h : Nat → Value} {g : List Vx} (l : Lk w0 w hi G mv h g) {y : Vx} (hy : y ∈ g) : Vs w hi h y ∧ h (plN y.r y.a) = ptrV (qV h y) := by
  obtain ⟨q, e, n⟩ := l.has y hy
  have e2 := qV_of e
  obtain ⟨pa, pc, pv, qs, s, _⟩ := n.ex
  exact ⟨⟨pa, pc, pv, by rw [e2]; exact s, by rw [e2]; exact n.lt⟩, by rw [e2]; exact e⟩
theorem Vs.low {w w' : World} {hi : Nat} {h : Nat → Value} {y : Vx} (v : Vs w hi h y) (hb : Below hi w w') : Vs w' hi h y := by
  obtain ⟨pa, pc, pv, s, hl⟩ := v
  exact ⟨pa, pc, pv, (hb.block _ hl).trans s, hl⟩
/-- All the vertices of a list. -/
def VsA (w : World) (hi : Nat) (h : Nat → Value) (g : List Vx) : Prop := ∀ y ∈ g, Vs w hi h y
theorem VsA.low {w w' : World} {hi : Nat} {h : Nat → Value} {g : List Vx} (v : VsA w hi h g) (hb : Below hi w w') : VsA w' hi h g := fun y hy => (v y hy).low hb
theorem Lk.vsA {w0 w : World} {hi G : Nat} {mv : Value} {h : Nat → Value} {g : List Vx} (l : Lk w0 w hi G mv h g) : VsA w hi h g := fun _ hy => (l.vs hy).1

end Go.Proofs.YtjaacdapibokiabDoor

/- A region that draws its order and stores twice: a condition on the world is kept up to the first store; behind it each operation comes up alone. General steps; nothing here speaks of the program. -/
namespace Go.Proofs.YtjaacdapibokiabDoor
open Go.RowKit

section
variable {P : Program} {md : Region.Mode} {ops : Array Oper} {Q : Exit → Act → World → Prop} {S : World → Prop} {m : Nat}
theorem firstP {i : Nat} {oi : Oper} {v : Value} (hi : ops[i]? = some oi) (hsel : ∀ (j : Nat) (o : Oper) cs b, ops[j]? = some o → o.op ≠ .select cs b)
    (hQ : ∀ c a w, Q (.panic c) (a.put oi.dst v) w → Q (.panic c) a w) (him : i ≠ m) (fuel : Nat) :
    ∀ (listed : Array Bool) (a : Act) (w : World), FreeAt md ops oi i listed → i ∈ Region.ready md ops listed → YieldsIf P ops (fun _ => True) oi v a → (listed.getD m true = false → S w) →
      wpAnyL P md ops Q m S fuel (listed.setIfInBounds i true) (a.put oi.dst v) w → wpAnyL P md ops Q m S (fuel + 1) listed a w := by
  induction fuel with
  | zero =>
    intro listed a w _ hr hy hS H
    refine ⟨fun h => absurd hr (by rw [h]; simp), fun j hj => ?_⟩
    rcases Nat.decEq j i with hji | rfl
    · exact absurd (ready_mono hj hji) (by rw [H.1]; simp)
    · exact hy.wpOp hi trivial ⟨fun e => hS (by rwa [getD_set_ne true him] at e), H⟩
  | succ fuel ih =>
    intro listed a w hfree hr hy hS H
    refine ⟨fun h => absurd hr (by rw [h]; simp), fun j hj => ?_⟩
    rcases Nat.decEq j i with hji | rfl
    · obtain ⟨hjun, oj, hoj, hno⟩ := ready_pair hr hj
      refine wpOp_mono (fun a' w' h3 => ?_) (wpOp_putIf hoj (hfree j oj hoj hji hjun hno) (fun cs b => hsel i oi cs b hi) (fun cs b => hsel j oj cs b hoj) hQ hy (H.2 j (ready_mono hj hji)))
      have hS' : (listed.setIfInBounds j true).getD m true = false → S w' := fun e => h3.2.1 (by rw [Array.setIfInBounds_comm _ _ (Ne.symm hji), getD_set_ne true him]; exact e)
      exact ⟨hS', ih _ a' w' (hfree.set hjun) (ready_mono hr (Ne.symm hji)) h3.1 hS' (by rw [Array.setIfInBounds_comm _ _ hji]; exact h3.2.2)⟩
    · exact hy.wpOp hi trivial ⟨fun e => hS (by rwa [getD_set_ne true him] at e), H⟩
end

section
variable {P : Program} {md : Region.Mode} {l : List Oper} {Q : Exit → Act → World → Prop} {S : World → Prop} {oi : Oper} {rest : List Oper} {fuel m : Nat} {listed : Array Bool} {a : Act} {w : World}
/-- Take number i first: it yields v in every world, whether or not the first store has come up. -/
theorem takeP (i : Nat) {v : Value} (hi : l.drop i = oi :: rest) (hs : Region.noSelect l.toArray = true) (hf : Region.free md l.toArray listed i = true) (hr : (Region.ready md l.toArray listed).contains i = true) (him : (i != m) = true)
    (hQ : ∀ c a w, Q (.panic c) (a.put oi.dst v) w → Q (.panic c) a w) (hS : S w) (hw : Region.wanted oi (yielded l.toArray a.tmps) = true)
    (hy : ∀ w, (execOp a.eval oi).run P w = .ok (.value v) w)
    (h : wpAnyL P md l.toArray Q m S fuel (listed.setIfInBounds i true) (a.put oi.dst v) w) : wpAnyL P md l.toArray Q m S (fuel + 1) listed a w :=
  firstP (drop_at hi) (Region.noSelect_spec hs) hQ (by simpa using him) fuel listed a w (Region.free_spec (drop_at hi) hf) (by simpa using hr) (.inl ⟨hw, fun w _ => hy w⟩) (fun _ => hS) h
/-- Number i alone may come up; it is the first store, or the first store has come up: nothing is asked behind it. -/
theorem aloneL (i : Nat) (hi : l.drop i = oi :: rest) (hr : Region.ready md l.toArray listed = [i]) (hm : (listed.setIfInBounds i true).getD m true = true) (hw : Region.wanted oi (yielded l.toArray a.tmps) = true)
    (h : ∀ K' : Act → World → Prop, Shut (∀ a w, wpAnyL P md l.toArray Q m S fuel (listed.setIfInBounds i true) a w → K' a w) → Oper.wp P oi a w K' Q) : wpAnyL P md l.toArray Q m S (fuel + 1) listed a w := by
  refine ⟨fun h0 => absurd (hr ▸ h0) (by simp), fun j hj => ?_⟩
  rw [hr] at hj
  have : j = i := by simpa using hj
  subst this
  exact wpOp_step (drop_at hi) fun K' hK => by rw [if_pos hw]; exact h K' fun a w hW => hK a w ⟨fun e => absurd (hm.symm.trans e) (by simp), hW⟩
/-- Nothing is left. -/
theorem endL (hr : Region.ready md l.toArray listed = []) (h : Q .normal a w) : wpAnyL P md l.toArray Q m S fuel listed a w := by
  cases fuel with
  | zero => exact ⟨hr, h⟩
  | succ f => exact ⟨fun _ => h, by rw [hr]; simp⟩
end

end Go.Proofs.YtjaacdapibokiabDoor

/- The methods of the heap of waiting vertices, each by a walk of its text, and the calls of them through the interface; no conditions but that the list is shorter than 2^40. -/
namespace Go.Proofs.YtjaacdapibokiabDoor
open Go.RowKit

theorem wait_Len (a : Option Addr) (n cap : Nat) (w : World) : Calls Tryd.prog 50 #[.slice a n cap] w fun e w' => e = .returned (.int .i64 n) ∧ w = w' := by
  go_enter Tryd.func50, Tryd.ntmps50
  go_wp2
  go_ret
  exact ⟨rfl, rfl⟩

set_option maxRecDepth 8000 in
set_option maxHeartbeats 1000000 in
theorem wait_Less {w : World} {lo hi B : Nat} {h : Nat → Value} {vs : Value} {T L : List Vx} {wv : Nat → Nat} {a : Option Addr} {n cap : Nat} (o : Oq w lo hi B h vs (.slice a n cap) T wv L) (hv : VsA w lo h L) (i j : Nat) (hn : n = L.length) (hi' : i < L.length) (hj : j < L.length) (hL : L.length ≤ 1099511627776) :
    Calls Tryd.prog 104 #[.slice a n cap, .int .i64 i, .int .i64 j] w fun e w' => e = .returned (.bool (befB (L.getD i vx0) (L.getD j vx0))) ∧ Below w.heap.size w w' := by
  subst hn
  obtain ⟨gb, cap', ep, _, _, _, hcell, _⟩ := o.ow.row (by rw [List.length_map]; omega)
  simp only [Value.slice.injEq, List.length_map, true_and] at ep
  obtain ⟨rfl, rfl⟩ := ep
  have ci := hcell i (by rw [List.length_map]; exact hi')
  have cj := hcell j (by rw [List.length_map]; exact hj)
  rw [List.getElem_map] at ci cj
  obtain ⟨pa, pc, pv, s1, _⟩ := hv L[i] (List.getElem_mem hi')
  obtain ⟨pa', pc', pv', s2, _⟩ := hv L[j] (List.getElem_mem hj)
  rw [getV hi', getV hj]
  generalize hx : L[i] = x at *
  generalize hy : L[j] = y at *
  generalize hq1 : qV h x = q1 at *
  generalize hq2 : qV h y = q2 at *
  unfold ptrV at ci cj
  have hi1 : (i : Int) < (L.length : Int) := by omega
  have hj1 : (j : Int) < (L.length : Int) := by omega
  have c0 := s1.cell 0 (v := .int .i64 x.r) rfl
  have c1 := s1.cell 1 (v := .int .i64 x.a) rfl
  have c2 := s1.cell 2 (v := .slice pa x.ps.length pc) rfl
  have c3 := s1.cell 3 (v := .int .i64 x.d) rfl
  have d0 := s2.cell 0 (v := .int .i64 y.r) rfl
  have d1 := s2.cell 1 (v := .int .i64 y.a) rfl
  have d2 := s2.cell 2 (v := .slice pa' y.ps.length pc') rfl
  have d3 := s2.cell 3 (v := .int .i64 y.d) rfl
  have HB := Lib.hid (fun W => vertex_isBefore x y pa pa' pc pc' W)
  have hgl := World.block_lt_of_cell? _ _ ci
  have hq1l := s1.lt
  have hq2l := s2.lt
  generalize befB x y = bb at *
  obtain ⟨xr, xa, xp, xd⟩ := x
  obtain ⟨yr, ya, yp, yd⟩ := y
  dsimp only at *
  clear o hv hcell s1 s2 hx hy hq1 hq2
  go_enter Tryd.func104, Tryd.ntmps104
  go_wp2_with fail
  refine wp_region_held_drew (S := fun W => Below w.heap.size w W ∧ W.cell? ⟨gb, i, none⟩ = some (.pointer (some ⟨q1, 0, none⟩)) ∧ W.cell? ⟨gb, j, none⟩ = some (.pointer (some ⟨q2, 0, none⟩)) ∧ W.cell? ⟨q1, 0, none⟩ = some (.int .i64 xr) ∧ W.cell? ⟨q1, 1, none⟩ = some (.int .i64 xa) ∧ W.cell? ⟨q1, 2, none⟩ = some (.slice pa xp.length pc) ∧ W.cell? ⟨q1, 3, none⟩ = some (.int .i64 xd) ∧ W.cell? ⟨q2, 0, none⟩ = some (.int .i64 yr) ∧ W.cell? ⟨q2, 1, none⟩ = some (.int .i64 ya) ∧ W.cell? ⟨q2, 2, none⟩ = some (.slice pa' yp.length pc') ∧ W.cell? ⟨q2, 3, none⟩ = some (.int .i64 yd)) (by kernel_rfl) ⟨(Below.refl _ _).drew, ci, cj, c0, c1, c2, c3, d0, d1, d2, d3⟩ (fun hH => ?_)
  refine takeH 0 (v := ?vls1) rfl (by kernel_rfl) (by kernel_rfl) (by kernel_rfl) (fun _ _ _ h => h) hH rfl ?yls1 ?rls1
  case yls1 => intro W hSw; go_simp; try with_reducible rfl
  try simp only [Act.put, List.setIfInBounds_toArray, List.set_cons_zero, List.set_cons_succ]
  refine takeH 1 (v := ?vls2) rfl (by kernel_rfl) (by kernel_rfl) (by kernel_rfl) (fun _ _ _ h => h) hH rfl ?yls2 ?rls2
  case yls2 => intro W hSw; go_simp; try with_reducible rfl
  try simp only [Act.put, List.setIfInBounds_toArray, List.set_cons_zero, List.set_cons_succ]
  refine takeH 2 (v := ?vls3) rfl (by kernel_rfl) (by kernel_rfl) (by kernel_rfl) (fun _ _ _ h => h) hH rfl ?yls3 ?rls3
  case yls3 => intro W hSw; go_simp; try with_reducible rfl
  try simp only [Act.put, List.setIfInBounds_toArray, List.set_cons_zero, List.set_cons_succ]
  refine takeH 3 (v := ?vls4) rfl (by kernel_rfl) (by kernel_rfl) (by kernel_rfl) (fun _ _ _ h => h) hH rfl ?yls4 ?rls4
  case yls4 => intro W hSw; go_simp; try with_reducible rfl
  try simp only [Act.put, List.setIfInBounds_toArray, List.set_cons_zero, List.set_cons_succ]
  refine takeH 4 (v := ?vls5) rfl (by kernel_rfl) (by kernel_rfl) (by kernel_rfl) (fun _ _ _ h => h) hH rfl ?yls5 ?rls5
  case yls5 => intro W hSw; go_simp; try with_reducible rfl
  try simp only [Act.put, List.setIfInBounds_toArray, List.set_cons_zero, List.set_cons_succ]
  refine takeH 5 (v := ?vls6) rfl (by kernel_rfl) (by kernel_rfl) (by kernel_rfl) (fun _ _ _ h => h) hH rfl ?yls6 ?rls6
  case yls6 => intro W hSw; go_simp; try with_reducible rfl
  try simp only [Act.put, List.setIfInBounds_toArray, List.set_cons_zero, List.set_cons_succ]
  refine takeH 6 (v := ?vls7) rfl (by kernel_rfl) (by kernel_rfl) (by kernel_rfl) (fun _ _ _ h => h) hH rfl ?yls7 ?rls7
  case yls7 => intro W hSw; go_simp; try with_reducible rfl
  try simp only [Act.put, List.setIfInBounds_toArray, List.set_cons_zero, List.set_cons_succ]
  refine takeH 7 (v := ?vls8) rfl (by kernel_rfl) (by kernel_rfl) (by kernel_rfl) (fun _ _ _ h => h) hH rfl ?yls8 ?rls8
  case yls8 => intro W hSw; go_simp; try with_reducible rfl
  try simp only [Act.put, List.setIfInBounds_toArray, List.set_cons_zero, List.set_cons_succ]
  refine takeH 8 (v := ?vls9) rfl (by kernel_rfl) (by kernel_rfl) (by kernel_rfl) (fun _ _ _ h => h) hH rfl ?yls9 ?rls9
  case yls9 => intro W hSw; go_simp; try with_reducible rfl
  try simp only [Act.put, List.setIfInBounds_toArray, List.set_cons_zero, List.set_cons_succ]
  refine takeH 9 (v := ?vls10) rfl (by kernel_rfl) (by kernel_rfl) (by kernel_rfl) (fun _ _ _ h => h) hH rfl ?yls10 ?rls10
  case yls10 => intro W hSw; go_simp; try with_reducible rfl
  try simp only [Act.put, List.setIfInBounds_toArray, List.set_cons_zero, List.set_cons_succ]
  refine takeH 10 (v := ?vls11) rfl (by kernel_rfl) (by kernel_rfl) (by kernel_rfl) (fun _ _ _ h => h) hH rfl ?yls11 ?rls11
  case yls11 => intro W hSw; go_simp; try with_reducible rfl
  try simp only [Act.put, List.setIfInBounds_toArray, List.set_cons_zero, List.set_cons_succ]
  refine takeH 11 (v := ?vls12) rfl (by kernel_rfl) (by kernel_rfl) (by kernel_rfl) (fun _ _ _ h => h) hH rfl ?yls12 ?rls12
  case yls12 => intro W hSw; go_simp; try with_reducible rfl
  try simp only [Act.put, List.setIfInBounds_toArray, List.set_cons_zero, List.set_cons_succ]
  refine takeH 12 (v := ?vls13) rfl (by kernel_rfl) (by kernel_rfl) (by kernel_rfl) (fun _ _ _ h => h) hH rfl ?yls13 ?rls13
  case yls13 => intro W hSw; go_simp; try with_reducible rfl
  try simp only [Act.put, List.setIfInBounds_toArray, List.set_cons_zero, List.set_cons_succ]
  refine takeH 13 (v := ?vls14) rfl (by kernel_rfl) (by kernel_rfl) (by kernel_rfl) (fun _ _ _ h => h) hH rfl ?yls14 ?rls14
  case yls14 => intro W hSw; go_simp; try with_reducible rfl
  try simp only [Act.put, List.setIfInBounds_toArray, List.set_cons_zero, List.set_cons_succ]
  refine callH 14 rfl (by kernel_rfl) rfl (fun K hK => ?_)
  go_simp
  go_at_call 59
  refine (HB.out _).mono ?_
  rintro e wz ⟨rfl, hbz⟩
  refine hK.out _ _ ⟨below_step hH.1 hH.1.size hbz, (hbz.cell (p := ⟨gb, i, none⟩) (Nat.lt_of_lt_of_le hgl hH.1.size)).trans hH.2.1, (hbz.cell (p := ⟨gb, j, none⟩) (Nat.lt_of_lt_of_le hgl hH.1.size)).trans hH.2.2.1, (hbz.cell (p := ⟨q1, 0, none⟩) (Nat.lt_of_lt_of_le hq1l hH.1.size)).trans hH.2.2.2.1, (hbz.cell (p := ⟨q1, 1, none⟩) (Nat.lt_of_lt_of_le hq1l hH.1.size)).trans hH.2.2.2.2.1, (hbz.cell (p := ⟨q1, 2, none⟩) (Nat.lt_of_lt_of_le hq1l hH.1.size)).trans hH.2.2.2.2.2.1, (hbz.cell (p := ⟨q1, 3, none⟩) (Nat.lt_of_lt_of_le hq1l hH.1.size)).trans hH.2.2.2.2.2.2.1, (hbz.cell (p := ⟨q2, 0, none⟩) (Nat.lt_of_lt_of_le hq2l hH.1.size)).trans hH.2.2.2.2.2.2.2.1, (hbz.cell (p := ⟨q2, 1, none⟩) (Nat.lt_of_lt_of_le hq2l hH.1.size)).trans hH.2.2.2.2.2.2.2.2.1, (hbz.cell (p := ⟨q2, 2, none⟩) (Nat.lt_of_lt_of_le hq2l hH.1.size)).trans hH.2.2.2.2.2.2.2.2.2.1, (hbz.cell (p := ⟨q2, 3, none⟩) (Nat.lt_of_lt_of_le hq2l hH.1.size)).trans hH.2.2.2.2.2.2.2.2.2.2⟩ (fun hH => ?_)
  clear hK K
  try simp only [Act.put, List.setIfInBounds_toArray, List.set_cons_zero, List.set_cons_succ]
  refine takeH 15 (v := ?vls15) rfl (by kernel_rfl) (by kernel_rfl) (by kernel_rfl) (fun _ _ _ h => h) hH rfl ?yls15 ?rls15
  case yls15 => intro W hSw; go_simp; try with_reducible rfl
  try simp only [Act.put, List.setIfInBounds_toArray, List.set_cons_zero, List.set_cons_succ]
  have Hbz := Lib.hid hH.1
  refine wpAnyH_done (by kernel_rfl) ?_ _
  try simp only [Act.put]
  clear hH
  go_wp2
  go_ret
  exact ⟨rfl, Hbz.out⟩

set_option maxRecDepth 8000 in
set_option maxHeartbeats 1000000 in
theorem wait_Swap {w : World} {lo hi B : Nat} {h : Nat → Value} {vs : Value} {T L : List Vx} {wv : Nat → Nat} {a : Option Addr} {n cap : Nat} (o : Oq w lo hi B h vs (.slice a n cap) T wv L) (i j : Nat) (hn : n = L.length) (hi' : i < L.length) (hj : j < L.length) (hL : L.length ≤ 1099511627776) :
    Calls Tryd.prog 105 #[.slice a n cap, .int .i64 i, .int .i64 j] w fun e w' => e = .returned (.tuple #[]) ∧ Oq w' lo hi B h vs (.slice a n cap) T wv (swpL L i j) ∧ Bx hi B w w' := by
  obtain ⟨gb, cap', ep, hgh, hgl, _, hcell, hfr⟩ := o.ow.row (by rw [List.length_map]; omega)
  simp only [Value.slice.injEq, List.length_map] at ep
  obtain ⟨rfl, rfl, rfl⟩ := ep
  have ci := hcell i (by rw [List.length_map]; exact hi')
  have cj := hcell j (by rw [List.length_map]; exact hj)
  rw [List.getElem_map, ← getV hi'] at ci
  rw [List.getElem_map, ← getV hj] at cj
  have HS := Lib.hid (fun W (hW : W.heap[gb]? = w.heap[gb]?) (o : Oq W lo hi B h vs (.slice (some ⟨gb, 0, none⟩) L.length cap) T wv L) => o.swap rfl i j hi' hj)
  have Ho := Lib.hid o
  generalize qV h (L.getD i vx0) = q1 at *
  generalize qV h (L.getD j vx0) = q2 at *
  unfold ptrV at *
  have hi1 : (i : Int) < (L.length : Int) := by omega
  have hj1 : (j : Int) < (L.length : Int) := by omega
  have hfi := hfr i
  have hfj := hfr j
  have hz2 : ∃ z, (w.setCell ⟨gb, i, none⟩ (.pointer (some ⟨q2, 0, none⟩))).cell? ⟨gb, j, none⟩ = some z := by
    obtain ⟨s1, _⟩ := o.ow.store (by rw [List.length_map]) i q2
    obtain ⟨g', c', e, _, _, _, hc, _⟩ := s1.row (by rw [List.length_set, List.length_map]; omega)
    simp only [Value.slice.injEq, Option.some.injEq, Addr.mk.injEq, and_true] at e
    obtain ⟨rfl, _⟩ := e
    exact ⟨_, hc j (by rw [List.length_set, List.length_map]; exact hj)⟩
  have hf2 : (w.setCell ⟨gb, i, none⟩ (.pointer (some ⟨q2, 0, none⟩))).frozen? ⟨gb, j, none⟩ = false := by
    obtain ⟨s1, _⟩ := o.ow.store (by rw [List.length_map]) i q2
    obtain ⟨g', c', e, _, _, _, _, hf⟩ := s1.row (by rw [List.length_set, List.length_map]; omega)
    simp only [Value.slice.injEq, Option.some.injEq, Addr.mk.injEq, and_true] at e
    obtain ⟨rfl, _⟩ := e
    exact hf j
  obtain ⟨z2, hz2⟩ := hz2
  have Hof := Lib.hid (HS.out w rfl o).drew
  have hB : Bx hi B w ((w.setCell ⟨gb, i, none⟩ (.pointer (some ⟨q2, 0, none⟩))).setCell ⟨gb, j, none⟩ (.pointer (some ⟨q1, 0, none⟩))).drew := (((Bx.refl _ _ _).setCell (.inl hgh) _).setCell (.inl hgh) _).drew
  have HB := Lib.hid hB
  clear o hcell hfr hB HS Ho
  go_enter Tryd.func105, Tryd.ntmps105
  go_wp2_with fail
  refine wp_region_L 13 (fun W => W.cell? ⟨gb, i, none⟩ = some (.pointer (some ⟨q1, 0, none⟩)) ∧ W.cell? ⟨gb, j, none⟩ = some (.pointer (some ⟨q2, 0, none⟩))) (by kernel_rfl) ⟨ci, cj⟩ (fun hH => ?_)
  refine takeP 2 (v := ?vsw1) rfl (by kernel_rfl) (by kernel_rfl) (by kernel_rfl) (by kernel_rfl) (fun _ _ _ h => h) hH rfl ?ysw1 ?rsw1
  case ysw1 => intro W; go_simp; try with_reducible rfl
  try simp only [Act.put, List.setIfInBounds_toArray, List.set_cons_zero, List.set_cons_succ]
  refine takeP 3 (v := ?vsw2) rfl (by kernel_rfl) (by kernel_rfl) (by kernel_rfl) (by kernel_rfl) (fun _ _ _ h => h) hH rfl ?ysw2 ?rsw2
  case ysw2 => intro W; go_simp; try with_reducible rfl
  try simp only [Act.put, List.setIfInBounds_toArray, List.set_cons_zero, List.set_cons_succ]
  refine takeP 8 (v := ?vsw3) rfl (by kernel_rfl) (by kernel_rfl) (by kernel_rfl) (by kernel_rfl) (fun _ _ _ h => h) hH rfl ?ysw3 ?rsw3
  case ysw3 => intro W; go_simp; try with_reducible rfl
  try simp only [Act.put, List.setIfInBounds_toArray, List.set_cons_zero, List.set_cons_succ]
  refine takeP 9 (v := ?vsw4) rfl (by kernel_rfl) (by kernel_rfl) (by kernel_rfl) (by kernel_rfl) (fun _ _ _ h => h) hH rfl ?ysw4 ?rsw4
  case ysw4 => intro W; go_simp; try with_reducible rfl
  try simp only [Act.put, List.setIfInBounds_toArray, List.set_cons_zero, List.set_cons_succ]
  refine takeP 10 (v := ?vsw5) rfl (by kernel_rfl) (by kernel_rfl) (by kernel_rfl) (by kernel_rfl) (fun _ _ _ h => h) hH rfl ?ysw5 ?rsw5
  case ysw5 => intro W; go_simp; try with_reducible rfl
  try simp only [Act.put, List.setIfInBounds_toArray, List.set_cons_zero, List.set_cons_succ]
  refine takeL 0 (v := ?vsw6) rfl (by kernel_rfl) (by kernel_rfl) (by kernel_rfl) (by kernel_rfl) (by kernel_rfl) (fun _ _ _ h => h) hH rfl ?ysw6 ?rsw6
  case ysw6 => intro W hSw; go_simp; try with_reducible rfl
  try simp only [Act.put, List.setIfInBounds_toArray, List.set_cons_zero, List.set_cons_succ]
  refine takeL 1 (v := ?vsw7) rfl (by kernel_rfl) (by kernel_rfl) (by kernel_rfl) (by kernel_rfl) (by kernel_rfl) (fun _ _ _ h => h) hH rfl ?ysw7 ?rsw7
  case ysw7 => intro W hSw; go_simp; try with_reducible rfl
  try simp only [Act.put, List.setIfInBounds_toArray, List.set_cons_zero, List.set_cons_succ]
  refine takeL 4 (v := ?vsw8) rfl (by kernel_rfl) (by kernel_rfl) (by kernel_rfl) (by kernel_rfl) (by kernel_rfl) (fun _ _ _ h => h) hH rfl ?ysw8 ?rsw8
  case ysw8 => intro W hSw; go_simp; try with_reducible rfl
  try simp only [Act.put, List.setIfInBounds_toArray, List.set_cons_zero, List.set_cons_succ]
  refine takeL 5 (v := ?vsw9) rfl (by kernel_rfl) (by kernel_rfl) (by kernel_rfl) (by kernel_rfl) (by kernel_rfl) (fun _ _ _ h => h) hH rfl ?ysw9 ?rsw9
  case ysw9 => intro W hSw; go_simp; try with_reducible rfl
  try simp only [Act.put, List.setIfInBounds_toArray, List.set_cons_zero, List.set_cons_succ]
  refine takeL 6 (v := ?vsw10) rfl (by kernel_rfl) (by kernel_rfl) (by kernel_rfl) (by kernel_rfl) (by kernel_rfl) (fun _ _ _ h => h) hH rfl ?ysw10 ?rsw10
  case ysw10 => intro W hSw; go_simp; try with_reducible rfl
  try simp only [Act.put, List.setIfInBounds_toArray, List.set_cons_zero, List.set_cons_succ]
  refine takeL 7 (v := ?vsw11) rfl (by kernel_rfl) (by kernel_rfl) (by kernel_rfl) (by kernel_rfl) (by kernel_rfl) (fun _ _ _ h => h) hH rfl ?ysw11 ?rsw11
  case ysw11 => intro W hSw; go_simp; try with_reducible rfl
  try simp only [Act.put, List.setIfInBounds_toArray, List.set_cons_zero, List.set_cons_succ]
  refine takeL 11 (v := ?vsw12) rfl (by kernel_rfl) (by kernel_rfl) (by kernel_rfl) (by kernel_rfl) (by kernel_rfl) (fun _ _ _ h => h) hH rfl ?ysw12 ?rsw12
  case ysw12 => intro W hSw; go_simp; try with_reducible rfl
  try simp only [Act.put, List.setIfInBounds_toArray, List.set_cons_zero, List.set_cons_succ]
  have ci' : w.drew.cell? ⟨gb, i, none⟩ = some (.pointer (some ⟨q1, 0, none⟩)) := ci
  have hfi' : w.drew.frozen? ⟨gb, i, none⟩ = false := hfi
  skip
  refine callL 12 rfl (by kernel_rfl) rfl (fun K hK => ?_)
  go_simp
  refine hK.out _ _ hH (fun hH => ?_)
  clear hK K
  try simp only [Act.put, List.setIfInBounds_toArray, List.set_cons_zero, List.set_cons_succ]
  refine aloneL 13 rfl (by kernel_rfl) (by kernel_rfl) rfl (fun K hK => ?_)
  go_simp
  refine hK.out _ _ ?_
  clear hK K
  try simp only [Act.put, List.setIfInBounds_toArray, List.set_cons_zero, List.set_cons_succ]
  refine aloneL 14 rfl (by kernel_rfl) (by kernel_rfl) rfl (fun K hK => ?_)
  go_simp
  refine hK.out _ _ ?_
  clear hK K
  try simp only [Act.put, List.setIfInBounds_toArray, List.set_cons_zero, List.set_cons_succ]
  refine aloneL 15 rfl (by kernel_rfl) (by kernel_rfl) rfl (fun K hK => ?_)
  go_simp
  refine hK.out _ _ ?_
  clear hK K
  try simp only [Act.put, List.setIfInBounds_toArray, List.set_cons_zero, List.set_cons_succ]
  refine endL (by kernel_rfl) ?_
  try simp only [Act.put]
  clear ci cj hfi hfj hz2 hf2
  go_wp2
  go_end0
  exact ⟨rfl, Hof.out, HB.out⟩

end Go.Proofs.YtjaacdapibokiabDoor

/- Adding to the list of waiting vertices and taking the last one from it, by walks of the program's text; condition: the list is shorter than 2^40. -/
namespace Go.Proofs.YtjaacdapibokiabDoor
open Go.RowKit

/-- 'append(s, p)', p a pointer, as an operation of a region. -/
theorem op_pushP {P : Program} {T E : TypeId} (hsl : P.underlying T = some (.slice E)) (hinf : (P.info? E).map (fun i => (i.zero, i.size, i.bytes)) = some (some (.pointer none), 1, 8)) {w : World} {o : Oper} {a : Act} {K : Act → World → Prop} {Q : Exit → Act → World → Prop} (s x : Operand)
    (ho : o.op = .call { callee := .builtin .append, args := #[s, x], argTypes := #[T, T] }) (B : Nat) (v : Value) (qs : List Nat) (q : Nat) (hs : a.eval s = v) (hown : OwnP E w B v qs)
    (hlen : qs.length ≤ 1099511627776) (hx : a.eval x = .slice (some ⟨w.heap.size, 0, none⟩) 1 1) (hB : B ≤ w.heap.size)
    (h : ∀ v' w', OwnP E w' B v' (qs ++ [q]) → w.grownBy w' v.ownBlock → (∀ g, v'.ownBlock = some g → v.ownBlock = some g ∨ w.heap.size ≤ g) → K (a.put o.dst v') w') : Oper.wp P o a (w.alloc (.cells #[.pointer (some ⟨q, 0, none⟩)] E)) K Q := by
  obtain ⟨i, hi, hz, hsz, hby⟩ := info_parts hinf
  obtain ⟨v', w', hrun, h1, h2, _, h4⟩ := run_append_own_at (P := P) (w.alloc (.cells #[.pointer (some ⟨q, 0, none⟩)] E)) B T o.type E i (.pointer none) 1 8 hsl hi hz hsz hby rfl (by decide) v qs.length _ (World.ownsRow.alloc hown _) ⟨w.heap.size, 0, none⟩ 1 1 [ptrV q] rfl
    (cells_ptr w E q) (by intro u hu; simp at hu; subst hu; rfl) (by unfold maxLen; omega) (by omega) (by simp; omega)
  unfold Oper.wp execOp
  simp only [ho, resolve, invoke, builtin, Sem.run_bind, Sem.run_pure, Result.andThen_ok, List.map_toArray, List.map_cons, List.map_nil, hs, hx, hrun]
  refine h v' w' ?_ (grownBy_trans (World.grownBy_alloc _ _ _) h2) fun g e => ?_
  · unfold OwnP; simpa using h1
  · rcases h4 with h4 | h4
    · exact .inl (by rw [← h4]; exact e)
    · rw [h4] at e; cases e; exact .inr (by simp)

theorem wait_assert (v : Value) (w : World) : (Instr.typeAssert (.iface 57 v) 20 57 false).run Tryd.prog w = .ok v w := by kernel_rfl
set_option maxRecDepth 8000 in
set_option maxHeartbeats 1000000 in
theorem wait_Push {w : World} {lo hi B : Nat} {h : Nat → Value} {vs wt : Value} {T L : List Vx} {wv : Nat → Nat} (o : Oq w lo hi B h vs wt T wv L) (y : Vx) (q : Nat) (hq : qV h y = q) (hL : L.length ≤ 1048576) :
    Calls Tryd.prog 109 #[.pointer (some ⟨B, 218, none⟩), .iface 57 (.pointer (some ⟨q, 0, none⟩))] w fun e w' => e = .returned (.tuple #[]) ∧ ∃ wt', Oq w' lo hi B h vs wt' T wv (L ++ [y]) ∧ Bx hi B w w' := by
  have cw := o.drew.cwt
  have hs := wait_assert
  have Hown := Lib.hid o.drew.ow
  have hl : (L.map (qV h)).length ≤ 1099511627776 := by rw [List.length_map]; omega
  have HP := Lib.hid (fun w1 wt' => o.drew.pushW (w1 := w1) (wt' := wt') (y := y) hq)
  have hBl := o.drew.lt
  have Hst := Lib.hid o.drew.st
  have Hnw := Lib.hid o.nw
  have Hlt := Lib.hid (World.ownsRow.lt o.drew.ow)
  have Hb0 := Lib.hid (show Bx hi B w w.drew from (Bx.refl _ _ _).drew)
  have hoz := o.drew.hz
  obtain ⟨aw, cw', rfl, _⟩ := o.ow.slice
  rw [List.length_map] at *
  clear o
  go_enter Tryd.func109, Tryd.ntmps109
  go_wp2_with fail
  refine wp_region_L 9 (fun W => W.cell? ⟨B, 218, none⟩ = some (.slice aw L.length cw')) (by kernel_rfl) cw (fun hH => ?_)
  generalize w.drew = W0 at *
  have hhz : hi ≤ W0.heap.size := hoz
  refine takeL 0 (v := ?vpu1) rfl (by kernel_rfl) (by kernel_rfl) (by kernel_rfl) (by kernel_rfl) (by kernel_rfl) (fun _ _ _ h => h) hH rfl ?ypu1 ?rpu1
  case ypu1 => intro W hSw; go_simp; try with_reducible rfl
  try simp only [Act.put, List.setIfInBounds_toArray, List.set_cons_zero, List.set_cons_succ]
  refine takeL 1 (v := ?vpu2) rfl (by kernel_rfl) (by kernel_rfl) (by kernel_rfl) (by kernel_rfl) (by kernel_rfl) (fun _ _ _ h => h) hH rfl ?ypu2 ?rpu2
  case ypu2 => intro W hSw; go_simp; try with_reducible rfl
  try simp only [Act.put, List.setIfInBounds_toArray, List.set_cons_zero, List.set_cons_succ]
  refine takeL 2 (v := ?vpu3) rfl (by kernel_rfl) (by kernel_rfl) (by kernel_rfl) (by kernel_rfl) (by kernel_rfl) (fun _ _ _ h => h) hH rfl ?ypu3 ?rpu3
  case ypu3 => intro W hSw; go_simp; try with_reducible rfl
  try simp only [Act.put, List.setIfInBounds_toArray, List.set_cons_zero, List.set_cons_succ]
  refine takeL 3 (v := ?vpu4) rfl (by kernel_rfl) (by kernel_rfl) (by kernel_rfl) (by kernel_rfl) (by kernel_rfl) (fun _ _ _ h => h) hH rfl ?ypu4 ?rpu4
  case ypu4 => intro W hSw; go_simp; try with_reducible rfl
  try simp only [Act.put, List.setIfInBounds_toArray, List.set_cons_zero, List.set_cons_succ]
  refine takeL 4 (v := ?vpu5) rfl (by kernel_rfl) (by kernel_rfl) (by kernel_rfl) (by kernel_rfl) (by kernel_rfl) (fun _ _ _ h => h) hH rfl ?ypu5 ?rpu5
  case ypu5 => intro W hSw; go_simp; try with_reducible rfl
  try simp only [Act.put, List.setIfInBounds_toArray, List.set_cons_zero, List.set_cons_succ]
  refine takeL 5 (v := ?vpu6) rfl (by kernel_rfl) (by kernel_rfl) (by kernel_rfl) (by kernel_rfl) (by kernel_rfl) (fun _ _ _ h => h) hH rfl ?ypu6 ?rpu6
  case ypu6 => intro W hSw; go_simp; try with_reducible rfl
  try simp only [Act.put, List.setIfInBounds_toArray, List.set_cons_zero, List.set_cons_succ]
  refine callL 6 rfl (by kernel_rfl) rfl (fun K hK => ?_)
  go_simp
  have hal : Below W0.heap.size W0 (W0.alloc (.cells #[.pointer (some ⟨q, 0, none⟩)] 57)) := (Below.refl _ _).alloc (Nat.le_refl _) _
  have hc1 := (hal.cell (p := ⟨B, 218, none⟩) hBl).trans cw
  refine hK.out _ _ hc1 (fun hH => ?_)
  clear hK K
  try simp only [Act.put, List.setIfInBounds_toArray, List.set_cons_zero, List.set_cons_succ]
  refine callL 7 rfl (by kernel_rfl) rfl (fun K hK => ?_)
  refine op_pushP Tryd.underlying54 (by kernel_rfl) (.tmp 7) (.tmp 10) rfl hi _ (L.map (qV h)) q rfl Hown.out (by rw [List.length_map]; omega) rfl hhz ?_
  intro v8 w8 hown8 hg8 hloc8
  have s8 := Str.kept Hst.out hg8 (fun e => Hnw.out e.symm)
  have c8 := s8.cell 218 (ordA_wt _ _ _)
  have f8 := s8.frozen 218
  have Hfin := Lib.hid (HP.out w8 v8 hown8 hg8 hloc8)
  have Hb8 := Lib.hid ((Hb0.out.grown hg8 hhz (fun g e => (Hlt.out g e).1)).setCell (p := ⟨B, 218, none⟩) (.inr rfl) v8)
  clear hg8 hloc8 s8
  obtain ⟨a8, n8, rfl, hm8⟩ := hown8.slice
  rw [List.length_append, List.length_map, List.length_singleton] at *
  clear hown8
  refine hK.out _ _ c8 (fun hH => ?_)
  clear hK K
  try simp only [Act.put, List.setIfInBounds_toArray, List.set_cons_zero, List.set_cons_succ]
  refine callL 8 rfl (by kernel_rfl) rfl (fun K hK => ?_)
  go_simp
  refine hK.out _ _ hH (fun hH => ?_)
  clear hK K
  try simp only [Act.put, List.setIfInBounds_toArray, List.set_cons_zero, List.set_cons_succ]
  refine lastL rfl (by kernel_rfl) (by kernel_rfl) (by kernel_rfl) rfl (fun K hK => ?_)
  go_simp
  refine hK.out _ _ ?_
  clear hK K
  try simp only [Act.put]
  go_wp2
  go_end0
  exact ⟨rfl, _, Hfin.out, Hb8.out⟩

set_option maxRecDepth 8000 in
set_option maxHeartbeats 1000000 in
theorem wait_Pop {w : World} {lo hi B : Nat} {h : Nat → Value} {vs wt : Value} {T L : List Vx} {wv : Nat → Nat} (o : Oq w lo hi B h vs wt T wv L) {n : Nat} (hn : L.length = n + 1) (hL : L.length ≤ 1048577) :
    Calls Tryd.prog 108 #[.pointer (some ⟨B, 218, none⟩)] w fun e w' => e = .returned (.iface 57 (.pointer (some ⟨qV h (L.getD n vx0), 0, none⟩))) ∧ ∃ wt', Oq w' lo hi B h vs wt' T wv L.dropLast ∧ Bx hi B w w' := by
  have cw := o.cwt
  obtain ⟨gb, cap, rfl, hgh, hgl, hcp, hcell, _⟩ := o.ow.row (by rw [List.length_map]; omega)
  have hlm : (L.map (qV h)).length = n + 1 := by rw [List.length_map]; exact hn
  have cn := hcell n (by omega)
  rw [List.getElem_map, ← getV (by omega)] at cn
  rw [hlm] at o cw hcp
  have hf := o.st.frozen 218
  have hmk : ∀ x w, (Instr.makeInterface 57 x).run Tryd.prog w = .ok (.iface 57 x) w := fun x w => run_makeInterface w 57 x (by kernel_rfl)
  have Hfin := Lib.hid (o.pop hn)
  have HB := Lib.hid ((Bx.refl hi B w).setCell (p := ⟨B, 218, none⟩) (.inr rfl) (.slice (some ⟨gb, 0, none⟩) n cap))
  generalize qV h (L.getD n vx0) = q at *
  unfold ptrV at cn
  have e1 : IntKind.i64.wrap (((n + 1 : Nat) : Int) - 1) = (n : Int) := by rw [IntWalk.i64_in _ (by omega)]; omega
  have e2 : (n : Int) < ((n + 1 : Nat) : Int) := by omega
  have e3 : (n : Int) ≤ (cap : Int) := by omega
  clear o hcell
  go_enter Tryd.func108, Tryd.ntmps108
  go_wp2
  go_ret
  exact ⟨rfl, _, Hfin.out, HB.out⟩

end Go.Proofs.YtjaacdapibokiabDoor

/- The heap's operations of Go's library over the list of waiting vertices, by walks of their texts; condition: the list is shorter than 2^20. -/
namespace Go.Proofs.YtjaacdapibokiabDoor
open Go.RowKit

theorem run_then (a : Addr) (f : FuncId) (w : World) (v : Value) (h : w.cell? a = some v) : (do let v ← load a; pure (f, v) : Sem (FuncId × Value)).run Tryd.prog w = .ok (f, v) w := by
  rw [Sem.run_bind]
  go_simp
theorem wait_mLen (n B : Nat) (w : World) (v : Value) (h : w.cell? ⟨B, 218, none⟩ = some v) : (method (n + 1) 95 (.pointer (some ⟨B, 218, none⟩)) "Len").run Tryd.prog w = .ok (50, v) w := by
  have e : (method (n + 1) 95 (.pointer (some ⟨B, 218, none⟩)) "Len").run Tryd.prog w = (do let v ← load ⟨B, 218, none⟩; pure (50, v) : Sem (FuncId × Value)).run Tryd.prog w := by kernel_rfl
  rw [e]; exact run_then _ _ _ _ h
theorem wait_mLess (n B : Nat) (w : World) (v : Value) (h : w.cell? ⟨B, 218, none⟩ = some v) : (method (n + 1) 95 (.pointer (some ⟨B, 218, none⟩)) "Less").run Tryd.prog w = .ok (104, v) w := by
  have e : (method (n + 1) 95 (.pointer (some ⟨B, 218, none⟩)) "Less").run Tryd.prog w = (do let v ← load ⟨B, 218, none⟩; pure (104, v) : Sem (FuncId × Value)).run Tryd.prog w := by kernel_rfl
  rw [e]; exact run_then _ _ _ _ h
theorem wait_mSwap (n B : Nat) (w : World) (v : Value) (h : w.cell? ⟨B, 218, none⟩ = some v) : (method (n + 1) 95 (.pointer (some ⟨B, 218, none⟩)) "Swap").run Tryd.prog w = .ok (105, v) w := by
  have e : (method (n + 1) 95 (.pointer (some ⟨B, 218, none⟩)) "Swap").run Tryd.prog w = (do let v ← load ⟨B, 218, none⟩; pure (105, v) : Sem (FuncId × Value)).run Tryd.prog w := by kernel_rfl
  rw [e]; exact run_then _ _ _ _ h
theorem wait_mPush (n B : Nat) (w : World) : (method (n + 1) 95 (.pointer (some ⟨B, 218, none⟩)) "Push").run Tryd.prog w = .ok (109, .pointer (some ⟨B, 218, none⟩)) w := by kernel_rfl
theorem wait_mPop (n B : Nat) (w : World) : (method (n + 1) 95 (.pointer (some ⟨B, 218, none⟩)) "Pop").run Tryd.prog w = .ok (108, .pointer (some ⟨B, 218, none⟩)) w := by kernel_rfl
theorem wait_cLen (x : Array Value) (w : World) : (callFunc 50 x).run Tryd.prog w = .ok (.enter 50 x) w := by kernel_rfl
theorem wait_cLess (x : Array Value) (w : World) : (callFunc 104 x).run Tryd.prog w = .ok (.enter 104 x) w := by kernel_rfl
theorem wait_cSwap (x : Array Value) (w : World) : (callFunc 105 x).run Tryd.prog w = .ok (.enter 105 x) w := by kernel_rfl
theorem wait_cPush (x : Array Value) (w : World) : (callFunc 109 x).run Tryd.prog w = .ok (.enter 109 x) w := by kernel_rfl
theorem wait_cPop (x : Array Value) (w : World) : (callFunc 108 x).run Tryd.prog w = .ok (.enter 108 x) w := by kernel_rfl

/-- What the heap's vertices are: in range, and in memory. -/
def VsH (w : World) (hi : Nat) (h : Nat → Value) (L : List Vx) : Prop := VsA w hi h L ∧ ∀ y ∈ L, inPl y
theorem VsH.perm {w w' : World} {hi : Nat} {h : Nat → Value} {L L' : List Vx} (v : VsH w hi h L) (hb : Below hi w w') (hp : L'.Perm L) : VsH w' hi h L' :=
  ⟨fun y hy => (v.1 y (hp.mem_iff.1 hy)).low hb, fun y hy => v.2 y (hp.mem_iff.1 hy)⟩
theorem VsH.bef {w : World} {hi : Nat} {h : Nat → Value} {L : List Vx} (v : VsH w hi h L) {i j : Nat} (hi' : i < L.length) (hj : j < L.length) : befB (L.getD i vx0) (L.getD j vx0) = decide (kyA L i < kyA L j) := by
  have h1 := v.2 _ (List.getElem_mem hi'); have h2 := v.2 _ (List.getElem_mem hj)
  rw [Bool.eq_iff_iff, decide_eq_true_iff]
  unfold kyA
  rw [getV hi', getV hj]
  exact ky_bef h1 h2

set_option maxRecDepth 8000 in
set_option maxHeartbeats 1000000 in
theorem heap_up {w : World} {lo hi B : Nat} {h : Nat → Value} {vs : Value} {T L : List Vx} {wv : Nat → Nat} {a : Option Addr} {n cap : Nat} (o : Oq w lo hi B h vs (.slice a n cap) T wv L) (hv : VsH w lo h L) (j : Nat) (hn : n = L.length) (hj : j < L.length) (hL : L.length ≤ 1048576) (hu : HpU L L.length j) :
    Calls Tryd.prog 79 #[.iface 95 (.pointer (some ⟨B, 218, none⟩)), .int .i64 j] w fun e w' => e = .returned (.tuple #[]) ∧ ∃ L', Oq w' lo hi B h vs (.slice a n cap) T wv L' ∧ L'.Perm L ∧ HpN L' L'.length ∧ Bx hi B w w' := by
  subst hn
  have Ho := Lib.hid o
  have Hv := Lib.hid hv
  have Hu := Lib.hid hu
  have hlL := wait_mLess
  have hlS := wait_mSwap
  have hcL := wait_cLess
  have hcS := wait_cSwap
  clear o hv hu
  go_enter Tryd.func79, Tryd.ntmps79
  go_wp2_with fail
  go_loopw [1] (fun i wr => ∃ (k : Nat) (L' : List Vx), i = .int .i64 k ∧ k < L.length ∧ L'.Perm L ∧ HpU L' L.length k ∧ Oq wr lo hi B h vs (.slice a L.length cap) T wv L' ∧ Bx hi B w wr) (fun i _ => (intOf i).toNat)
  case atStart => exact ⟨j, L, rfl, hj, List.Perm.refl _, Hu.out, Ho.out, Bx.refl _ _ _⟩
  case round =>
    obtain ⟨k, L', rfl, hk, hp, hu, o, hb⟩ := hrel
    have hl := hp.length_eq
    have hw := o.cwt
    by_cases h0 : k = 0
    · subst h0
      have Hf := Lib.hid (hpu_end hu (fun h => by omega))
      go_wp2
      go_end0
      exact ⟨rfl, L', o, hp, by rw [hl]; exact Hf.out, hb⟩
    · have e1 : IntKind.i64.wrap ((k : Int) - 1) = ((k - 1 : Nat) : Int) := by rw [IntWalk.i64_in _ (by omega)]; omega
      obtain ⟨p, hpk⟩ : ∃ p, p = (k - 1) / 2 := ⟨_, rfl⟩
      have e2 : ((k - 1 : Nat) : Int) / 2 = (p : Int) := by omega
      have e4 : ((p : Int) == (k : Int)) = false := by rw [beq_eq_false_iff_ne]; omega
      have hvr := Hv.out.perm (hb.low o.hl o.hB) hp
      have hpl : p < L'.length := by omega
      have hkl : k < L'.length := by omega
      have HLs := Lib.hid (wait_Less o hvr.1 k p hl.symm hkl hpl (by omega))
      rw [hvr.bef hkl hpl] at HLs
      have Hp := Lib.hid hp; have Hb := Lib.hid hb; have Hu2 := Lib.hid hu; have Ho2 := Lib.hid o
      clear hp hb hu o hvr
      generalize hkq : (k - 1 : Nat) = k1 at *
      have Hkq := Lib.hid hkq; have Hpk := Lib.hid hpk
      clear hkq hpk
      go_wp2_with fail
      refine HLs.out.mono ?_
      rintro e w1 ⟨rfl, hb1⟩
      have o1 := Ho2.out.below hb1
      have hw1 := o1.cwt
      have Ho3 := Lib.hid o1
      have Hb3 := Lib.hid (Hb.out.trans (.of hb1 Ho2.out.hz))
      clear hb1 o1 hw
      by_cases hlt : kyA L' k < kyA L' p
      · rw [decide_eq_true hlt]
        have HSw := Lib.hid (wait_Swap Ho3.out p k hl.symm hpl hkl (by omega))
        have hpk2 : p < k := by have := Hpk.out; have := Hkq.out; omega
        have Hst := Lib.hid (show HpU (swpL L' p k) L.length p from by have hpk := Hpk.out; rw [← Hkq.out] at hpk; rw [hpk] at hlt ⊢; exact hpu_step hl.symm hk (by omega) Hu2.out hlt)
        clear hlt
        go_wp2_with fail
        refine HSw.out.mono ?_
        rintro e w2 ⟨rfl, o2, hb2⟩
        have Ho4 := Lib.hid o2; have Hb4 := Lib.hid (Hb3.out.trans hb2)
        have Hp4 := Lib.hid ((swp_perm hpl hkl).trans Hp.out)
        clear o2 hb2 hw1
        go_wp2
        go_roundw
        case rel => exact ⟨p, swpL L' p k, rfl, by omega, Hp4.out, Hst.out, Ho4.out, Hb4.out⟩
        case measure => simp [intOf]; omega
      · rw [decide_eq_false hlt]
        have Hf := Lib.hid (hpu_end Hu2.out (fun _ => by rw [Hkq.out, ← Hpk.out]; omega))
        go_wp2
        go_end0
        exact ⟨rfl, L', Ho3.out, Hp.out, by rw [hl]; exact Hf.out, Hb3.out⟩

set_option maxRecDepth 8000 in
set_option maxHeartbeats 1000000 in
theorem heap_Push {w : World} {lo hi B : Nat} {h : Nat → Value} {vs wt : Value} {T L : List Vx} {wv : Nat → Nat} (o : Oq w lo hi B h vs wt T wv L) (y : Vx) (q : Nat) (hq : qV h y = q) (hv : VsH w lo h (L ++ [y])) (hL : L.length ≤ 1048575) (hh : HpN L L.length) :
    Calls Tryd.prog 67 #[.iface 95 (.pointer (some ⟨B, 218, none⟩)), .iface 57 (.pointer (some ⟨q, 0, none⟩))] w fun e w' => e = .returned (.tuple #[]) ∧ ∃ wt' L', Oq w' lo hi B h vs wt' T wv L' ∧ L'.Perm (L ++ [y]) ∧ HpN L' L'.length ∧ Bx hi B w w' := by
  have hmL := wait_mLen
  have hmP := wait_mPush
  have hcL := wait_cLen
  have hcP := wait_cPush
  have HP := Lib.hid (wait_Push o y q hq (by omega))
  have Hu := Lib.hid (hpu_push (x := y) hh)
  have Hv := Lib.hid hv
  clear o hv hh hq
  go_enter Tryd.func67, Tryd.ntmps67
  go_wp2_with fail
  refine HP.out.mono ?_
  rintro e w1 ⟨rfl, wt1, o1, hb1⟩
  have hw1 := o1.cwt
  obtain ⟨a1, c1, rfl, _⟩ := o1.ow.slice
  rw [List.length_map] at *
  have hll : (L ++ [y]).length = L.length + 1 := by simp
  have HL := Lib.hid (fun W => wait_Len a1 (L ++ [y]).length c1 W)
  have e1 : IntKind.i64.wrap (((L ++ [y]).length : Int) - 1) = (L.length : Int) := by rw [IntWalk.i64_in _ (by omega)]; omega
  have HU := Lib.hid (heap_up o1 (Hv.out.perm (hb1.low o1.hl o1.hB) (List.Perm.refl _)) L.length rfl (by omega) (by omega) (by rw [hll]; exact Hu.out))
  have Hb1 := Lib.hid hb1
  clear o1 hb1
  generalize (L ++ [y]).length = m at *
  clear hll
  go_wp2_with fail
  refine (HL.out _).mono ?_
  rintro e w2 ⟨rfl, rfl⟩
  go_wp2_with fail
  refine HU.out.mono ?_
  rintro e w3 ⟨rfl, L', o3, hp3, hn3, hb3⟩
  have Ho3 := Lib.hid o3; have Hb3 := Lib.hid (Hb1.out.trans hb3)
  clear o3 hb3
  go_wp2
  go_end0
  exact ⟨rfl, _, L', Ho3.out, hp3, hn3, Hb3.out⟩

end Go.Proofs.YtjaacdapibokiabDoor

/- The heap's sifting down and its taking of the least, by walks of the library's texts; condition: the list is shorter than 2^20. -/
namespace Go.Proofs.YtjaacdapibokiabDoor
open Go.RowKit

set_option maxRecDepth 8000 in
set_option maxHeartbeats 4000000 in
theorem heap_down {w : World} {lo hi B : Nat} {h : Nat → Value} {vs : Value} {T L : List Vx} {wv : Nat → Nat} {a : Option Addr} {cap : Nat} (o : Oq w lo hi B h vs (.slice a L.length cap) T wv L) (hv : VsH w lo h L) (n : Nat) (hn : n ≤ L.length) (h0 : 0 < L.length) (hL : L.length ≤ 1048577) (hu : HpD L n 0) :
    Calls Tryd.prog 68 #[.iface 95 (.pointer (some ⟨B, 218, none⟩)), .int .i64 0, .int .i64 n] w fun e w' => ∃ v, e = .returned v ∧ ∃ L', Oq w' lo hi B h vs (.slice a L.length cap) T wv L' ∧ L'.Perm L ∧ HpN L' n ∧ (∀ z, n ≤ z → L'.getD z vx0 = L.getD z vx0) ∧ Bx hi B w w' := by
  have Ho := Lib.hid o
  have Hv := Lib.hid hv
  have Hu := Lib.hid hu
  have hlL := wait_mLess
  have hlS := wait_mSwap
  have hcL := wait_cLess
  have hcS := wait_cSwap
  clear o hv hu
  go_enter Tryd.func68, Tryd.ntmps68
  go_wp2_with fail
  go_loopw [7] (fun i wr => ∃ (k : Nat) (L' : List Vx), i = .int .i64 k ∧ k < L.length ∧ L'.Perm L ∧ HpD L' n k ∧ (∀ z, n ≤ z → L'.getD z vx0 = L.getD z vx0) ∧ Oq wr lo hi B h vs (.slice a L.length cap) T wv L' ∧ Bx hi B w wr) (fun i _ => L.length - (intOf i).toNat)
  case atStart => exact ⟨0, L, rfl, h0, List.Perm.refl _, Hu.out, fun _ _ => rfl, Ho.out, Bx.refl _ _ _⟩
  case round =>
    obtain ⟨k, L', rfl, hk, hp, hd, hby, o, hb⟩ := hrel
    have hl := hp.length_eq
    have hw := o.cwt
    have Hp := Lib.hid hp; have Hd := Lib.hid hd; have Hby := Lib.hid hby; have Ho1 := Lib.hid o; have Hb1 := Lib.hid hb
    have HV1 := Lib.hid (Hv.out.perm (hb.low o.hl o.hB) hp)
    clear hp hd hby o hb
    obtain ⟨j1, hj1⟩ : ∃ j1, j1 = 2 * k + 1 := ⟨_, rfl⟩
    have e1 : IntKind.i64.wrap (2 * (k : Int)) = 2 * (k : Int) := IntWalk.i64_in _ (by omega)
    have e2 : 2 * (k : Int) + 1 = (j1 : Int) := by omega
    have e3 : IntKind.i64.wrap (j1 : Int) = (j1 : Int) := IntWalk.i64_in _ (by omega)
    have e4 : ¬ (j1 : Int) < 0 := by omega
    have Hj1 := Lib.hid hj1
    clear hj1
    by_cases hge : n ≤ j1
    · have hge' : (n : Int) ≤ (j1 : Int) := by omega
      have Hf := Lib.hid (hpd_end Hd.out (fun c h1 h2 h3 => by have := Hj1.out; omega))
      go_wp2
      go_ret
      first | exact ⟨⟨_, rfl⟩, L', Ho1.out, Hp.out, Hf.out, Hby.out, Hb1.out⟩ | exact ⟨_, rfl, L', Ho1.out, Hp.out, Hf.out, Hby.out, Hb1.out⟩
    · have hge' : ¬ (n : Int) ≤ (j1 : Int) := by omega
      obtain ⟨j2, hj2⟩ : ∃ j2, j2 = j1 + 1 := ⟨_, rfl⟩
      have e5 : (j1 : Int) + 1 = (j2 : Int) := by omega
      have e6 : IntKind.i64.wrap (j2 : Int) = (j2 : Int) := IntWalk.i64_in _ (by omega)
      have Hj2 := Lib.hid hj2
      clear hj2
      have hk1 := Hj1.out
      have hk2 := Hj2.out
      have Hk1 := Lib.hid hk1; have Hk2 := Lib.hid hk2
      by_cases hlt2 : j2 < n
      · have hlt2' : (j2 : Int) < (n : Int) := by omega
        have HL1 := Lib.hid (wait_Less Ho1.out HV1.out.1 j2 j1 hl.symm (by omega) (by omega) (by omega))
        rw [HV1.out.bef (by omega) (by omega)] at HL1
        clear hk1 hk2
        go_wp2_with fail
        refine HL1.out.mono ?_
        rintro e w2 ⟨rfl, hb2⟩
        have Ho2 := Lib.hid (Ho1.out.below hb2)
        have hb2' : Bx hi B wr w2 := .of hb2 Ho1.out.hz
        have HV2 := Lib.hid (HV1.out.perm (hb2'.low Ho1.out.hl Ho1.out.hB) (List.Perm.refl _))
        have Hb2 := Lib.hid (Hb1.out.trans hb2')
        clear hb2 hb2' hw
        by_cases hc : kyA L' j2 < kyA L' j1
        · rw [decide_eq_true hc]
          have hk1 := Hk1.out; have hk2 := Hk2.out
          have Hc := Lib.hid (show ∀ c, 0 < c → c < n → (c - 1) / 2 = k → kyA L' j2 ≤ kyA L' c from fun c h1 h2 h3 => by
            have : c = j1 ∨ c = j2 := by omega
            rcases this with rfl | rfl
            · exact Nat.le_of_lt hc
            · exact Nat.le_refl _)
          clear hc
          have HLs := Lib.hid (wait_Less Ho2.out HV2.out.1 j2 k hl.symm (by omega) (by omega) (by omega))
          rw [HV2.out.bef (by omega) (by omega)] at HLs
          have hw2 := Ho2.out.cwt
          clear hk1 hk2
          go_wp2_with fail
          refine HLs.out.mono ?_
          rintro e w4 ⟨rfl, hb4⟩
          have hk1 := Hk1.out
          have hk2 := Hk2.out
          have o4 := Ho2.out.below hb4
          have hw4 := o4.cwt
          have Ho4 := Lib.hid o4
          have Hb4 := Lib.hid (Hb2.out.trans (.of hb4 Ho2.out.hz))
          clear hb4 o4 hw2
          by_cases hlt : kyA L' j2 < kyA L' k
          · rw [decide_eq_true hlt]
            have HSw := Lib.hid (wait_Swap Ho4.out k j2 hl.symm (by omega) (by omega) (by omega))
            have Hst := Lib.hid (show HpD (swpL L' k j2) n j2 from hpd_step (by omega) (by omega) (by omega) (by omega) Hd.out hlt (Hc.out))
            have Hbe := Lib.hid (show ∀ z, n ≤ z → (swpL L' k j2).getD z vx0 = L.getD z vx0 from fun z hz => by rw [swp_get (by omega) (by omega), if_neg (by omega), if_neg (by omega)]; exact Hby.out z hz)
            have Hp4 := Lib.hid ((swp_perm (L := L') (i := k) (j := j2) (by omega) (by omega)).trans Hp.out)
            clear hlt hk1 hk2
            go_wp2_with fail
            refine HSw.out.mono ?_
            rintro e w5 ⟨rfl, o5, hb5⟩
            have Ho5 := Lib.hid o5; have Hb5 := Lib.hid (Hb4.out.trans hb5)
            clear o5 hb5 hw4
            go_wp2
            go_roundw
            case rel => exact ⟨j2, swpL L' k j2, rfl, by have := Hk1.out; have := Hk2.out; omega, Hp4.out, Hst.out, Hbe.out, Ho5.out, Hb5.out⟩
            case measure => simp [intOf]; have := Hk1.out; have := Hk2.out; omega
          · rw [decide_eq_false hlt]
            have Hf := Lib.hid (hpd_end Hd.out (fun c h1 h2 h3 => Nat.le_trans (Nat.le_of_not_lt hlt) ((Hc.out) c h1 h2 h3)))
            clear hlt hk1 hk2
            go_wp2
            go_ret
            first | exact ⟨⟨_, rfl⟩, L', Ho4.out, Hp.out, Hf.out, Hby.out, Hb4.out⟩ | exact ⟨_, rfl, L', Ho4.out, Hp.out, Hf.out, Hby.out, Hb4.out⟩
        · rw [decide_eq_false hc]
          have hk1 := Hk1.out; have hk2 := Hk2.out
          have Hc := Lib.hid (show ∀ c, 0 < c → c < n → (c - 1) / 2 = k → kyA L' j1 ≤ kyA L' c from fun c h1 h2 h3 => by
            have : c = j1 ∨ c = j2 := by omega
            rcases this with rfl | rfl
            · exact Nat.le_refl _
            · exact Nat.le_of_not_lt hc)
          clear hc
          have HLs := Lib.hid (wait_Less Ho2.out HV2.out.1 j1 k hl.symm (by omega) (by omega) (by omega))
          rw [HV2.out.bef (by omega) (by omega)] at HLs
          have hw2 := Ho2.out.cwt
          clear hk1 hk2
          go_wp2_with fail
          refine HLs.out.mono ?_
          rintro e w4 ⟨rfl, hb4⟩
          have hk1 := Hk1.out
          have hk2 := Hk2.out
          have o4 := Ho2.out.below hb4
          have hw4 := o4.cwt
          have Ho4 := Lib.hid o4
          have Hb4 := Lib.hid (Hb2.out.trans (.of hb4 Ho2.out.hz))
          clear hb4 o4 hw2
          by_cases hlt : kyA L' j1 < kyA L' k
          · rw [decide_eq_true hlt]
            have HSw := Lib.hid (wait_Swap Ho4.out k j1 hl.symm (by omega) (by omega) (by omega))
            have Hst := Lib.hid (show HpD (swpL L' k j1) n j1 from hpd_step (by omega) (by omega) (by omega) (by omega) Hd.out hlt (Hc.out))
            have Hbe := Lib.hid (show ∀ z, n ≤ z → (swpL L' k j1).getD z vx0 = L.getD z vx0 from fun z hz => by rw [swp_get (by omega) (by omega), if_neg (by omega), if_neg (by omega)]; exact Hby.out z hz)
            have Hp4 := Lib.hid ((swp_perm (L := L') (i := k) (j := j1) (by omega) (by omega)).trans Hp.out)
            clear hlt hk1 hk2
            go_wp2_with fail
            refine HSw.out.mono ?_
            rintro e w5 ⟨rfl, o5, hb5⟩
            have Ho5 := Lib.hid o5; have Hb5 := Lib.hid (Hb4.out.trans hb5)
            clear o5 hb5 hw4
            go_wp2
            go_roundw
            case rel => exact ⟨j1, swpL L' k j1, rfl, by have := Hk1.out; have := Hk2.out; omega, Hp4.out, Hst.out, Hbe.out, Ho5.out, Hb5.out⟩
            case measure => simp [intOf]; have := Hk1.out; have := Hk2.out; omega
          · rw [decide_eq_false hlt]
            have Hf := Lib.hid (hpd_end Hd.out (fun c h1 h2 h3 => Nat.le_trans (Nat.le_of_not_lt hlt) ((Hc.out) c h1 h2 h3)))
            clear hlt hk1 hk2
            go_wp2
            go_ret
            first | exact ⟨⟨_, rfl⟩, L', Ho4.out, Hp.out, Hf.out, Hby.out, Hb4.out⟩ | exact ⟨_, rfl, L', Ho4.out, Hp.out, Hf.out, Hby.out, Hb4.out⟩
      · have hlt2' : ¬ (j2 : Int) < (n : Int) := by omega
        have Ho2 := Ho1
        have HV2 := HV1
        have Hb2 := Hb1
        have Hc := Lib.hid (show ∀ c, 0 < c → c < n → (c - 1) / 2 = k → kyA L' j1 ≤ kyA L' c from fun c h1 h2 h3 => by
          have : c = j1 := by omega
          subst this; exact Nat.le_refl _)
        clear hw
        have HLs := Lib.hid (wait_Less Ho2.out HV2.out.1 j1 k hl.symm (by omega) (by omega) (by omega))
        rw [HV2.out.bef (by omega) (by omega)] at HLs
        have hw2 := Ho2.out.cwt
        clear hk1 hk2
        go_wp2_with fail
        refine HLs.out.mono ?_
        rintro e w4 ⟨rfl, hb4⟩
        have hk1 := Hk1.out
        have hk2 := Hk2.out
        have o4 := Ho2.out.below hb4
        have hw4 := o4.cwt
        have Ho4 := Lib.hid o4
        have Hb4 := Lib.hid (Hb2.out.trans (.of hb4 Ho2.out.hz))
        clear hb4 o4 hw2
        by_cases hlt : kyA L' j1 < kyA L' k
        · rw [decide_eq_true hlt]
          have HSw := Lib.hid (wait_Swap Ho4.out k j1 hl.symm (by omega) (by omega) (by omega))
          have Hst := Lib.hid (show HpD (swpL L' k j1) n j1 from hpd_step (by omega) (by omega) (by omega) (by omega) Hd.out hlt (Hc.out))
          have Hbe := Lib.hid (show ∀ z, n ≤ z → (swpL L' k j1).getD z vx0 = L.getD z vx0 from fun z hz => by rw [swp_get (by omega) (by omega), if_neg (by omega), if_neg (by omega)]; exact Hby.out z hz)
          have Hp4 := Lib.hid ((swp_perm (L := L') (i := k) (j := j1) (by omega) (by omega)).trans Hp.out)
          clear hlt hk1 hk2
          go_wp2_with fail
          refine HSw.out.mono ?_
          rintro e w5 ⟨rfl, o5, hb5⟩
          have Ho5 := Lib.hid o5; have Hb5 := Lib.hid (Hb4.out.trans hb5)
          clear o5 hb5 hw4
          go_wp2
          go_roundw
          case rel => exact ⟨j1, swpL L' k j1, rfl, by have := Hk1.out; have := Hk2.out; omega, Hp4.out, Hst.out, Hbe.out, Ho5.out, Hb5.out⟩
          case measure => simp [intOf]; have := Hk1.out; have := Hk2.out; omega
        · rw [decide_eq_false hlt]
          have Hf := Lib.hid (hpd_end Hd.out (fun c h1 h2 h3 => Nat.le_trans (Nat.le_of_not_lt hlt) ((Hc.out) c h1 h2 h3)))
          clear hlt hk1 hk2
          go_wp2
          go_ret
          first | exact ⟨⟨_, rfl⟩, L', Ho4.out, Hp.out, Hf.out, Hby.out, Hb4.out⟩ | exact ⟨_, rfl, L', Ho4.out, Hp.out, Hf.out, Hby.out, Hb4.out⟩

set_option maxRecDepth 8000 in
set_option maxHeartbeats 1000000 in
theorem heap_Pop {w : World} {lo hi B : Nat} {h : Nat → Value} {vs wt : Value} {T L : List Vx} {wv : Nat → Nat} (o : Oq w lo hi B h vs wt T wv L) (hv : VsH w lo h L) {n : Nat} (hn : L.length = n + 1) (hL : L.length ≤ 1048577) (hh : HpN L L.length) :
    Calls Tryd.prog 51 #[.iface 95 (.pointer (some ⟨B, 218, none⟩))] w fun e w' => e = .returned (.iface 57 (.pointer (some ⟨qV h (L.getD 0 vx0), 0, none⟩))) ∧ ∃ wt' L', Oq w' lo hi B h vs wt' T wv L' ∧ (L' ++ [L.getD 0 vx0]).Perm L ∧ HpN L' L'.length ∧ Bx hi B w w' := by
  have hmL := wait_mLen
  have hmS := wait_mSwap
  have hmP := wait_mPop
  have hcL := wait_cLen
  have hcS := wait_cSwap
  have hcP := wait_cPop
  have hw := o.cwt
  obtain ⟨a, cap, rfl, _⟩ := o.ow.slice
  rw [List.length_map] at *
  have HL := Lib.hid (fun W => wait_Len a L.length cap W)
  have HS := Lib.hid (wait_Swap o 0 n rfl (by omega) (by omega) (by omega))
  have Hv := Lib.hid hv
  have Hd := Lib.hid (hpd_swap hn (hn ▸ hh))
  have Hpm := Lib.hid (swp_perm (L := L) (i := 0) (j := n) (by omega) (by omega))
  have Hge := Lib.hid (show (swpL L 0 n).getD n vx0 = L.getD 0 vx0 by rw [swp_get (by omega) (by omega), if_pos rfl])
  have e1 : IntKind.i64.wrap ((L.length : Int) - 1) = (n : Int) := by rw [IntWalk.i64_in _ (by omega)]; omega
  have Hn := Lib.hid hn
  clear o hv hh hn
  generalize L.getD 0 vx0 = x0 at *
  go_enter Tryd.func51, Tryd.ntmps51
  go_wp2_with fail
  refine (HL.out _).mono ?_
  rintro e w1 ⟨rfl, rfl⟩
  go_wp2_with fail
  refine HS.out.mono ?_
  rintro e w2 ⟨rfl, o2, hb2⟩
  have hl2 : (swpL L 0 n).length = L.length := swp_len _ _ _
  have hn := Hn.out
  have HD := Lib.hid (heap_down (hl2 ▸ o2) (Hv.out.perm (hb2.low o2.hl o2.hB) Hpm.out) n (by omega) (by omega) (by omega) Hd.out)
  have Hb2 := Lib.hid hb2
  clear o2 hb2 hw hn
  generalize swpL L 0 n = M at *
  have Hl2 := Lib.hid hl2
  clear hl2
  go_wp2_with fail
  refine HD.out.mono ?_
  rintro e w3 ⟨bv, rfl, L', o3, hp3, hn3, hby, hb3⟩
  have hlen : L'.length = n + 1 := by rw [hp3.length_eq, Hl2.out]; exact Hn.out
  have HP := Lib.hid (wait_Pop o3 hlen (by have := Hn.out; omega))
  have Hfin := Lib.hid (show (L'.dropLast ++ [x0]).Perm L by
    have e := perm_last hlen
    rw [hby n (Nat.le_refl _), Hge.out] at e
    rw [← e]
    exact hp3.trans Hpm.out)
  have Hqe : Hid (L'.getD n vx0 = x0) := Lib.hid ((hby n (Nat.le_refl _)).trans Hge.out)
  rw [Hqe.out] at HP
  have Hh := Lib.hid (hpn_drop hlen hn3)
  have Hb3 := Lib.hid (Hb2.out.trans hb3)
  clear o3 hb3 hby hn3 hp3 hlen
  go_wp2_with fail
  refine HP.out.mono ?_
  rintro e w4 ⟨rfl, wt4, o4, hb4⟩
  have Ho4 := Lib.hid o4; have Hb4 := Lib.hid (Hb3.out.trans hb4)
  clear o4 hb4
  go_wp2
  go_ret
  exact ⟨rfl, _, L'.dropLast, Ho4.out, Hfin.out, Hh.out, Hb4.out⟩

end Go.Proofs.YtjaacdapibokiabDoor

/- Gathering what a wave orders, by a walk of the program's text (it calls itself: by the vertex's round); the graph is valid. -/
namespace Go.Proofs.YtjaacdapibokiabDoor
open Go.RowKit

theorem wtg_len {g : List Vx} {W : Nat} {wv : Nat → Nat} {L : List Vx} (h : Wtg g W wv L) : L.length ≤ g.length := h.1.length_le_of_subset fun z hz => ((h.2 z).1 hz).1
theorem VsH.of {w : World} {hi : Nat} {h : Nat → Value} {g L : List Vx} (v : VsA w hi h g) (hin : ∀ y ∈ g, inPl y) (hs : ∀ y ∈ L, y ∈ g) : VsH w hi h L := ⟨fun y hy => v y (hs y hy), fun y hy => hin y (hs y hy)⟩

theorem run_wave (B : Nat) (r a : Int) (hr : 0 ≤ r) (hr2 : r ≤ 30) (ha : 0 ≤ a) (ha2 : a ≤ 6) : ∃ o1, (∀ w, (Instr.indexAt 53 (.pointer (some ⟨B, 1, none⟩)) (.int .i64 r)).run Tryd.prog w = .ok (.pointer (some ⟨B, o1, none⟩)) w) ∧
    ∀ w, (Instr.indexAt 52 (.pointer (some ⟨B, o1, none⟩)) (.int .i64 a)).run Tryd.prog w = .ok (.pointer (some ⟨B, plN r a, none⟩)) w := by
  refine ⟨1 + r.toNat * 7, fun w => ?_, fun w => ?_⟩
  · exact run_index_z (s := 7) Tryd.underlying53 (by kernel_rfl) (by omega) (by omega) w
  · have := run_index_z (P := Tryd.prog) (B := B) (o := 1 + r.toNat * 7) (s := 1) (k := a.toNat) (z := a) Tryd.underlying52 (by kernel_rfl) (by omega) (by omega) w
    rw [this]
    unfold plN
    rw [Nat.mul_one, Nat.add_assoc]
def GatPost (w : World) (lo hi B : Nat) (h : Nat → Value) (vs : Value) (T : List Vx) (W : Nat) (g : List Vx) (y : Vx) (fl : Int) (wv : Nat → Nat) : Ending → World → Prop := fun e w' =>
  e = .returned (.tuple #[]) ∧ ∃ wt' wv' L', Oq w' lo hi B h vs wt' T wv' L' ∧ Gth g y fl W wv wv' ∧ Wtg g W wv' L' ∧ HpN L' L'.length ∧ Bx hi B w w'
set_option maxRecDepth 8000 in
set_option maxHeartbeats 4000000 in
theorem order_gather (w0 wl : World) (lo hi G B : Nat) (mv vs : Value) (h : Nat → Value) (g T : List Vx) (W : Nat) (fl : Int) (hL : Lk w0 wl lo G mv h g) (hsrt : Srt g) (hin : ∀ y ∈ g, inPl y) (hpar : Par g) (hr0 : ∀ y ∈ g, y.r = 0 → y.ps.length = 0) (hgp : ∀ y ∈ g, y.ps.length ≤ 1099511627776) (hgl : g.length ≤ 1048575) (hW : 0 < W) (_hW2 : W ≤ 15) (hfl : -100 ≤ fl ∧ fl ≤ 100) :
    ∀ (n : Nat) (y : Vx) (q : Nat) (w : World) (wt : Value) (wv : Nat → Nat) (L : List Vx), y ∈ g → y.r.toNat = n → h (plN y.r y.a) = ptrV q → Below lo wl w → Oq w lo hi B h vs wt T wv L → Wtg g W wv L → HpN L L.length → ClsO g wv fl y.r →
      Calls Tryd.prog 49 #[.pointer (some ⟨B, 0, none⟩), .int .i64 W, .pointer (some ⟨q, 0, none⟩), .int .i64 fl] w (GatPost w lo hi B h vs T W g y fl wv) := by
  have hself : ∀ y ∈ g, ∀ p ∈ y.ps, ∃ z ∈ g, z.r = y.r - 1 ∧ z.a = p := hpar
  have HL := Lib.hid hL; clear hL
  have Hsrt := Lib.hid hsrt; clear hsrt
  have Hin := Lib.hid hin; clear hin
  have Hpar := Lib.hid hself; clear hself hpar
  have Hr0 := Lib.hid hr0; clear hr0
  have Hgp := Lib.hid hgp; clear hgp
  have hmk : ∀ x w, (Instr.makeInterface 57 x).run Tryd.prog w = .ok (.iface 57 x) w := fun x w => run_makeInterface w 57 x (by kernel_rfl)
  have hmw : ∀ x w, (Instr.makeInterface 95 x).run Tryd.prog w = .ok (.iface 95 x) w := fun x w => run_makeInterface w 95 x (by kernel_rfl)
  obtain ⟨hf1, hf2⟩ := hfl
  intro n
  induction n using Nat.strongRecOn with
  | _ n ih =>
  intro y q w wt wv L hy hn hq hbl o hwt hhp hc
  have iy := Hin.out y hy
  unfold inPl at iy
  obtain ⟨i0, i1, i2, i3⟩ := iy
  have hlw := HL.out.low hbl
  obtain ⟨q', hq', nd⟩ := hlw.has y hy
  have hqq : q' = q := by rw [hq] at hq'; unfold ptrV at hq'; simp at hq'; exact hq'.symm
  subst hqq
  obtain ⟨pa, pc, pv, qs, sq, iq, srq, own, hob, hql, hqp⟩ := nd.ex
  have hqhi : q' < lo := nd.lt
  obtain ⟨pp, pcap, rfl, _⟩ := own.slice
  have HN := Lib.hid (fun W' (hW : Below lo w W') => (⟨(hW.block _ hqhi).trans sq, own.same fun g e => hW.block g (hob g e).2⟩ : Str W' q' 59 #[.int .i64 y.r, .int .i64 y.a, .slice pa y.ps.length pc, .int .i64 y.d, .slice pp qs.length pcap] ∧ OwnP 57 W' w0.heap.size (.slice pp qs.length pcap) qs))
  have hqlen : qs.length ≤ 1099511627776 := by have := Hgp.out y hy; omega
  obtain ⟨o1, ho1, ho2⟩ := run_wave B y.r y.a i0 i1 i2 i3
  have hpb := plN_bd i1 i3
  have e0 := sq.cell 0 (v := .int .i64 y.r) rfl
  have e1 := sq.cell 1 (v := .int .i64 y.a) rfl
  have em := o.cwv hpb.1 hpb.2
  have Hq := Lib.hid (qV_of hq)
  have HG := Lib.hid hbl
  have Ho := Lib.hid o
  have Hwt := Lib.hid hwt
  have Hhp := Lib.hid hhp
  have Hc := Lib.hid hc
  have Hn := Lib.hid hn
  have Hqp := Lib.hid hqp
  have Hql := Lib.hid hql
  have Hih := Lib.hid ih
  clear hbl o hwt hhp hc hn hqp hql sq iq srq own hob nd hq hq' ih hlw
  by_cases hlt : y.r < fl
  · have Hd := Lib.hid (gth_old (W := W) (.inl hlt) Hc.out)
    go_enter Tryd.func49, Tryd.ntmps49
    go_wp2_with fail
    go_quiet (fail)
    go_wp2
    go_end0
    exact ⟨rfl, wt, wv, L, Ho.out.below (below_drewN (Below.refl _ _) _), Hd.out, Hwt.out, Hhp.out, Bx.of (below_drewN (Below.refl _ _) _) Ho.out.hz⟩
  by_cases hpos : 0 < wv (plN y.r y.a)
  · have Hd := Lib.hid (gth_old (W := W) (.inr hpos) Hc.out)
    have hpos' : 0 < ((wv (plN y.r y.a) : Nat) : Int) := by omega
    go_enter Tryd.func49, Tryd.ntmps49
    go_wp2_with fail
    go_quiet (fail)
    go_wp2
    go_end0
    exact ⟨rfl, wt, wv, L, Ho.out.below (below_drewN (Below.refl _ _) _), Hd.out, Hwt.out, Hhp.out, Bx.of (below_drewN (Below.refl _ _) _) Ho.out.hz⟩
  have hz : wv (plN y.r y.a) = 0 := by omega
  rw [hz] at em
  have em : w.cell? ⟨B, plN y.r y.a, none⟩ = some (.int .i64 0) := em
  have ef := Ho.out.st.frozen (plN y.r y.a)
  have Hk0 := Lib.hid (gtk_start Hsrt.out Hin.out hW hy (by omega) hz Hc.out)
  have Hset := Lib.hid (fun n => (Ho.out.below (below_drewN (Below.refl _ _) n)).setWv (plN y.r y.a) W hpb.1 hpb.2)
  have hBs := Ho.out.hB
  have Hpu := Lib.hid (fun (L' : List Vx) (hp : L'.Perm (L ++ [y])) => wtg_push Hsrt.out Hin.out hy hW hz Hwt.out hp)
  have hLl := wtg_len Hwt.out
  have HVs := Lib.hid (fun W' (hW' : Below lo w W') => VsH.of (L := L ++ [y]) ((HL.out.low HG.out).vsA.low hW') Hin.out (fun z hz => by
    rcases List.mem_append.1 hz with h1 | h1
    · exact ((Hwt.out.2 z).1 h1).1
    · rw [List.mem_singleton] at h1; rw [h1]; exact hy))
  clear hz hpos
  go_enter Tryd.func49, Tryd.ntmps49
  go_wp2_with fail
  go_quiet (fail)
  go_wp2_with fail
  have o1' := Hset.out nq
  have hb1 : Bx hi B w ((w.drewN nq).setCell ⟨B, plN y.r y.a, none⟩ (.int .i64 W)) := (Bx.of (below_drewN (Below.refl w.heap.size w) nq) Ho.out.hz).setCell (p := ⟨B, plN y.r y.a, none⟩) (.inr rfl) _
  generalize (w.drewN nq).setCell ⟨B, plN y.r y.a, none⟩ (.int .i64 W) = w1 at *
  refine (heap_Push o1' y q' Hq.out (HVs.out w1 (hb1.low Ho.out.hl hBs)) (by omega) Hhp.out).mono ?_
  rintro e w2 ⟨rfl, wt2, L2, o2, hp2, hh2, hb2⟩
  have Hb2 := Lib.hid (hb1.trans hb2)
  have Ho2 := Lib.hid o2
  have Hh2 := Lib.hid hh2
  have Hwt2 := Lib.hid (Hpu.out L2 hp2)
  have e4 := (HN.out w2 (Hb2.out.low Ho.out.hl hBs)).1.cell 4 (v := .slice pp qs.length pcap) rfl
  clear o1' hb1 hb2 o2 hh2 hp2 e0 e1 em ef Hset Hpu HVs ho1 ho2 hpb
  go_wp2_with fail
  go_loopw [56] (fun i wr => ∃ (k : Nat) (wt' : Value) (v2 : Nat → Nat) (L' : List Vx), k ≤ qs.length ∧ i = .int .i64 k ∧ Oq wr lo hi B h vs wt' T v2 L' ∧ Gtk g y fl W wv v2 k ∧ Wtg g W v2 L' ∧ HpN L' L'.length ∧ Bx hi B w wr) (fun i _ => qs.length - (intOf i).toNat)
  case atStart => exact ⟨0, _, _, L2, by omega, rfl, Ho2.out, Hk0.out, Hwt2.out, Hh2.out, Hb2.out⟩
  case round =>
    obtain ⟨k, wt', v2, L', hk, rfl, o3, hgk, hw3, hh3, hb3⟩ := hrel
    by_cases hlt : k < qs.length
    · obtain ⟨gb, cap, ep, _, _, hcell⟩ := (HN.out wr (hb3.low Ho.out.hl hBs)).2.cell k hlt
      have hkp : k < y.ps.length := by have := Hql.out; omega
      obtain ⟨z, hz, hzr, hza⟩ := Hpar.out y hy y.ps[k] (List.getElem_mem hkp)
      have hr1 : 1 ≤ y.r := by
        by_cases e : y.r = 0
        · have := Hr0.out y hy e; omega
        · omega
      have hzq : h (plN z.r z.a) = ptrV qs[k] := by rw [hzr, hza]; exact Hqp.out k hlt hkp
      have iz := Hin.out z hz
      unfold inPl at iz
      have Hcall := Lib.hid (Hih.out z.r.toNat (by have := Hn.out; omega) z qs[k] wr wt' v2 L' hz rfl hzq (HG.out.trans (hb3.low Ho.out.hl hBs)) o3 hw3 hh3 (by rw [hzr]; exact hgk.cls))
      have Hstep := Lib.hid (fun v3 => gtk_step (w2 := v3) Hin.out hy hW hgk hz hkp hzr hza)
      have Hb3 := Lib.hid hb3
      simp only [Value.slice.injEq, true_and] at ep
      obtain ⟨rfl, rfl⟩ := ep
      unfold ptrV at hcell
      generalize qs[k] = qk at *
      clear hb3 o3 hw3 hh3 hgk hzr hza hzq iz hr1 hkp e4
      go_wp2_with fail
      refine Hcall.out.mono ?_
      rintro e w4 ⟨rfl, wt4, v4, L4, o4, hg4, hw4, hh4, hb4⟩
      have Ho4 := Lib.hid o4; have Hg4 := Lib.hid hg4; have Hw4 := Lib.hid hw4; have Hh4 := Lib.hid hh4; have Hb4 := Lib.hid (Hb3.out.trans hb4)
      clear o4 hg4 hw4 hh4 hb4 hcell
      go_wp2
      go_roundw
      case rel => exact ⟨k + 1, wt4, v4, L4, by omega, by go_num, Ho4.out, Hstep.out _ Hg4.out, Hw4.out, Hh4.out, Hb4.out⟩
      case measure => simp [intOf]; omega
    · have hke : k = y.ps.length := by have := Hql.out; omega
      rw [hke] at hgk
      have Hend := Lib.hid (gtk_end Hsrt.out Hin.out hy Hc.out hgk)
      have Ho3 := Lib.hid o3; have Hw3 := Lib.hid hw3; have Hh3 := Lib.hid hh3; have Hb3 := Lib.hid hb3
      clear hgk o3 hw3 hh3 hb3 hke e4
      go_wp2
      go_end0
      exact ⟨rfl, wt', v2, L', Ho3.out, Hend.out, Hw3.out, Hh3.out, Hb3.out⟩

end Go.Proofs.YtjaacdapibokiabDoor

/- Ordering what a wave adds, by a walk of the program's text; the graph and the leaders are valid. -/
namespace Go.Proofs.YtjaacdapibokiabDoor
open Go.RowKit

/-- How many wait, as memory has it. -/
def lenAt (B : Nat) (w : World) : Nat := match w.cell? ⟨B, 218, none⟩ with | some (.slice _ n _) => n | _ => 0
theorem lenAt_of {B : Nat} {w : World} {a : Option Addr} {n c : Nat} (h : w.cell? ⟨B, 218, none⟩ = some (.slice a n c)) : lenAt B w = n := by unfold lenAt; rw [h]
/-- What is known of the waves so far. -/
structure WvsOk (g : List Vx) (ls : List Int) (O : List Nat) (w : Nat) : Prop where
  pos : ∀ v ∈ O, 1 ≤ v ∧ 0 ≤ ldZ g ls v
  lt : ∀ v ∈ O, v < w
  w1 : 1 ≤ w
  w15 : w ≤ 15
  has : 0 ≤ ldZ g ls w
theorem wt_start {g : List Vx} {ls : List Int} {O : List Nat} {w : Nat} {wv : Nat → Nat} (h : WvOk g ls O wv) (ok : WvsOk g ls O w) : Wtg g w wv [] := by
  refine ⟨List.nodup_nil, fun z => ⟨fun h => (by cases h), fun ⟨hz, e⟩ => ?_⟩⟩
  obtain ⟨k, hk, rfl⟩ := List.mem_iff_getElem.1 hz
  rw [h k hk] at e
  have := ok.w1
  have h1 := (ow_find (g := g) (ls := ls) (O := O) (k := k) (by omega)).1
  have := ok.lt _ h1
  omega

set_option maxRecDepth 8000 in
set_option maxHeartbeats 4000000 in
theorem order_addWave (w0 wl : World) (lo hi G B : Nat) (mv vs wt : Value) (h : Nat → Value) (c : List Int) (g T : List Vx) (ls : List Int) (O : List Nat) (W q : Nat) (w : World) (wv : Nat → Nat) (hL : Lk w0 wl lo G mv h g) (ok : Good21 c g ls) (hgl : g.length ≤ 1048575) (hO : WvsOk g ls O W) (hv : WvOk g ls O wv)
    (hq : h (plN (ldV g ls W).r (ldV g ls W).a) = ptrV q) (hbl : Below lo wl w) (o : Oq w lo hi B h vs wt T wv []) (hT : T.length ≤ 1048576) :
    Calls Tryd.prog 33 #[.pointer (some ⟨B, 0, none⟩), .int .i64 W, .pointer (some ⟨q, 0, none⟩)] w fun e w' => e = .returned (.tuple #[]) ∧ ∃ vs' wt' wv', Oq w' lo hi B h vs' wt' (T ++ segV g ls (O ++ [W]) W) wv' [] ∧ WvOk g ls (O ++ [W]) wv' ∧ Bx hi B w w' := by
  obtain ⟨hLg, hLr, hLa⟩ := ldV_at hO.has
  have hw1 := hO.w1
  have hw15 := hO.w15
  have HGa := Lib.hid (order_gather w0 wl lo hi G B mv vs h g T W (2 * (W : Int) - 7) hL ok.srt ok.pl ok.par ok.r0 ok.ps hgl (by omega) hw15 (by omega) _ (ldV g ls W) q w wt wv [] hLg rfl hq hbl o (wt_start hv hO) (fun _ _ h => by simp at h) (cls_next ok hO.pos hO.lt hv _))
  have HV := Lib.hid (fun wv' => wv_step (wv' := wv') ok (fun v hv => (hO.pos v hv).1) hw1 hO.has hv)
  have HM := Lib.hid (fun wv' (L : List Vx) (h1 : WvOk g ls (O ++ [W]) wv') (h2 : Wtg g W wv' L) => wt_seg h1 ok.srt h2)
  have HMs := Lib.hid (seg_srt (ls := ls) (O := O ++ [W]) (w := W) ok.srt)
  have HMg := Lib.hid (show ∀ y ∈ segV g ls (O ++ [W]) W, y ∈ g from fun y hy => by obtain ⟨k, hk, e, _⟩ := seg_mem.1 hy; rw [← e]; exact List.getElem_mem hk)
  have HMl : (segV g ls (O ++ [W]) W).length ≤ 1048575 := by
    have : (segV g ls (O ++ [W]) W).length ≤ g.length := by
      unfold segV; rw [List.length_map]
      have := List.length_filter_le (fun k => owN g ls (O ++ [W]) k == W) (List.range g.length)
      rwa [List.length_range] at this
    omega
  generalize segV g ls (O ++ [W]) W = M at *
  obtain ⟨q', hq', nd⟩ := (hL.low hbl).has _ hLg
  have hqq : q' = q := by rw [hq] at hq'; unfold ptrV at hq'; simp at hq'; exact hq'.symm
  subst hqq
  obtain ⟨pa, pc, pv, qs, sq, _⟩ := nd.ex
  have e0 := sq.cell 0 (v := .int .i64 (ldV g ls W).r) rfl
  rw [hLr] at e0
  have Hin := Lib.hid ok.pl
  have HVs := Lib.hid (fun W' (hW' : Below lo w W') => (hL.low (hbl.trans hW')).vsA)
  have hmw : ∀ x w, (Instr.makeInterface 95 x).run Tryd.prog w = .ok (.iface 95 x) w := fun x w => run_makeInterface w 95 x (by kernel_rfl)
  have hs : ∀ (v : Value) (w : World), (Instr.typeAssert (.iface 57 v) 20 57 false).run Tryd.prog w = .ok v w := fun v w => by kernel_rfl
  have f1 : IntKind.i64.wrap (2 * (W : Int) - 1 - 6) = 2 * (W : Int) - 7 := by rw [IntWalk.i64_in _ (by omega)]; omega
  have HB := o.hB
  have Hlh := o.hl
  clear hL ok hO hv hq hbl o nd sq hq' hLg hLr hLa
  go_enter Tryd.func33, Tryd.ntmps33
  go_wp2_with fail
  refine HGa.out.mono ?_
  rintro e w1 ⟨rfl, wt1, v1, L1, o1, hg1, hw1', hh1, hb1⟩
  have hv1 := HV.out v1 hg1
  have Hp1 := Lib.hid (pops_start (HM.out v1 L1 hv1 hw1'))
  have Hv1 := Lib.hid hv1
  have Ho1 := Lib.hid o1; have Hh1 := Lib.hid hh1; have Hb1 := Lib.hid hb1
  clear o1 hg1 hw1' hh1 hb1 hv1 e0 f1 HGa HV HM
  go_wp2_with fail
  go_loopw [] (fun wr => ∃ (vs' wt' : Value) (T' L' : List Vx), Oq wr lo hi B h vs' wt' (T ++ T') v1 L' ∧ Pops M T' L' ∧ HpN L' L'.length ∧ Bx hi B w wr) (fun wr => lenAt B wr)
  case atStart => exact ⟨_, _, [], L1, by rw [List.append_nil]; exact Ho1.out, Hp1.out, Hh1.out, Hb1.out⟩
  case round =>
    obtain ⟨vs', wt', T', L', o2, hp2, hh2, hb2⟩ := hrel
    have hw2 := o2.cwt
    have hlT : (T ++ T').length ≤ 1099511627776 := by
      have := hp2.prm.length_eq
      rw [List.length_append] at this ⊢; omega
    have hlL : L'.length ≤ 1048575 := by
      have := hp2.prm.length_eq
      rw [List.length_append] at this; omega
    obtain ⟨a2, c2, rfl, _⟩ := o2.ow.slice
    rw [List.length_map] at o2 hw2
    have hLa := lenAt_of hw2
    have Ho2 := Lib.hid o2; have Hp2 := Lib.hid hp2; have Hb2 := Lib.hid hb2; have Hh2 := Lib.hid hh2
    have HL := Lib.hid (fun n W => wait_Len a2 n c2 W)
    clear o2 hp2 hb2 hh2
    by_cases hz : L'.length = 0
    · have hnil : L' = [] := List.eq_nil_of_length_eq_zero hz
      subst hnil
      have Hte := Lib.hid (pops_end HMs.out Hp2.out)
      rw [List.length_nil] at hw2
      clear hz hlL hLa
      go_wp2_with fail
      refine (HL.out 0 _).mono ?_
      rintro e w3 ⟨rfl, rfl⟩
      go_wp2
      go_end0
      exact ⟨rfl, vs', _, v1, by rw [← Hte.out]; exact Ho2.out, Hv1.out, Hb2.out⟩
    · obtain ⟨m, hm⟩ : ∃ m, L'.length = m + 1 := ⟨L'.length - 1, by omega⟩
      have hpos : 0 < (L'.length : Int) := by omega
      have hMg := HMg.out
      have HP := Lib.hid (heap_Pop Ho2.out (VsH.of (HVs.out wr (Hb2.out.low Hlh HB)) Hin.out (fun y hy => hMg y (Hp2.out.prm.mem_iff.1 (List.mem_append.2 (.inr hy))))) hm (by omega) Hh2.out)
      have Hst := Lib.hid (fun L2 => pops_step (L' := L2) (fun y hy => Hin.out y (hMg y hy)) HMs.out Hp2.out hm (hm ▸ Hh2.out))
      have Hlen := Lib.hid (show ∀ L2, (L2 ++ [L'.getD 0 vx0]).Perm L' → L2.length < L'.length from fun L2 h => by have := h.length_eq; rw [List.length_append] at this; simp at this; omega)
      have Hlr := Lib.hid hLa
      have HTl := Lib.hid hlT
      clear hz hMg hm hLa hlT
      generalize L'.getD 0 vx0 = x0 at *
      generalize L'.length = n at *
      go_wp2_with fail
      refine (HL.out n _).mono ?_
      rintro e w3 ⟨rfl, rfl⟩
      go_wp2_with fail
      refine HP.out.mono ?_
      rintro e w4 ⟨rfl, wt4, L4, o4, hp4, hh4, hb4⟩
      have hw4 := o4.cvs
      have hwt4 := o4.cwt
      have Hst4 := Lib.hid (Hst.out L4 hp4)
      have Hl4 := Lib.hid (Hlen.out L4 hp4)
      have Hh4 := Lib.hid hh4
      have Hb4 := Lib.hid (Hb2.out.trans hb4)
      have Hov := Lib.hid o4.ov
      have hll : (List.map (qV h) (T ++ T')).length ≤ 1099511627776 := by rw [List.length_map]; exact HTl.out
      have HPv := Lib.hid (fun w5 vs5 => o4.pushV (w1 := w5) (vs' := vs5) (y := x0) rfl)
      have hB4 : hi ≤ w4.heap.size := o4.hz
      have Hnv := Lib.hid o4.nv
      have Hsto := Lib.hid o4.st
      have Hvl := Lib.hid (World.ownsRow.lt o4.ov)
      have Hw4t := Lib.hid o4.ow.slice
      clear o4 hp4 hh4 hb4 hw2 Hst Hlen
      generalize qV h x0 = q0 at *
      go_wp2_with (at_builtin; refine wpList_pushP Tryd.underlying51 (by kernel_rfl) rfl (.tmp 33) (.tmp 35) rfl hi vs' (List.map (qV h) (T ++ T')) q0 rfl Hov.out hll rfl hB4 ?_; intro v8 w8 hown8 hg8 hloc8; (obtain ⟨a8, n8, c8, rfl⟩ : ∃ a n c, v8 = Value.slice a n c := (by obtain ⟨a, c, e, _⟩ := hown8.slice; exact ⟨a, _, c, e⟩)); (have t8 := Str.kept Hsto.out hg8 (fun e => Hnv.out e.symm)); (have j8 := t8.cell 0 (ordA_vs _ _ _)); (have f8 := t8.frozen 0); (have H8 := Lib.hid (HPv.out w8 _ hown8 hg8 hloc8)); (have Hb8 := Lib.hid ((Hb4.out.grown hg8 hB4 (fun g e => (Hvl.out g e).1)).setCell (p := ⟨B, 0, none⟩) (.inr rfl) (.slice a8 n8 c8))); (clear t8 hown8 hloc8 hg8))
      go_roundw
      case rel => exact ⟨_, wt4, T' ++ [x0], L4, by rw [← List.append_assoc]; exact H8.out, Hst4.out, Hh4.out, Hb8.out⟩
      case measure =>
        have h9 := H8.out.cwt
        obtain ⟨a9, c9, e9, _⟩ := Hw4t.out
        rw [e9, List.length_map] at h9
        rw [lenAt_of h9, Hlr.out]
        exact Hl4.out

end Go.Proofs.YtjaacdapibokiabDoor

/- impl's votes for a wave's leader vertex and whether it is committed directly, by walks of their texts; conditions: the graph and the leaders are valid, lists are shorter than 2^40. -/
namespace Go.Proofs.YtjaacdapibokiabDoor
open Go.RowKit

section
variable {w0 w : World} {hi G q : Nat} {ac : Option Addr} {capc : Nat} {c : List Int} {h : Nat → Value} {g : List Vx} {al : Option Addr} {cap : Nat} {ls : List Int} {eN eI : Addr}
theorem run_row (G : Nat) (r : Int) (k : Nat) (hr : r = k) (hk : k < 31) : ∀ w, (Instr.indexAt 89 (.pointer (some ⟨G, 1, none⟩)) (.int .i64 r)).run Tryd.prog w = .ok (.pointer (some ⟨G, 1 + k * 7, none⟩)) w :=
  fun w => run_index_z (s := 7) Tryd.underlying89 (by kernel_rfl) hr hk w
set_option maxRecDepth 8000 in
theorem led_votes_bad {mv : Value} (l : Lg w0 w hi G q mv h g al cap ls) (hs : Sen w eN eI) (k : Int) (hl : ls.length ≤ 15) (hk : ¬ (1 ≤ k ∧ k ≤ ls.length)) :
    Calls Tryd.prog 62 #[.pointer (some ⟨q, 0, none⟩), .int .i64 k] w fun e w' => e = .returned (.tuple #[.int .i64 0, .iface 139 (.pointer (some eI))]) ∧ Drawn w w' := by
  have H := Lib.hid (led_leader_bad l hs k hl hk)
  clear hs l hk
  go_enter Tryd.func62, Tryd.ntmps62
  go_wp2_with fail
  refine H.out.mono ?_
  rintro e w1 ⟨rfl, hd⟩
  go_wp2
  go_ret2
  exact ⟨rfl, hd⟩
set_option maxRecDepth 8000 in
set_option maxHeartbeats 2000000 in
theorem led_votes (l : Lg w0 w hi G q (.slice ac c.length capc) h g al cap ls) (hs : Sen w eN eI) (k : Nat) (hk : 1 ≤ k ∧ k ≤ ls.length) (ok : Good21 c g ls) (hbg : g.length ≤ 1048576) (hc : IntsAt w ac c) (hi' : IntsAt w al ls) :
    Calls Tryd.prog 62 #[.pointer (some ⟨q, 0, none⟩), .int .i64 k] w fun e w' => ((ldZ g ls k = -1 ∧ e = .returned (.tuple #[.int .i64 0, .iface 139 (.pointer (some eN))])) ∨
      (0 ≤ ldZ g ls k ∧ e = .returned (.tuple #[.int .i64 (voZ c g ls k), .nilIface]))) ∧ Drawn w w' := by
  have H := Lib.hid (led_leader l hs k hk ok.l15 ok.l6 hi' ok.pl)
  have HLg := Lib.hid l
  have Hok := Lib.hid ok
  have Hc := Lib.hid hc
  have h15 := ok.l15
  obtain ⟨hk1, hk2⟩ := hk
  clear hs l ok hc hi'
  go_enter Tryd.func62, Tryd.ntmps62
  go_wp2_with fail
  refine H.out.mono ?_
  rintro e w1 ⟨hcase, hd⟩
  have Hd := Lib.hid hd; clear hd
  rcases hcase with ⟨hz, rfl⟩ | ⟨j, hj, p, hz, hp, rfl⟩
  · have Hz := Lib.hid hz; clear hz
    go_wp2
    go_ret2
    exact ⟨.inl ⟨Hz.out, rfl⟩, Hd.out⟩
  have HL1 := Lib.hid (HLg.out.under (Hd.out.below _))
  have hz2 : g[j].r = 2 * (k : Int) - 1 ∧ g[j].a = ls.getD (k - 1) 0 := by
    rcases findZ_cases g (2 * (k : Int) - 1) (ls.getD (k - 1) 0) with ⟨e, _⟩ | ⟨j', hj', e, hsm, _⟩
    · exact absurd (show ldZ g ls k = -1 from e) (by omega)
    · have : j' = j := by have e9 : ldZ g ls k = j' := e; omega
      subst this
      exact of_decide_eq_true hsm
  have Hz := Lib.hid (show 0 ≤ ldZ g ls k ∧ voZ c g ls k = votTo c (ls.getD (k - 1) 0) (2 * (k : Int)) g g.length from ⟨by omega, by unfold voZ; rw [if_pos (by omega)]⟩)
  generalize ls.getD (k - 1) 0 = L at *
  have Hhas := Lib.hid (fun (y : Vx) (hy : y ∈ g) (hr : y.r = 2 * (k : Int)) (qs : List Nat) hl hq => nd_has HL1.out.lk Hok.out.par (z := g[j]) hy (List.getElem_mem hj) (by omega) hp (qs := qs) hl hq)
  have hpB : ∃ c t, w1.heap[p]? = some (.cells c t (0, 0)) := by
    obtain ⟨qz, hqz, nz⟩ := HL1.out.lk.has g[j] (List.getElem_mem hj)
    rw [hp] at hqz
    have e : p = qz := by unfold ptrV at hqz; simpa using hqz
    obtain ⟨_, _, _, _, sz, _⟩ := nz.ex
    rw [e]; exact ⟨_, _, sz⟩
  have Hptr := Lib.hid (show ∀ y ∈ g, ∃ qy, h (plN y.r y.a) = ptrV qy ∧ ∃ c t, w1.heap[qy]? = some (.cells c t (0, 0)) from fun y hy => by
    obtain ⟨qz, hqz, nz⟩ := HL1.out.lk.has y hy
    obtain ⟨_, _, _, _, sz, _⟩ := nz.ex
    exact ⟨qz, hqz, _, _, sz⟩)
  rw [hz2.2] at Hhas
  have HpB := Lib.hid hpB
  have q0 := HL1.out.st.cell 0 (v := .pointer (some ⟨G, 0, none⟩)) rfl
  have g0 := HL1.out.lk.cell (k := 0) (by omega)
  rw [HL1.out.lk.mem] at g0
  have hrow := run_row G (2 * (k : Int)) (2 * k) (by omega) (by omega)
  have hrange : w1.rangeAt G (1 + 2 * k * 7) (arrP 7 fun a => h (1 + (2 * k * 7 + a))).toList := by
    have h1 := World.rangeAt_of_block HL1.out.lk.str (1 + 2 * k * 7) 7
    rw [arrP_extract 218 h (1 + 2 * k * 7) 7 (by omega)] at h1
    have e : (fun a => h (1 + 2 * k * 7 + a)) = fun a => h (1 + (2 * k * 7 + a)) := by funext a; rw [Nat.add_assoc]
    rw [e] at h1
    exact h1
  have Hrange := Lib.hid hrange
  have e5 : 1 ≤ (k : Int) := by omega
  have e6 : (k : Int) ≤ 15 := by omega
  have ew : IntKind.i64.wrap (2 * (k : Int)) = 2 * (k : Int) := IntWalk.i64_in _ (by omega)
  have Hhj := Lib.hid hj
  have Hhp := Lib.hid hp
  have Hz0 := Lib.hid hz
  have Hz2 := Lib.hid hz2
  have Hw1 := Lib.hid (show Below w.heap.size w w1 from Hd.out.below _)
  clear hrange hpB hz hp hz2
  go_wp2_with (refine wpList_load_mid rfl 87 _ rfl G (1 + 2 * k * 7) rfl (arrP 7 fun a => h (1 + (2 * k * 7 + a))).toList _ Hrange.out Tryd.underlying87 rfl (by rw [Array.length_toList, arrP_size]; kernel_rfl) ?_)
  generalize hrw : arrP 7 (fun a => h (1 + (2 * k * 7 + a))) = row at *
  have hget : ∀ a, a < 7 → row[a]? = some (h (1 + (2 * k * 7 + a))) := fun a ha => by rw [← hrw]; exact arrP_get ha
  have Hget := Lib.hid hget
  clear hget hrw Hrange hrow ew
  go_loopw [8, 30] (fun n i wr => ∃ a : Nat, a ≤ 7 ∧ i = .int .i64 a ∧ n = .int .i64 (votP c L (2 * k) g a) ∧ w1 = wr) (fun _ i _ => 7 - (intOf i).toNat)
  case atStart => exact ⟨0, by omega, rfl, by rw [votP_zero Hok.out.pl], rfl⟩
  case round =>
    obtain ⟨a, ha, rfl, rfl, rfl⟩ := hrel
    have hbd := votP_bd (c := c) (L := L) (r := 2 * k) (a := a) (g := g) Hok.out.hv
    by_cases hla : a < 7
    · have hla' : (a : Int) < 7 := by omega
      have hx2 := fun W => run_index_one (P := Tryd.prog) (cs := row) Tryd.underlying87 Tryd.underlying57 rfl (by kernel_rfl) hla (Hget.out a hla) W
      rcases HL1.out.lk.cases (2 * k) a (by omega) hla with ⟨y, hy, er, ea, qy, hqy, hn⟩ | ⟨hq, hn⟩
      · have er' : y.r = 2 * (k : Int) := by rw [er]; omega
        rw [hqy] at hx2
        unfold ptrV at hx2
        obtain ⟨pa, pc, pv, qs, sq, iq, srq, own, hob, hql, hqp⟩ := hn.ex
        obtain ⟨pp, pcap, rfl, _⟩ := own.slice
        have c4 := sq.cell 4 (v := .slice pp qs.length pcap) rfl
        have hqB : ∀ x, x = p ∨ x ∈ qs → ∃ c t, w1.heap[x]? = some (.cells c t (0, 0)) := by
          rintro x (rfl | hx)
          · exact HpB.out
          · obtain ⟨i, hi2, rfl⟩ := List.mem_iff_getElem.1 hx
            have hii : i < y.ps.length := by omega
            obtain ⟨z, hz, hzr, hza⟩ := Hok.out.par y hy y.ps[i] (List.getElem_mem hii)
            obtain ⟨qz, hqz, cz, tz, hzB⟩ := Hptr.out z hz
            rw [hzr, hza, hqp i hi2 hii] at hqz
            have e : qs[i] = qz := by unfold ptrV at hqz; simpa using hqz
            rw [e]; exact ⟨cz, tz, hzB⟩
        have HC := Lib.hid (lib_ContainsP pp pcap qs p w0.heap.size w1 (by have := Hok.out.ps y hy; omega) own hqB)
        have hiff := Hhas.out y hy er' qs hql hqp
        have hau := Hok.out.aut y hy
        have Hs := Lib.hid (votP_yes (c := c) (L := L) Hok.out.srt hy er ea)
        have Hiff := Lib.hid hiff
        have hA : (a : Int) < c.length := by omega
        obtain ⟨bc, oc, rfl, hbc, hac⟩ := (Hc.out.below Hw1.out).cell (by omega)
        have hcc := hac a (by omega)
        have hcg : c.getD a 0 = c[a]'(by omega) := getD_get (by omega)
        rw [← hcg] at hcc
        have hcb : 0 ≤ c.getD a 0 ∧ c.getD a 0 ≤ 9 := by rw [hcg]; have := validB_good Hok.out.hv a (by omega); omega
        clear hac hcg hau hiff hqB hob own srq iq sq hql hqp hn hqy er er' ea hy
        generalize c.getD a 0 = cA at *
        generalize votP c L (2 * k) g a = V at *
        cases hh : decide (p ∈ qs) with
        | true =>
          rw [hh] at HC
          have HV := Lib.hid (show votP c L (2 * k) g (a + 1) = V + cA by rw [Hs.out, if_pos (Hiff.out.1 (of_decide_eq_true hh))])
          clear hh Hs Hiff
          go_wp2_with fail
          refine HC.out.mono ?_
          rintro e w2 ⟨rfl, rfl⟩
          go_wp2
          go_roundw
          case rel => exact ⟨a + 1, by omega, by go_num, by rw [HV.out], trivial⟩
          case measure => simp [intOf]; omega
        | false =>
          rw [hh] at HC
          have HV := Lib.hid (show votP c L (2 * k) g (a + 1) = V by rw [Hs.out, if_neg (fun e => of_decide_eq_false hh (Hiff.out.2 e))]; omega)
          clear hh Hs Hiff
          go_wp2_with fail
          refine HC.out.mono ?_
          rintro e w2 ⟨rfl, rfl⟩
          go_wp2
          go_roundw
          case rel => exact ⟨a + 1, by omega, by go_num, by rw [HV.out], trivial⟩
          case measure => simp [intOf]; omega
      · rw [hq] at hx2
        have HV := Lib.hid (votP_no (c := c) (L := L) (r := 2 * k) (a := a) Hok.out.srt hn)
        clear hq hn
        generalize votP c L (2 * k) g a = V at *
        go_wp2
        go_roundw
        case rel => exact ⟨a + 1, by omega, by go_num, by rw [HV.out], trivial⟩
        case measure => simp [intOf]; omega
    · have ha7 : a = 7 := by omega
      subst ha7
      have Hv := Lib.hid (show voZ c g ls k = votP c L (2 * k) g 7 by rw [Hz.out.2, votP_all Hok.out.pl]; rfl)
      generalize votP c L (2 * k) g 7 = V at *
      go_wp2
      go_ret2
      exact ⟨.inr ⟨Hz.out.1, by rw [Hv.out]; rfl⟩, Hd.out⟩
end

section
variable {w0 w : World} {hi G q : Nat} {ac : Option Addr} {capc : Nat} {c : List Int} {h : Nat → Value} {g : List Vx} {al : Option Addr} {cap : Nat} {ls : List Int} {eN eI : Addr}
set_option maxRecDepth 8000 in
theorem led_direct_bad {mv : Value} (l : Lg w0 w hi G q mv h g al cap ls) (hs : Sen w eN eI) (k : Int) (hl : ls.length ≤ 15) (hk : ¬ (1 ≤ k ∧ k ≤ ls.length)) :
    Calls Tryd.prog 47 #[.pointer (some ⟨q, 0, none⟩), .int .i64 k] w fun e w' => e = .returned (.bool false) ∧ Drawn w w' := by
  have H := Lib.hid (led_votes_bad l hs k hl hk)
  clear hs l hk
  go_enter Tryd.func47, Tryd.ntmps47
  go_wp2_with fail
  refine H.out.mono ?_
  rintro e w1 ⟨rfl, hd⟩
  go_wp2
  go_ret
  exact ⟨rfl, hd⟩
set_option maxRecDepth 8000 in
set_option maxHeartbeats 1000000 in
theorem led_direct (l : Lg w0 w hi G q (.slice ac c.length capc) h g al cap ls) (hs : Sen w eN eI) (k : Nat) (hk : 1 ≤ k ∧ k ≤ ls.length) (ok : Good21 c g ls) (hbg : g.length ≤ 1048576) (hc : IntsAt w ac c) (hi' : IntsAt w al ls) :
    Calls Tryd.prog 47 #[.pointer (some ⟨q, 0, none⟩), .int .i64 k] w fun e w' => e = .returned (.bool (decide (totalZ c / 3 + 1 ≤ voZ c g ls k))) ∧ Drawn w w' := by
  have H := Lib.hid (led_votes l hs k hk ok hbg hc hi')
  have HL := Lib.hid l
  have HS := Lib.hid (fun W (hb : Below w.heap.size w W) => committee_support ac capc c W ok.hv (hc.below hb))
  have hbd := totalZ_bd ok.hv
  clear hs l hk ok hc hi'
  go_enter Tryd.func47, Tryd.ntmps47
  go_wp2_with fail
  refine H.out.mono ?_
  rintro e w1 ⟨hcase, hd⟩
  have Hd := Lib.hid hd; clear hd
  rcases hcase with ⟨hz, rfl⟩ | ⟨hz, rfl⟩
  · have Hr := Lib.hid (show decide (totalZ c / 3 + 1 ≤ voZ c g ls k) = false from decide_eq_false (by unfold voZ; rw [if_neg (by omega)]; omega))
    clear hz
    go_wp2
    go_ret
    exact ⟨by rw [Hr.out]; rfl, Hd.out⟩
  · clear hz
    have q0 := (HL.out.under (Hd.out.below _)).st.cell 0 (v := .pointer (some ⟨G, 0, none⟩)) rfl
    have g0 := (HL.out.under (Hd.out.below _)).lk.cell (k := 0) (by omega)
    rw [(HL.out.under (Hd.out.below _)).lk.mem] at g0
    generalize hV : voZ c g ls k = V at *
    have HV := Lib.hid hV; clear hV
    go_wp2_with fail
    refine (HS.out w1 (Hd.out.below _)).mono ?_
    rintro e w2 ⟨rfl, rfl⟩
    go_wp2
    go_ret
    exact ⟨by rw [HV.out]; rfl, Hd.out⟩
end

end Go.Proofs.YtjaacdapibokiabDoor

/- impl's test of one vertex depending on another, by a walk of its text; conditions: the graph is valid, lists are shorter than 2^40. -/
namespace Go.Proofs.YtjaacdapibokiabDoor
open Go.RowKit

set_option maxRecDepth 8000 in
set_option maxHeartbeats 1000000 in
theorem lv_dependsOn {w0 w : World} {hi G : Nat} {mv : Value} {c : List Int} {h : Nat → Value} {g : List Vx} {ls : List Int} (l : Lk w0 w hi G mv h g) (ok : Good21 c g ls) {a b : Nat} (ha : a < g.length) (hb : b < g.length) {q p : Nat} (hq : h (plN g[a].r g[a].a) = ptrV q) (hp : h (plN g[b].r g[b].a) = ptrV p) :
    Calls Tryd.prog 65 #[.pointer (some ⟨q, 0, none⟩), .pointer (some ⟨p, 0, none⟩)] w fun e w' => e = .returned (.bool ((pastB g a).getD b false)) ∧ Below w.heap.size w w' := by
  have hz72 : Tryd.zeroCells121 = marksV fun _ => false := by kernel_rfl
  have hbM : Below w.heap.size w (w.alloc (.cells Tryd.zeroCells121 121)) := (Below.refl _ _).alloc (Nat.le_refl _) _
  have sM := Str.new w 121 Tryd.zeroCells121
  rw [hz72] at sM
  have HMc := Lib.hid (mark_past w0 w hi G mv h g w.heap.size l l.le ok.srt ok.pl ok.par ok.r0 ok.ps g[a].r.toNat g[a] q (w.alloc (.cells Tryd.zeroCells121 121)) (fun _ => false) (List.getElem_mem ha) rfl hq (below_rowP hbM _) (by rw [hz72]; exact sM) (fun z _ _ hb => by cases hb))
  have Hmp := Lib.hid (fun bs hm => marks_past (bs := bs) ok.gb ha hm (fun _ _ => .inr trivial) b hb)
  have HL := Lib.hid l
  have HbM := Lib.hid hbM
  have ip := ok.pl _ (List.getElem_mem hb)
  unfold inPl at ip
  obtain ⟨o1, hm1, hm2⟩ := run_mark w.heap.size g[b].r g[b].a ip.1 ip.2.1 ip.2.2.1 ip.2.2.2
  have hbd := plM_bd ip.2.1 ip.2.2.2
  have Hpp : Hid (∃ pa pc pv, Str w p 59 #[.int .i64 g[b].r, .int .i64 g[b].a, .slice pa g[b].ps.length pc, .int .i64 g[b].d, pv] ∧ p < hi) := by
    obtain ⟨p', hp', n⟩ := l.has g[b] (List.getElem_mem hb)
    rw [hp] at hp'
    have e : p = p' := by unfold ptrV at hp'; simpa using hp'
    subst e
    obtain ⟨pa, pc, pv, _, s, _⟩ := n.ex
    exact Lib.hid ⟨pa, pc, pv, s, n.lt⟩
  clear l ok hbM sM ip hq hp hz72
  go_enter Tryd.func65, Tryd.ntmps65
  go_wp2_with fail
  refine HMc.out.mono ?_
  rintro e w3 ⟨rfl, hg3, bs, hs3, hmk⟩
  have Hp := Lib.hid (Hmp.out bs hmk)
  have hb3 : Below w.heap.size w w3 := HbM.out.grown hg3 HbM.out.size (fun g e => by cases e; omega)
  have em := hs3.cell (plM g[b].r g[b].a) (v := .bool (bs (plM g[b].r g[b].a))) (arrP_get hbd)
  rw [Hp.out] at em
  obtain ⟨pa, pc, pv, sp, hlt⟩ := Hpp.out
  have sp3 : Str w3 p 59 #[.int .i64 g[b].r, .int .i64 g[b].a, .slice pa g[b].ps.length pc, .int .i64 g[b].d, pv] := (hb3.block _ sp.lt).trans sp
  have c0 := sp3.cell 0 (v := .int .i64 g[b].r) rfl
  have c1 := sp3.cell 1 (v := .int .i64 g[b].a) rfl
  have Hb3 := Lib.hid hb3
  clear hs3 hg3 hmk sp sp3 hb3 Hp Hmp
  generalize hPB : (pastB g a).getD b false = PB at *
  have HPB := Lib.hid hPB; clear hPB
  go_wp2_with fail
  go_quiet (fail)
  go_wp2
  go_ret
  exact ⟨by rw [HPB.out]; rfl, below_step Hb3.out Hb3.out.size (((Drawn.refl _).drewN _).below _)⟩

end Go.Proofs.YtjaacdapibokiabDoor

/- slices.Reverse at a list of ints of the call's own, over the kit's shelf; no conditions but the list's length. -/
namespace Go.Proofs.YtjaacdapibokiabDoor
open Go.RowKit Go.Shelf Go.Sort

def revI_ren : Go.Shelf.Ren := ⟨fun | 112 => 66 | n => n, fun | 0 => 0 | 3 => 3 | 4 => 4 | 28 => 22 | n => n, fun n => n⟩
theorem revI : Go.Proofs.Lays.n112 Tryd.prog revI_ren := {
  mixed := by kernel_rfl
  f112 := Tryd.func66.trans (congrArg some (by kernel_rfl))
  t0 := Tryd.underlying0
  a0 := Tryd.isAgg0
  z0 := Tryd.sizeOf0
  v0 := Tryd.zeroValue0
  t3 := Tryd.underlying3
  a3 := Tryd.isAgg3
  z3 := Tryd.sizeOf3
  v3 := Tryd.zeroValue3
  t4 := Tryd.underlying4
  a4 := Tryd.isAgg4
  z4 := Tryd.sizeOf4
  v4 := Tryd.zeroValue4
  t28 := Tryd.underlying22
  a28 := Tryd.isAgg22
  z28 := Tryd.sizeOf22
  v28 := Tryd.zeroValue22
}
theorem rev_own (B : Nat) (v : Value) (xs : List Int) (w : World) (hown : Own 3 w B v xs) (hbig : xs.length ≤ 1048576) :
    Calls Tryd.prog 66 #[v] w fun e w' => e = .returned (.tuple #[]) ∧ Own 3 w' B v xs.reverse ∧ w.grownBy w' v.ownBlock := by
  have hown' := hown
  rcases hown.2 with ⟨rfl, h0⟩ | ⟨g, cap, cur, rfl, hb, hg, hn, hm, hs, ht⟩
  · obtain rfl : xs = [] := List.eq_nil_of_length_eq_zero h0
    refine (Any.slices_Reverse_int_empty revI none 0 w).mono ?_
    rintro e w' ⟨rfl, rfl⟩
    exact ⟨rfl, hown', World.grownBy.refl _ _⟩
  · have hH := holds_of_blockI hg (by rw [Nat.mul_one] at ht; exact ht)
    refine (Any.slices_Reverse_int revI g 0 cap xs w hH (by omega)).mono ?_
    rintro e w' ⟨rfl, n, rfl⟩
    have h1 := ownsRow_sortedI (w := w) (n := n) (os := #[]) (ss := xs) (ts := xs.reverse) (by simp) hb hg hn hm hs
    have h2 := grownBy_sortedI (w := w) (g := g) (n := n) (os := #[]) xs.reverse.toArray
    rw [grow_empty] at h1 h2
    refine ⟨rfl, ?_, h2⟩
    unfold Own
    rw [show xs.reverse.length = xs.length by simp]
    exact h1

end Go.Proofs.YtjaacdapibokiabDoor

/- impl's waves that a directly committed wave commits, by a walk of its text; conditions: the graph and the leaders are valid, lists are shorter than 2^40. -/
namespace Go.Proofs.YtjaacdapibokiabDoor
open Go.RowKit

/-- Behind some rounds: what is collected, and the current leader vertex. -/
def CbAt (h : Nat → Value) (g : List Vx) (ls : List Int) (lo d : Nat) (x : Nat) (W : List Int) (cu : Value) : Prop :=
  (x = d ∧ W = [] ∧ cu = .pointer none) ∨ (x < d ∧ ∃ (C : List Int) (j : Nat) (hj : j < g.length) (p : Nat), W = C.reverse ∧ C.length + x ≤ d ∧ chZ g ls lo x C j = chZ g ls lo (d - 1) [(d : Int)] (ldZ g ls d) ∧ cu = .pointer (some ⟨p, 0, none⟩) ∧ h (plN g[j].r g[j].a) = ptrV p)

theorem TIq : IntT Tryd.prog 22 3 := ⟨Tryd.underlying22, by kernel_rfl⟩
section
variable {w0 w : World} {hi G q : Nat} {mv : Value} {c : List Int} {h : Nat → Value} {g : List Vx} {al : Option Addr} {cap : Nat} {ls : List Int} {eN eI : Addr}
set_option maxRecDepth 8000 in
set_option maxHeartbeats 4000000 in
theorem led_committedBy (l : Lg w0 w hi G q mv h g al cap ls) (hs : Sen w eN eI) (d lo : Nat) (hd : 1 ≤ d ∧ d ≤ ls.length) (hlo : lo < d) (ok : Good21 c g ls) (hi' : IntsAt w al ls) (hz : 0 ≤ ldZ g ls d) :
    Calls Tryd.prog 48 #[.pointer (some ⟨q, 0, none⟩), .int .i64 d, .int .i64 lo] w fun e w' => ∃ u, e = .returned u ∧ Own 3 w' w.heap.size u (chZ g ls lo (d - 1) [(d : Int)] (ldZ g ls d)) ∧ Below w.heap.size w w' := by
  obtain ⟨hd1, hd2⟩ := hd
  have h15 := ok.l15
  have hb0 : Below w.heap.size w (w.alloc (.cells #[] 3)) := (Below.refl _ _).alloc (Nat.le_refl _) _
  have Ho0 := Lib.hid (own_empty 3 w (Nat.le_refl w.heap.size))
  have Hb0 := Lib.hid hb0
  have HLd := Lib.hid (fun (k : Nat) (hk : 1 ≤ k ∧ k ≤ ls.length) W (hb : Below w.heap.size w W) => led_leader (l.under hb) (hs.below hb) k hk ok.l15 ok.l6 (hi'.below hb) ok.pl)
  have HSn := Lib.hid (fun W (hb : Below w.heap.size w W) => hs.below hb)
  have HDp := Lib.hid (fun W (hb : Below w.heap.size w W) (a b : Nat) (ha : a < g.length) (hb2 : b < g.length) (qq pp : Nat) hq hp => lv_dependsOn (l.under hb).lk ok (a := a) (b := b) ha hb2 (q := qq) (p := pp) hq hp)
  have Hz := Lib.hid hz
  clear l hs ok hi' hb0 hz
  go_enter Tryd.func48, Tryd.ntmps48
  go_wp2
  go_loopw [7, 8, 9] (fun ws cu xx wr => ∃ (x : Nat) (W : List Int), lo ≤ x ∧ x ≤ d ∧ xx = .int .i64 x ∧ W.length + x ≤ d ∧ Hid (CbAt h g ls lo d x W cu) ∧ Own 3 wr w.heap.size ws W ∧ Below w.heap.size w wr) (fun _ _ xx _ => (intOf xx).toNat)
  case atStart => exact ⟨d, [], by omega, by omega, rfl, by simp, Lib.hid (.inl ⟨rfl, rfl, rfl⟩), Ho0.out, Hb0.out⟩
  case round =>
    obtain ⟨x, W, hx1, hx2, rfl, hWl, hcb, ho, hb⟩ := hrel
    have Ho := Lib.hid ho; have Hb := Lib.hid hb
    clear ho hb Ho0 Hb0
    by_cases hlt : lo < x
    · have hlt' : (lo : Int) < (x : Int) := by omega
      have hx9 : IntKind.i64.wrap ((x : Int) - 1) = ((x - 1 : Nat) : Int) := by rw [IntWalk.i64_in _ (by omega)]; omega
      go_wp2_with fail
      refine (HLd.out x ⟨by omega, by omega⟩ wr Hb.out).mono ?_
      rintro e w1 ⟨hcase, hd⟩
      have hs1 := HSn.out w1 (below_step Hb.out Hb.out.size (hd.below _))
      have hgN := hs1.gN
      have Ho1 := Lib.hid (Ho.out.below (hd.below _))
      have Hb1 := Lib.hid (below_step Hb.out Hb.out.size (hd.below _))
      clear hd hs1 Ho Hb
      rcases hcase with ⟨hz, rfl⟩ | ⟨j, hj, p, hz, hp, rfl⟩
      · -- no leader vertex
        have hnew : CbAt h g ls lo d (x - 1) W u8 := by
          rcases hcb.out with ⟨rfl, _, _⟩ | ⟨hxd, C, j, hj, p, e1, e2, e3, e4, e5⟩
          · have := Hz.out; omega
          · refine .inr ⟨by omega, C, j, hj, p, e1, by omega, ?_, e4, e5⟩
            rw [← e3, chZ_no hlt (by unfold linkB; rw [hz]; rfl)]
        have Hnew := Lib.hid hnew
        clear hnew hcb hz
        go_wp2_with fail
        refine (is_same eN w1).mono ?_
        rintro e w2 ⟨rfl, rfl⟩
        go_wp2
        go_roundw
        case rel => exact ⟨x - 1, W, by omega, by omega, by first | rfl | rw [hx9], by omega, Lib.hid Hnew.out, Ho1.out, Hb1.out⟩
        case measure => simp [intOf]; omega
      · have Hlz := Lib.hid hz
        have Hp := Lib.hid hp
        clear hz hp
        go_wp2_with fail
        refine (is_nil eN w1).mono ?_
        rintro e w2 ⟨rfl, rfl⟩
        have hB := Hb1.out.size
        by_cases hxd : x = d
        · obtain ⟨rfl, rfl⟩ : W = [] ∧ u8 = .pointer none := by
            rcases hcb.out with ⟨_, e1, e2⟩ | ⟨h9, _⟩
            · exact ⟨e1, e2⟩
            · omega
          subst hxd
          have Hnew := Lib.hid (show CbAt h g ls lo x (x - 1) [(x : Int)] (.pointer (some ⟨p, 0, none⟩)) from .inr ⟨by omega, [(x : Int)], j, hj, p, rfl, by simp; omega, by rw [Hlz.out], rfl, Hp.out⟩)
          clear hcb
          go_wp2_with (at_builtin; refine wpList_push TIq rfl (.tmp 36) (.tmp 38) rfl w.heap.size _ ([] : List Int) _ rfl Ho1.out (by simp) rfl hB ?_; intro v8 w8 hown8 hg8)
          have Hb8 := Lib.hid (Hb1.out.grown hg8 hB (fun g e => (Ho1.out.lt g e).1))
          have Ho8 := Lib.hid hown8
          clear hown8 hg8
          go_wp2
          go_roundw
          case rel => exact ⟨x - 1, [(x : Int)], by omega, by omega, by first | rfl | rw [hx9], by simp; omega, Lib.hid Hnew.out, by simpa using Ho8.out, Hb8.out⟩
          case measure => simp [intOf]; omega
        · obtain ⟨C, j0, hj0, p0, rfl, e2, e3, rfl, e5⟩ : ∃ (C : List Int) (j0 : Nat) (hj0 : j0 < g.length) (p0 : Nat), W = C.reverse ∧ C.length + x ≤ d ∧ chZ g ls lo x C j0 = chZ g ls lo (d - 1) [(d : Int)] (ldZ g ls d) ∧ u8 = .pointer (some ⟨p0, 0, none⟩) ∧ h (plN g[j0].r g[j0].a) = ptrV p0 := by
            rcases hcb.out with ⟨h9, _⟩ | ⟨_, h9⟩
            · exact absurd h9 hxd
            · exact h9
          have hxd' : ((x : Int) == (d : Int)) = false := by rw [beq_eq_false_iff_ne]; omega
          have HD := Lib.hid (HDp.out w1 Hb1.out j0 j hj0 hj p0 p e5 Hp.out)
          have Hlk := Lib.hid (show linkB g ls j0 x = (pastB g j0).getD j false by unfold linkB; rw [Hlz.out]; simp)
          have Hch := Lib.hid e3
          have He5 := Lib.hid e5
          clear e3 e5 hcb hgN
          cases hl : (pastB g j0).getD j false with
          | true =>
            have Hnew := Lib.hid (show CbAt h g ls lo d (x - 1) (((x : Int) :: C).reverse) (.pointer (some ⟨p, 0, none⟩)) from .inr ⟨by omega, (x : Int) :: C, j, hj, p, rfl, by simp; omega, by rw [← Hch.out, chZ_yes hlt (Hlk.out.trans hl), Hlz.out], rfl, Hp.out⟩)
            rw [hl] at HD
            clear hl Hlk Hch
            rw [List.length_reverse] at hWl
            have hrl : C.reverse.length ≤ 15 := by rw [List.length_reverse]; omega
            go_wp2_with fail
            refine HD.out.mono ?_
            rintro e w2 ⟨rfl, hb2⟩
            have Ho2 := Lib.hid (Ho1.out.below hb2)
            have Hb2 := Lib.hid (below_step Hb1.out Hb1.out.size hb2)
            have hB2 := Hb2.out.size
            clear hb2 Ho1 Hb1
            obtain ⟨RC, hRC⟩ : ∃ RC, C.reverse = RC := ⟨_, rfl⟩
            rw [hRC] at Ho2 hrl
            have HRC := Lib.hid hRC; clear hRC
            go_wp2_with (at_builtin; refine wpList_push TIq rfl (.tmp 36) (.tmp 38) rfl w.heap.size _ RC _ rfl Ho2.out (by omega) rfl hB2 ?_; intro v8 w8 hown8 hg8)
            have Hb8 := Lib.hid (Hb2.out.grown hg8 hB2 (fun g e => (Ho2.out.lt g e).1))
            have Ho8 := Lib.hid hown8
            clear hown8 hg8
            go_wp2
            go_roundw
            case rel => exact ⟨x - 1, ((x : Int) :: C).reverse, by omega, by omega, by first | rfl | rw [hx9], by simp; omega, Lib.hid Hnew.out, by rw [List.reverse_cons, HRC.out]; exact Ho8.out, Hb8.out⟩
            case measure => simp [intOf]; omega
          | false =>
            have Hnew := Lib.hid (show CbAt h g ls lo d (x - 1) C.reverse (.pointer (some ⟨p0, 0, none⟩)) from .inr ⟨by omega, C, j0, hj0, p0, rfl, by omega, by rw [← Hch.out, chZ_no hlt (Hlk.out.trans hl)], rfl, He5.out⟩)
            rw [hl] at HD
            clear hl Hlk Hch
            go_wp2_with fail
            refine HD.out.mono ?_
            rintro e w2 ⟨rfl, hb2⟩
            have Ho2 := Lib.hid (Ho1.out.below hb2)
            have Hb2 := Lib.hid (below_step Hb1.out Hb1.out.size hb2)
            clear hb2 Ho1 Hb1
            go_wp2
            go_roundw
            case rel => exact ⟨x - 1, C.reverse, by omega, by omega, by first | rfl | rw [hx9], by omega, Lib.hid Hnew.out, Ho2.out, Hb2.out⟩
            case measure => simp [intOf]; omega
    · obtain ⟨C, rfl, e3⟩ : ∃ C : List Int, W = C.reverse ∧ chZ g ls lo (d - 1) [(d : Int)] (ldZ g ls d) = C := by
        rcases hcb.out with ⟨h9, _⟩ | ⟨_, C, j0, hj0, p0, e1, _, e3, _⟩
        · omega
        · exact ⟨C, e1, by rw [← e3, chZ_done (by omega)]⟩
      have H3 := Lib.hid e3
      have hrl : C.reverse.length ≤ 15 := by omega
      clear e3 hcb
      have hlt' : ¬ (lo : Int) < (x : Int) := by omega
      obtain ⟨RC, hRC⟩ : ∃ RC, C.reverse = RC := ⟨_, rfl⟩
      rw [hRC] at Ho hrl hWl
      have HRC := Lib.hid hRC; clear hRC
      go_wp2_with fail
      refine (rev_own w.heap.size u7 RC wr Ho.out (by omega)).mono ?_
      rintro e w2 ⟨rfl, ho2, hg2⟩
      have Hb2 := Lib.hid (Hb.out.grown hg2 Hb.out.size (fun g e => (Ho.out.lt g e).1))
      have Ho2 := Lib.hid ho2
      clear ho2 hg2
      go_wp2
      go_ret
      refine ⟨_, rfl, ?_, Hb2.out⟩
      rw [H3.out, show C = RC.reverse by rw [← HRC.out, List.reverse_reverse]]
      exact Ho2.out
end

end Go.Proofs.YtjaacdapibokiabDoor

/- impl's committed waves, by a walk of its text; conditions: the graph and the leaders are valid, lists are shorter than 2^40. -/
namespace Go.Proofs.YtjaacdapibokiabDoor
open Go.RowKit

section
variable {w0 w : World} {hi G q : Nat} {ac : Option Addr} {capc : Nat} {c : List Int} {h : Nat → Value} {g : List Vx} {al : Option Addr} {cap : Nat} {ls : List Int} {eN eI : Addr}
set_option maxRecDepth 8000 in
set_option maxHeartbeats 2000000 in
theorem led_committed (l : Lg w0 w hi G q (.slice ac c.length capc) h g al cap ls) (hs : Sen w eN eI) (ok : Good21 c g ls) (hbg : g.length ≤ 1048576) (hc : IntsAt w ac c) (hi' : IntsAt w al ls) :
    Calls Tryd.prog 31 #[.pointer (some ⟨q, 0, none⟩)] w fun e w' => ∃ u, e = .returned u ∧ Own 3 w' w.heap.size u (wvs c g ls ls.length).1 ∧ Below w.heap.size w w' := by
  have h15 := ok.l15
  have hb0 : Below w.heap.size w (w.alloc (.cells #[] 3)) := (Below.refl _ _).alloc (Nat.le_refl _) _
  have Ho0 := Lib.hid (own_empty 3 w (Nat.le_refl w.heap.size))
  have Hb0 := Lib.hid hb0
  have HD := Lib.hid (fun (k : Nat) (hk : 1 ≤ k ∧ k ≤ ls.length) W (hb : Below w.heap.size w W) => led_direct (l.under hb) (hs.below hb) k hk ok hbg (hc.below hb) (hi'.below hb))
  have HC := Lib.hid (fun (k lo : Nat) (hk : 1 ≤ k ∧ k ≤ ls.length) (hlo : lo < k) hz W (hb : Below w.heap.size w W) => led_committedBy (l.under hb) (hs.below hb) k lo hk hlo ok (hi'.below hb) hz)
  have Hq := Lib.hid (fun W (hb : Below w.heap.size w W) => (l.under hb).st.cell 1 (v := .slice al ls.length cap) rfl)
  have hbd := totalZ_bd ok.hv
  have Hpos := Lib.hid (fun k (h : totalZ c / 3 + 1 ≤ voZ c g ls k) => (show 0 ≤ ldZ g ls k by
    by_cases h0 : 0 ≤ ldZ g ls k
    · exact h0
    · unfold voZ at h; rw [if_neg h0] at h; omega))
  clear l hs ok hc hi' hb0
  go_enter Tryd.func31, Tryd.ntmps31
  go_wp2
  go_loopw [3, 4, 5] (fun o la i wr => ∃ m : Nat, 1 ≤ m ∧ m ≤ ls.length + 1 ∧ i = .int .i64 m ∧ la = .int .i64 ((wvs c g ls (m - 1)).2 : Nat) ∧ Own 3 wr w.heap.size o (wvs c g ls (m - 1)).1 ∧ Below w.heap.size w wr) (fun _ _ i _ => ls.length + 1 - (intOf i).toNat)
  case atStart => exact ⟨1, by omega, by omega, rfl, rfl, Ho0.out, Hb0.out⟩
  case round =>
    obtain ⟨m, hm1, hm2, rfl, rfl, ho, hb⟩ := hrel
    have hwl := wvs_len (c := c) (g := g) (ls := ls) (m - 1)
    have Ho := Lib.hid ho; have Hb := Lib.hid hb
    have q1 := Hq.out wr hb
    clear ho hb Ho0 Hb0
    by_cases hlt : m ≤ ls.length
    · have hlt' : (m : Int) ≤ (ls.length : Int) := by omega
      go_wp2_with fail
      refine (HD.out m ⟨hm1, hlt⟩ wr Hb.out).mono ?_
      rintro e w1 ⟨rfl, hd1⟩
      have Ho1 := Lib.hid (Ho.out.below (hd1.below _))
      have Hb1 := Lib.hid (below_step Hb.out Hb.out.size (hd1.below _))
      clear hd1 Ho Hb q1
      by_cases hq : totalZ c / 3 + 1 ≤ voZ c g ls m
      · have hy := wvs_yes hm1 (show ¬ voZ c g ls m < totalZ c / 3 + 1 by omega)
        have Hy1 := Lib.hid (show (wvs c g ls m).1 = (wvs c g ls (m - 1)).1 ++ chZ g ls (wvs c g ls (m - 1)).2 (m - 1) [(m : Int)] (ldZ g ls m) by rw [hy])
        have Hy2 := Lib.hid (show (wvs c g ls m).2 = m by rw [hy])
        have hz := Hpos.out m hq
        have hqd : decide (totalZ c / 3 + 1 ≤ voZ c g ls m) = true := decide_eq_true hq
        have HCm := Lib.hid (HC.out m (wvs c g ls (m - 1)).2 ⟨hm1, hlt⟩ (by omega) hz)
        have hcl := chZ_len (g := g) (ls := ls) (lo := (wvs c g ls (m - 1)).2) (m - 1) [(m : Int)] (ldZ g ls m)
        rw [List.length_singleton] at hcl
        clear hy hz hq
        generalize voZ c g ls m = V at *
        generalize (wvs c g ls (m - 1)).2 = lo at *
        generalize (wvs c g ls (m - 1)).1 = O at *
        generalize chZ g ls lo (m - 1) [(m : Int)] (ldZ g ls m) = CH at *
        rw [hqd]
        clear hqd
        go_wp2_with fail
        refine (HCm.out w1 Hb1.out).mono ?_
        rintro e w2 ⟨u, rfl, ho2, hb2⟩
        have Ho2 := Lib.hid (Ho1.out.below hb2)
        have Hb2 := Lib.hid (below_step Hb1.out Hb1.out.size hb2)
        have hB2 := Hb2.out.size
        obtain ⟨au, cu, rfl, _, _⟩ := ho2.ints
        have Hsr := Lib.hid (own_src ho2)
        clear hb2 ho2 Ho1 Hb1 HCm
        go_wp2_with (at_builtin; refine wpList_appI TIq rfl _ _ rfl w.heap.size _ O CH au cu rfl Ho2.out rfl Hsr.out (by omega) hB2 ?_; intro v8 w8 ho8 hg8)
        have Hb8 := Lib.hid (Hb2.out.grown hg8 hB2 (fun q e => (Ho2.out.lt q e).1))
        have Ho8 := Lib.hid ho8
        clear ho8 hg8
        go_wp2
        go_roundw
        case rel => exact ⟨m + 1, by omega, by omega, by go_num, by rw [Nat.add_sub_cancel, Hy2.out], by rw [Nat.add_sub_cancel, Hy1.out]; exact Ho8.out, Hb8.out⟩
        case measure => simp [intOf]; omega
      · have hn := Lib.hid (wvs_no hm1 (show voZ c g ls m < totalZ c / 3 + 1 by omega))
        have hqd : decide (totalZ c / 3 + 1 ≤ voZ c g ls m) = false := decide_eq_false hq
        rw [hqd]
        clear hq hqd
        go_wp2
        go_roundw
        case rel => exact ⟨m + 1, by omega, by omega, by go_num, by rw [Nat.add_sub_cancel, hn.out], by rw [Nat.add_sub_cancel, hn.out]; exact Ho1.out, Hb1.out⟩
        case measure => simp [intOf]; omega
    · have hml : m - 1 = ls.length := by omega
      have Hml := Lib.hid hml
      clear hml hwl
      go_wp2
      go_ret
      exact ⟨_, rfl, by rw [← Hml.out]; exact Ho.out, Hb.out⟩
end

end Go.Proofs.YtjaacdapibokiabDoor

/- impl's GraphFind, with the library's search by a function and the function that is handed to it, each by a walk of its text; conditions: lists are shorter than 2^40 (a graph: 2^20). -/
namespace Go.Proofs.YtjaacdapibokiabDoor
open Go.RowKit

theorem find_test (x : Vx) (pa : Option Addr) (pc : Nat) (r a : Int) (Br Ba : Nat) (w : World) (hr : Str w Br 3 #[.int .i64 r]) (ha : Str w Ba 3 #[.int .i64 a]) :
    Calls Tryd.prog 39 #[.agg #[.int .i64 x.r, .int .i64 x.a, .slice pa x.ps.length pc, .int .i64 x.d], .pointer (some ⟨Br, 0, none⟩), .pointer (some ⟨Ba, 0, none⟩)] w fun e w' => e = .returned (.bool (sameRA r a x)) ∧ Below w.heap.size w w' := by
  have hb0 : Below w.heap.size w (w.alloc (.cells #[.int .i64 x.r, .int .i64 x.a, .slice pa x.ps.length pc, .int .i64 x.d] 44)) := (Below.refl _ _).alloc (Nat.le_refl _) _
  have s0 := Str.new w 44 #[.int .i64 x.r, .int .i64 x.a, .slice pa x.ps.length pc, .int .i64 x.d]
  have k0 := s0.cell 0 (v := .int .i64 x.r) rfl
  have k1 := s0.cell 1 (v := .int .i64 x.a) rfl
  have q0 := (hr.alloc (.cells #[.int .i64 x.r, .int .i64 x.a, .slice pa x.ps.length pc, .int .i64 x.d] 44)).cell 0 (v := .int .i64 r) rfl
  have q1 := (ha.alloc (.cells #[.int .i64 x.r, .int .i64 x.a, .slice pa x.ps.length pc, .int .i64 x.d] 44)).cell 0 (v := .int .i64 a) rfl
  have Hb := Lib.hid hb0
  clear hb0 s0 hr ha
  by_cases h1 : x.r = r
  · have e1 : (x.r == r) = true := by simpa using h1
    have Hz := Lib.hid (show sameRA r a x = decide (x.a = a) by unfold sameRA; simp [h1])
    clear h1
    go_enter Tryd.func39, Tryd.ntmps39
    go_wp2
    go_ret
    exact ⟨ret_bool (by rw [Hz.out, Bool.eq_iff_iff, decide_eq_true_iff]; simp), Hb.out⟩
  · have e1 : (x.r == r) = false := by simpa using h1
    have Hz := Lib.hid (show sameRA r a x = false from decide_eq_false fun e => h1 e.1)
    clear h1
    go_enter Tryd.func39, Tryd.ntmps39
    go_wp2
    go_ret
    exact ⟨by first | rfl | exact ret_bool (by rw [Hz.out]), Hb.out⟩

theorem lib_IndexFunc (g : List Vx) (v : Value) (fp : List Nat) (r a : Int) (Br Ba : Nat) (w : World) (hbig : g.length ≤ 1099511627776) (hg : Gr w g v fp) (hr : Str w Br 3 #[.int .i64 r]) (ha : Str w Ba 3 #[.int .i64 a]) :
    Calls Tryd.prog 38 #[v, .func (.func 39) #[] #[.pointer (some ⟨Br, 0, none⟩), .pointer (some ⟨Ba, 0, none⟩)]] w fun e w' => e = .returned (.int .i64 (findZ g r a)) ∧ Below w.heap.size w w' := by
  obtain ⟨va, vc, rfl⟩ := hg.slice
  have Hg := Lib.hid hg; clear hg
  have Hr := Lib.hid hr; clear hr
  have Ha := Lib.hid ha; clear ha
  go_enter Tryd.func38, Tryd.ntmps38
  go_wp2
  go_loopw [8] (fun i wr => ∃ k : Nat, k ≤ g.length ∧ i = .int .i64 k ∧ Upto (fun j => !sameRA r a (g.getD j vx0)) k ∧ Below w.heap.size w wr) (fun i _ => g.length - (intOf i).toNat)
  case atStart => exact ⟨0, by omega, rfl, upto_zero _, Below.refl _ _⟩
  case round =>
    obtain ⟨k, hk, rfl, hup, hbel⟩ := hrel
    have Hup := Lib.hid hup; clear hup
    by_cases hlt : k < g.length
    · obtain ⟨b, off, rfl, hb, hat⟩ := (Hg.out.under hbel).at (by omega)
      obtain ⟨c0, c1, ⟨pa, pc, c2, _⟩, c3⟩ := hat k hlt
      have hgk := getV hlt
      have HT := Lib.hid (find_test g[k] pa pc r a Br Ba wr ((hbel.block _ Hr.out.lt).trans Hr.out) ((hbel.block _ Ha.out.lt).trans Ha.out))
      have Hbel := Lib.hid hbel
      cases hs : sameRA r a g[k] with
      | true =>
        have Hz := Lib.hid (findZ_yes hlt Hup.out hs)
        rw [hs] at HT
        clear hat hbel hgk hs
        generalize g[k] = x at *
        obtain ⟨xr, xa, xp, xd⟩ := x
        dsimp only at *
        go_wp2_with fail
        refine HT.out.mono ?_
        rintro e w2 ⟨rfl, hb2⟩
        have Hb2 := Lib.hid (below_step Hbel.out Hbel.out.size hb2)
        clear hb2 c0 c1 c2 c3
        go_wp2
        go_ret
        exact ⟨by rw [Hz.out]; rfl, Hb2.out⟩
      | false =>
        have Hup' := Lib.hid (upto_step Hup.out (k := k) (by simp only [hgk]; simpa using hs))
        rw [hs] at HT
        clear hat hbel hgk hs
        generalize g[k] = x at *
        obtain ⟨xr, xa, xp, xd⟩ := x
        dsimp only at *
        go_wp2_with fail
        refine HT.out.mono ?_
        rintro e w2 ⟨rfl, hb2⟩
        have Hb2 := Lib.hid (below_step Hbel.out Hbel.out.size hb2)
        clear hb2 c0 c1 c2 c3
        go_wp2
        go_roundw
        case rel => exact ⟨k + 1, by omega, by go_num, Hup'.out, Hb2.out⟩
        case measure => simp [intOf]; omega
    · have hz := findZ_no Hup.out (by omega)
      go_wp2
      go_ret
      exact ⟨by rw [hz]; rfl, hbel⟩

theorem impl_GraphFind' (ac : Option Addr) (capc : Nat) (c : List Int) (g : List Vx) (v : Value) (fp : List Nat) (r a : Int) (w : World) (hn : c.length ≤ 1099511627776) (hbig : g.length ≤ 1048576) (hps : ∀ x ∈ g, x.ps.length ≤ 1099511627776) (hc : IntsAt w ac c) (hg : Gr w g v fp) :
    Calls Tryd.prog 26 #[.slice ac c.length capc, v, .int .i64 r, .int .i64 a] w fun e w' => e = .returned (.int .i64 (gfZ c g r a)) ∧ Below w.heap.size w w' := by
  have hb0 : Below w.heap.size w ((w.alloc (.cells #[.int .i64 r] 3)).alloc (.cells #[.int .i64 a] 3)) := ((Below.refl _ w).alloc (Nat.le_refl _) _).alloc (by simp) _
  have s0 := (Str.new w 3 #[.int .i64 r]).alloc (.cells #[.int .i64 a] 3)
  have s1 := Str.new (w.alloc (.cells #[.int .i64 r] 3)) 3 #[.int .i64 a]
  rw [show (w.alloc (.cells #[.int .i64 r] 3)).heap.size = w.heap.size + 1 by simp] at s1
  have hgW := hg.under hb0
  have H := Lib.hid (impl_GraphValid' ac capc c g v fp _ hn hbig hps (hc.below hb0) hgW)
  have Hb0 := Lib.hid hb0
  cases h : graphB c g with
  | false =>
    have Hz := Lib.hid (show gfZ c g r a = -1 by unfold gfZ; rw [h]; rfl)
    rw [h] at H
    clear hc hg hgW hps h hb0 s0 s1
    go_enter Tryd.func26, Tryd.ntmps26
    go_wp2_with fail
    generalize (w.alloc (.cells #[.int .i64 r] 3)).alloc (.cells #[.int .i64 a] 3) = W0 at *
    refine H.out.mono ?_
    rintro e w1 ⟨rfl, hb⟩
    have Hb1 := Lib.hid (below_step Hb0.out Hb0.out.size hb); clear hb
    go_wp2
    go_ret
    exact ⟨by rw [Hz.out]; rfl, Hb1.out⟩
  | true =>
    have Hz := Lib.hid (show gfZ c g r a = findZ g r a by unfold gfZ; rw [h]; rfl)
    rw [h] at H
    have HF := Lib.hid (fun W (hW : Below ((w.alloc (.cells #[.int .i64 r] 3)).alloc (.cells #[.int .i64 a] 3)).heap.size ((w.alloc (.cells #[.int .i64 r] 3)).alloc (.cells #[.int .i64 a] 3)) W) =>
      lib_IndexFunc g v fp r a w.heap.size (w.heap.size + 1) W (by omega) (hgW.under hW) ((hW.block _ s0.lt).trans s0) ((hW.block _ s1.lt).trans s1))
    clear hc hg hgW hps h hb0 s0 s1
    go_enter Tryd.func26, Tryd.ntmps26
    go_wp2_with fail
    generalize (w.alloc (.cells #[.int .i64 r] 3)).alloc (.cells #[.int .i64 a] 3) = W0 at *
    refine H.out.mono ?_
    rintro e w1 ⟨rfl, hb⟩
    have HF1 := Lib.hid (HF.out w1 hb)
    have Hb1 := Lib.hid (below_step Hb0.out Hb0.out.size hb); clear hb
    go_wp2_with fail
    refine HF1.out.mono ?_
    rintro e w2 ⟨rfl, hb2⟩
    have Hb2 := Lib.hid (below_step Hb1.out Hb1.out.size hb2); clear hb2
    go_wp2
    go_ret
    exact ⟨by rw [Hz.out]; rfl, Hb2.out⟩

end Go.Proofs.YtjaacdapibokiabDoor

/- impl's WaveLeader, WaveVotes, WaveDirect and CommitWaves, each by a walk of its text; conditions: lists are shorter than 2^40 (a graph: 2^20). -/
namespace Go.Proofs.YtjaacdapibokiabDoor
open Go.RowKit

end Go.Proofs.YtjaacdapibokiabDoor

/- The order of a graph's vertices, by a walk of the program's text; conditions: lists are shorter than 2^40 (a graph: 2^20). -/
namespace Go.Proofs.YtjaacdapibokiabDoor
open Go.RowKit

/-- A valid graph is small. -/
theorem wa_small {c : List Int} {g : List Vx} {ls : List Int} (h : waB c g ls = true) (hps : ∀ x ∈ g, x.ps.length ≤ 1099511627776) : g.length ≤ 1048575 := by
  have ok := good21 h hps
  have hnd : (g.map fun v => plN v.r v.a).Pairwise (· < ·) := by
    rw [List.pairwise_map]
    refine (List.Pairwise.and_mem.1 ok.srt).imp fun {a b} hab => ?_
    have h1 := ok.pl a hab.1
    have h2 := ok.pl b hab.2.1
    have h3 := befB_iff.1 hab.2.2
    unfold inPl at h1 h2
    unfold plN
    omega
  have hn : (g.map fun v => plN v.r v.a).Nodup := hnd.imp fun {a b} hl => by omega
  have := hn.length_le_of_subset (l₂ := List.range 218) fun k hk => by
    obtain ⟨v, hv, rfl⟩ := List.mem_map.1 hk
    have h1 := ok.pl v hv
    unfold inPl at h1
    exact List.mem_range.2 (plN_bd h1.2.1 h1.2.2.2).2
  simp at this
  omega

theorem seg_take {g : List Vx} {ls : List Int} {O : List Nat} {k : Nat} (hk : k < O.length) (h1 : ∀ v ∈ O, 1 ≤ v) : segV g ls (O.take k ++ [O[k]]) O[k] = segV g ls O O[k] := by
  have e : O.take k ++ [O[k]] = O.take (k + 1) := (List.take_succ_eq_append_getElem hk).symm
  have hp := h1 _ (List.getElem_mem hk)
  have hm : O[k] ∈ O.take (k + 1) := by rw [← e]; exact List.mem_append.2 (.inr (List.mem_singleton.2 rfl))
  unfold segV
  rw [e]
  congr 1
  refine List.filter_congr fun j _ => ?_
  have hs : O.take (k + 1) ++ O.drop (k + 1) = O := List.take_append_drop _ _
  rw [Bool.eq_iff_iff, beq_iff_eq, beq_iff_eq]
  constructor
  · intro h
    have := ow_first (R := O.drop (k + 1)) h (by omega)
    rwa [hs] at this
  · intro h
    exact ow_back (O := O.take (k + 1)) (R := O.drop (k + 1)) (by rw [hs]; exact h) hm hp
def ordK (g : List Vx) (ls : List Int) (O : List Nat) (k : Nat) : List Vx := (O.take k).flatMap (segV g ls O)
theorem ordK_succ {g : List Vx} {ls : List Int} {O : List Nat} {k : Nat} (hk : k < O.length) (h1 : ∀ v ∈ O, 1 ≤ v) : ordK g ls O (k + 1) = ordK g ls O k ++ segV g ls (O.take k ++ [O[k]]) O[k] := by
  rw [seg_take hk h1]
  unfold ordK
  rw [List.take_succ_eq_append_getElem hk, List.flatMap_append, List.flatMap_singleton]
theorem ordK_end (g : List Vx) (ls : List Int) (O : List Nat) : ordK g ls O O.length = ordV g ls O := by
  unfold ordK; rw [List.take_length, ordV_seg]
theorem ordK_len {c : List Int} {g : List Vx} {ls : List Int} {O : List Nat} (ok : CwOk c g ls O) (k : Nat) : (ordK g ls O k).length ≤ g.length := by
  have h1 : (ordK g ls O k).length ≤ (ordV g ls O).length := by
    have e : ordV g ls O = ordK g ls O k ++ (O.drop k).flatMap (segV g ls O) := by unfold ordK; rw [ordV_seg, ← List.flatMap_append, List.take_append_drop]
    rw [e, List.length_append]; omega
  have h2 : (ordV g ls O).length = (ordI g ls O).length := by unfold ordV; simp
  have := ordI_len (g := g) (ls := ls) ok.asc fun v hv => (ok.mem v hv).1
  omega
theorem wvs_at {c : List Int} {g : List Vx} {ls : List Int} {O : List Nat} (ok : CwOk c g ls O) (l15 : ls.length ≤ 15) {k : Nat} (hk : k < O.length) : WvsOk g ls (O.take k) O[k] := by
  have hm := ok.mem _ (List.getElem_mem hk)
  refine ⟨fun v hv => ?_, fun v hv => ?_, hm.1, by omega, hm.2.2⟩
  · have := ok.mem v (List.mem_of_mem_take hv); exact ⟨this.1, this.2.2⟩
  · obtain ⟨i, hi, e⟩ := List.mem_iff_getElem.1 hv
    rw [List.length_take] at hi
    rw [← e, List.getElem_take]
    exact List.pairwise_iff_getElem.1 ok.asc i k (by omega) hk (by omega)

theorem ord_zero : Tryd.zeroCells56 = ordA (.slice none 0 0) (.slice none 0 0) (fun _ => 0) := by kernel_rfl
set_option maxRecDepth 8000 in
theorem orderOf_no (ac : Option Addr) (capc : Nat) (c : List Int) (g : List Vx) (v : Value) (fp : List Nat) (al : Option Addr) (cap : Nat) (ls : List Int) (eN eI : Addr) (w : World) (hn : c.length ≤ 1099511627776) (hbig : g.length ≤ 1048576) (hps : ∀ x ∈ g, x.ps.length ≤ 1099511627776) (hl : ls.length ≤ 1099511627776) (hc : IntsAt w ac c) (hg : Gr w g v fp) (hi : IntsAt w al ls) (hs : Sen w eN eI) (hno : waB c g ls = false) :
    Calls Tryd.prog 22 #[.slice ac c.length capc, v, .slice al ls.length cap] w fun e w' => e = .returned (.tuple #[.pointer none, .iface 139 (.pointer (some eI))]) ∧ Below w.heap.size w w' := by
  have H := Lib.hid (ledGraphOf_no ac capc c g v fp al cap ls eN eI w hn (by omega) hps hl hc hg hi hs hno)
  clear hc hg hps hi hs hno
  go_enter Tryd.func22, Tryd.ntmps22
  go_wp2_with fail
  refine H.out.mono ?_
  rintro e w1 ⟨rfl, hb⟩
  have Hb := Lib.hid hb; clear hb
  go_wp2
  go_ret2
  exact ⟨rfl, Hb.out⟩

/-- What orderOf answers. -/
def OrdPost (w : World) (c : List Int) (g : List Vx) (ls : List Int) (e : Ending) (w' : World) : Prop := ∃ B lo hi h vs wt wv, e = .returned (.tuple #[.pointer (some ⟨B, 0, none⟩), .nilIface]) ∧ Oq w' lo hi B h vs wt (ordV g ls (cwN c g ls)) wv [] ∧ WvOk g ls (cwN c g ls) wv ∧ VsA w' lo h g ∧ Below w.heap.size w w'
set_option maxRecDepth 8000 in
set_option maxHeartbeats 4000000 in
theorem orderOf_yes (ac : Option Addr) (capc : Nat) (c : List Int) (g : List Vx) (v : Value) (fp : List Nat) (al : Option Addr) (cap : Nat) (ls : List Int) (eN eI : Addr) (w : World) (hn : c.length ≤ 1099511627776) (hbig : g.length ≤ 1048575) (hps : ∀ x ∈ g, x.ps.length ≤ 1099511627776) (hl : ls.length ≤ 1099511627776) (hc : IntsAt w ac c) (hg : Gr w g v fp) (hi : IntsAt w al ls) (hs : Sen w eN eI) (hyes : waB c g ls = true) :
    Calls Tryd.prog 22 #[.slice ac c.length capc, v, .slice al ls.length cap] w (OrdPost w c g ls) := by
  have ok := good21 hyes hps
  have H := Lib.hid (ledGraphOf_yes ac capc c g v fp al cap ls w hn (by omega) hps hl hc hg hi hyes)
  obtain ⟨hcw, hcok⟩ := cwN_ok hyes hps
  have hwv : (wvs c g ls ls.length).1 = (cwN c g ls).map Int.ofNat := by rw [← hcw]; unfold cwZ; rw [if_pos hyes]
  have h15 := ok.l15
  have Hok := Lib.hid ok; have Hs := Lib.hid hs; have Hi := Lib.hid hi; have Hc := Lib.hid hc; have Hcok := Lib.hid hcok; have Hwv := Lib.hid hwv
  have Hlen := Lib.hid (ordK_len hcok)
  unfold OrdPost
  generalize cwN c g ls = O at *
  clear hc hg hps hi hs hyes ok hcw hcok hwv
  go_enter Tryd.func22, Tryd.ntmps22
  go_wp2_with fail
  refine H.out.mono ?_
  rintro e w1 ⟨q, G, lo, h, rfl, hb1, hq, hL⟩
  have Hb1 := Lib.hid hb1
  have HL := Lib.hid hL
  have Hs1 := Lib.hid (Hs.out.below hb1)
  have Hi1 := Lib.hid (Hi.out.below hb1)
  have Hc1 := Lib.hid (Hc.out.below hb1)
  have hz0 := ord_zero
  have hqlt := hL.st.lt
  have hlo := hL.lk.le
  have hloq := hL.hq
  clear hb1 hL
  go_wp2_with fail
  have hal : Below w1.heap.size w1 (w1.alloc (.cells (ordA (.slice none 0 0) (.slice none 0 0) fun _ => 0) 56)) := (Below.refl _ _).alloc (Nat.le_refl _) _
  have hsO := Str.new w1 56 (ordA (.slice none 0 0) (.slice none 0 0) fun _ => 0)
  have hz2 : (w1.alloc (.cells (ordA (.slice none 0 0) (.slice none 0 0) fun _ => 0) 56)).heap.size = w1.heap.size + 1 := by simp
  generalize w1.alloc (.cells (ordA (.slice none 0 0) (.slice none 0 0) fun _ => 0) 56) = w2 at *
  refine (led_committed (HL.out.under hal) (Hs1.out.below hal) Hok.out (by omega) (Hc1.out.below hal) (Hi1.out.below hal)).mono ?_
  rintro e w3 ⟨u, rfl, ho3, hb3⟩
  rw [Hwv.out] at ho3
  have HL3 := Lib.hid ((HL.out.under hal).under hb3)
  have hs3 := hb3.size
  have Hbw3 := Lib.hid (below_step (below_step Hb1.out Hb1.out.size hal) (Nat.le_trans Hb1.out.size hal.size) hb3)
  have hst3 : Str w3 w1.heap.size 56 (ordA (.slice none 0 0) (.slice none 0 0) fun _ => 0) := (hb3.block _ (by omega)).trans hsO
  have hwB := Hb1.out.size
  generalize w1.heap.size = B at *
  have Ho0 := Lib.hid (⟨by omega, by omega, Nat.le_refl _, hst3, OwnP.nil _ _ _, OwnP.nil _ _ _, by simp [Value.ownBlock], by simp [Value.ownBlock], by simp [Value.ownBlock]⟩ : Oq w3 lo w3.heap.size B h (.slice none 0 0) (.slice none 0 0) [] (fun _ => 0) [])
  have Hol := Lib.hid ho3
  obtain ⟨au, cu, rfl, _, _⟩ := ho3.ints
  rw [List.length_map] at *
  have hOl : O.length ≤ 15 := by
    have h1 := Hcok.out.asc
    have h2 : O.length ≤ (List.range' 1 ls.length).length := List.Nodup.length_le_of_subset (show O.Nodup from h1.imp (fun {a b} h => Nat.ne_of_lt h)) fun v hv => by
      have := Hcok.out.mem v hv; rw [List.mem_range'_1]; omega
    rw [List.length_range'] at h2; omega
  generalize hhi : w3.heap.size = hi3 at *
  clear hal hsO hb3 hst3 ho3 HL Hs1 Hi1 Hc1
  go_wp2_with fail
  go_loopw [30] (fun i wr => ∃ (k : Nat) (vs wt : Value) (wv : Nat → Nat), k ≤ O.length ∧ i = .int .i64 k ∧ Oq wr lo hi3 B h vs wt (ordK g ls O k) wv [] ∧ WvOk g ls (O.take k) wv ∧ Bx hi3 B w3 wr) (fun i _ => O.length - (intOf i).toNat)
  case atStart => exact ⟨0, _, _, _, by omega, rfl, Ho0.out, by rw [List.take_zero]; exact wv_zero g ls, Bx.refl _ _ _⟩
  case round =>
    obtain ⟨k, vs, wt, wv, hk, rfl, o, hv, hb⟩ := hrel
    have hlow : Below w.heap.size w3 wr := hb.low (by omega) (by omega)
    have HbL := Lib.hid (Hbw3.out.trans hlow)
    have hTl := Hlen.out k
    by_cases hlt : k < O.length
    · obtain ⟨gb, cap', ep, hgb, hgl, _, hcell, _⟩ := Own.row Hol.out (by rw [List.length_map]; omega)
      simp only [Value.slice.injEq, List.length_map, true_and] at ep
      obtain ⟨rfl, rfl⟩ := ep
      have ck := (World.cell?_of_block (a := ⟨gb, k, none⟩) (hb.block gb (by omega) (by omega))).trans (hcell k (by rw [List.length_map]; exact hlt))
      rw [List.getElem_map] at ck
      have hwk := wvs_at Hcok.out h15 hlt
      have hsucc := ordK_succ (g := g) (ls := ls) hlt (fun v hv => (Hcok.out.mem v hv).1)
      have htk : O.take k ++ [O[k]] = O.take (k + 1) := (List.take_succ_eq_append_getElem hlt).symm
      have hmem := Hcok.out.mem _ (List.getElem_mem hlt)
      generalize O[k] = W at *
      have ck : wr.cell? ⟨gb, k, none⟩ = some (.int .i64 (W : Int)) := ck
      have hLr : Lg w wr lo G q (.slice ac c.length capc) h g al cap ls := ⟨HL3.out.lk.low (hb.low (by omega) (by omega)), (hb.block q (by omega) (by omega)).trans HL3.out.st, HL3.out.hq⟩
      have HD := Lib.hid (led_leader hLr (Hs.out.below HbL.out) W ⟨hmem.1, hmem.2.1⟩ h15 Hok.out.l6 (Hi.out.below HbL.out) Hok.out.pl)
      have HA := Lib.hid (fun (p : Nat) w5 (hd : Drawn wr w5) (hp : h (plN (ldV g ls W).r (ldV g ls W).a) = ptrV p) => order_addWave w wr lo hi3 G B (.slice ac c.length capc) vs wt h c g (ordK g ls O k) ls (O.take k) W p w5 wv hLr.lk Hok.out hbig hwk hv hp (hd.below _) (o.below (hd.below _)) (by omega))
      have hW0 := hwk.has
      have Hb := Lib.hid hb; have Hsucc := Lib.hid hsucc; have Htk := Lib.hid htk
      clear hb o hv hLr hwk hsucc htk hlow hcell hTl
      go_wp2_with fail
      refine HD.out.mono ?_
      rintro e w5 ⟨hcase, hd⟩
      rcases hcase with ⟨hz, _⟩ | ⟨j, hj, p, hz, hp, rfl⟩
      · omega
      have hV : ldV g ls W = g[j] := by unfold ldV; rw [hz, Int.toNat_natCast, getV hj]
      have HA5 := Lib.hid (HA.out p w5 hd (by rw [hV]; exact hp))
      have Hb5 := Lib.hid (Hb.out.trans (Bx.of (hd.below hi3) (Nat.le_refl _)))
      clear hd hz hp hV ck
      go_wp2_with fail
      refine HA5.out.mono ?_
      rintro e w6 ⟨rfl, vs6, wt6, wv6, o6, hv6, hb6⟩
      have Ho6 := Lib.hid o6; have Hv6 := Lib.hid hv6; have Hb6 := Lib.hid (Hb5.out.trans hb6)
      clear o6 hv6 hb6
      go_wp2
      go_roundw
      case rel => exact ⟨k + 1, vs6, wt6, wv6, by omega, by go_num, by rw [Hsucc.out]; exact Ho6.out, by rw [← Htk.out]; exact Hv6.out, Hb6.out⟩
      case measure => simp [intOf]; omega
    · have hke : k = O.length := by omega
      subst hke
      rw [ordK_end, List.take_length] at *
      have Ho := Lib.hid o; have Hv := Lib.hid hv; have Hb := Lib.hid hb
      clear o hv hb hlow hTl
      go_wp2
      go_ret2
      exact ⟨B, lo, hi3, h, vs, wt, wv, rfl, Ho.out, Hv.out, (HL3.out.lk.low (Hb.out.low (by omega) (by omega))).vsA, HbL.out⟩

end Go.Proofs.YtjaacdapibokiabDoor

/- Lists of rows of numbers in memory of their own, cell by cell; an append to them at an operation; general steps, nothing here speaks of the program. -/
namespace Go.Proofs.YtjaacdapibokiabDoor
open Go.RowKit

def rwN (e : List Int) : List Value := e.map (Value.int .i64)
def flN (es : List (List Int)) : List Value := es.flatMap rwN
theorem flN_app (es es2 : List (List Int)) : flN (es ++ es2) = flN es ++ flN es2 := by unfold flN; rw [List.flatMap_append]
theorem flN_len {sz : Nat} : ∀ {es : List (List Int)}, (∀ e ∈ es, e.length = sz) → (flN es).length = es.length * sz
  | [], _ => by simp [flN]
  | x :: es, h => by
    have ih := flN_len (es := es) fun e he => h e (List.mem_cons_of_mem _ he)
    have hx := h x (by simp)
    unfold flN at *
    rw [List.flatMap_cons, List.length_append, ih, List.length_cons, Nat.add_mul]
    simp [rwN, hx]; omega
theorem flN_at {sz : Nat} : ∀ {es : List (List Int)}, (∀ e ∈ es, e.length = sz) → ∀ (k j : Nat) (hk : k < es.length), j < sz → (flN es)[k * sz + j]? = (rwN es[k])[j]?
  | x :: es, h, 0, j, _, hj => by
    have hx := h x (by simp)
    unfold flN
    rw [List.flatMap_cons, List.getElem?_append_left (by simp [rwN, hx]; omega)]
    simp
  | x :: es, h, k + 1, j, hk, hj => by
    have hx := h x (by simp)
    have hk' : k < es.length := by simpa using hk
    have ih := flN_at (es := es) (fun e he => h e (List.mem_cons_of_mem _ he)) k j hk' hj
    unfold flN at *
    have hlx : (rwN x).length = sz := by simp [rwN, hx]
    rw [List.flatMap_cons, List.getElem?_append_right (by rw [hlx, Nat.add_mul]; omega)]
    rw [show (k + 1) * sz + j - (rwN x).length = k * sz + j by rw [hlx, Nat.add_mul]; omega, ih]
    simp
theorem flN_int {es : List (List Int)} {c : Value} (h : c ∈ flN es) : ∃ x, c = .int .i64 x := by
  unfold flN at h
  obtain ⟨e, _, hc⟩ := List.mem_flatMap.1 h
  unfold rwN at hc
  obtain ⟨x, _, rfl⟩ := List.mem_map.1 hc
  exact ⟨x, rfl⟩
/-- v owns rows of sz numbers, in a block from B on. -/
structure OwnN (E : TypeId) (sz : Nat) (w : World) (B : Nat) (v : Value) (es : List (List Int)) : Prop where
  szs : ∀ e ∈ es, e.length = sz
  row : w.ownsRow B E sz v es.length (flN es)
section
variable {E : TypeId} {sz : Nat} {w w' : World} {B : Nat} {v : Value} {es : List (List Int)}
theorem OwnN.lt (h : OwnN E sz w B v es) : ∀ g, v.ownBlock = some g → B ≤ g ∧ g < w.heap.size := World.ownsRow.lt h.row
theorem OwnN.slice (h : OwnN E sz w B v es) : ∃ a c, v = .slice a es.length c ∧ es.length ≤ c := by
  rcases h.row.2 with ⟨rfl, h0⟩ | ⟨g, cap, cur, rfl, _, _, hn, _⟩
  · exact ⟨none, 0, by rw [h0], by omega⟩
  · exact ⟨_, _, rfl, hn⟩
theorem OwnN.same (h : OwnN E sz w B v es) (hb : ∀ g, v.ownBlock = some g → w'.heap[g]? = w.heap[g]?) : OwnN E sz w' B v es := ⟨h.szs, row_same h.row hb⟩
theorem OwnN.below (h : OwnN E sz w B v es) (hb : Below w.heap.size w w') : OwnN E sz w' B v es := h.same fun g e => hb.block g (h.lt g e).2
theorem OwnN.kept {row : Option Nat} (h : OwnN E sz w B v es) (hg : w.grownBy w' row) (hne : ∀ g, v.ownBlock = some g → row ≠ some g) : OwnN E sz w' B v es :=
  h.same fun g e => hg.block g (h.lt g e).2 (fun e' => hne g e e'.symm)
theorem OwnN.mono {B' : Nat} (h : OwnN E sz w B v es) (hB : B' ≤ B) : OwnN E sz w B' v es := by
  refine ⟨h.szs, h.row.1, ?_⟩
  rcases h.row.2 with h0 | ⟨g, cap, cur, e, hb, rest⟩
  · exact .inl h0
  · exact .inr ⟨g, cap, cur, e, by omega, rest⟩
theorem OwnN.empty (E : TypeId) (sz : Nat) (w : World) : OwnN E sz (w.alloc (.cells #[] E)) w.heap.size (.slice (some ⟨w.heap.size, 0, none⟩) 0 0) [] :=
  ⟨by simp, by simp [flN], .inr ⟨w.heap.size, 0, #[], rfl, Nat.le_refl _, Str.new w E #[], Nat.le_refl _, Nat.zero_le _, by simp, by simp [flN]⟩⟩
theorem OwnN.ownR {Ei : TypeId} {hi : Nat} (h : OwnN E sz w B v es) (hh : w.heap.size ≤ hi) : OwnR E Ei sz w B hi v (es.map fun e => e.map Fd.i) := by
  have hn : ∀ (p : Nat) c, (flN es)[p]? = some c → c.ownBlock = none := fun p c hc => by obtain ⟨x, rfl⟩ := flN_int (List.mem_of_getElem? hc); rfl
  refine ⟨fun e he => by obtain ⟨x, hx, rfl⟩ := List.mem_map.1 he; rw [List.length_map]; exact h.szs x hx, flN es, by rw [List.length_map]; exact h.row, fun k j hk hj => ?_, ?_, ?_, ?_, fun g e => Nat.lt_of_lt_of_le (h.lt g e).2 hh⟩
  · have hk' : k < es.length := by simpa using hk
    have he : (es.map fun e => e.map Fd.i)[k] = es[k].map Fd.i := by simp
    have hl : es[k].length = sz := h.szs _ (List.getElem_mem hk')
    have hj' : j < es[k].length := by rw [he, List.length_map] at hj; exact hj
    rw [flN_at h.szs k j hk' (by omega)]
    refine ⟨.int .i64 es[k][j], by simp [rwN, hj'], ?_⟩
    simp only [he, List.getElem_map]
    rfl
  · intro p q c d hc _ _ g e; rw [hn p c hc] at e; cases e
  · intro p c hc g e; rw [hn p c hc] at e; cases e
  · intro p c g hc e; rw [hn p c hc] at e; cases e
theorem OwnN.cell {g n cap : Nat} (h : OwnN E sz w B (.slice (some ⟨g, 0, none⟩) n cap) es) {k j : Nat} (hk : k < es.length) (hj : j < sz) : w.cell? ⟨g, k * sz + j, none⟩ = (rwN es[k])[j]? ∧ w.frozen? ⟨g, k * sz + j, none⟩ = false := by
  have hl : es[k].length = sz := h.szs _ (List.getElem_mem hk)
  have hc := flN_at h.szs k j hk hj
  have he : (rwN es[k])[j]? = some (.int .i64 (es[k][j]'(by omega))) := by simp [rwN, show j < es[k].length by omega]
  have h0 := World.ownsRow.cells h.row (g := g) rfl _ _ (hc.trans he)
  rw [addr_add] at h0
  refine ⟨h0.trans he.symm, ?_⟩
  rcases h.row.2 with ⟨h', _⟩ | ⟨g', cap', cur, h', _, hg, _⟩
  · simp at h'
  · simp only [Value.slice.injEq, Option.some.injEq, Addr.mk.injEq, and_true] at h'
    obtain ⟨rfl, _⟩ := h'
    exact frozen_of_row w g _ cur E hg
end
/-- The rows' cells from this place on. -/
def SrcN (w : World) (ad : Addr) (es : List (List Int)) : Prop := ∀ (j : Nat) u, (flN es)[j]? = some u → w.cell? (ad.add j) = some u
theorem SrcN.below {w w' : World} {ad : Addr} {es : List (List Int)} (h : SrcN w ad es) (hb : Below w.heap.size w w') : SrcN w' ad es := fun j u hj => (hb.cell (World.block_lt_of_cell? _ _ (h j u hj))).trans (h j u hj)
theorem SrcN.new (w : World) (E : TypeId) (e : List Int) : SrcN (w.alloc (.cells (rwN e).toArray E)) ⟨w.heap.size, 0, none⟩ [e] := by
  intro j u hu
  rw [addr_add, World.cell?_alloc_at _ _ _ _ rfl]
  simpa [flN] using hu
theorem OwnN.src {E : TypeId} {sz : Nat} {w : World} {B g n cap : Nat} {es : List (List Int)} (h : OwnN E sz w B (.slice (some ⟨g, 0, none⟩) n cap) es) : SrcN w ⟨g, 0, none⟩ es := fun j u hj => World.ownsRow.cells h.row (g := g) rfl j u hj

/-- 'append(s, t...)' at an operation: s is the call's own, the rows of t lie at ad. -/
theorem op_app_N {P : Program} {T E : TypeId} {sz bytes : Nat} {z0 : Value} (hsl : P.underlying T = some (.slice E)) (hinf : (P.info? E).map (fun i => (i.zero, i.size, i.bytes)) = some (some z0, sz, bytes)) (hz0 : z0.cells.size = sz) (hpos : 0 < sz) (hby : bytes ≤ 1000)
    {w : World} {o : Oper} {a : Act} {K : Act → World → Prop} {Q : Exit → Act → World → Prop} (s x : Operand) (ho : o.op = .call { callee := .builtin .append, args := #[s, x], argTypes := #[T, T] }) (B : Nat) (v : Value) (es es2 : List (List Int)) (ad : Option Addr) (c : Nat)
    (hs : a.eval s = v) (hb : OwnN E sz w B v es) (hx : a.eval x = .slice ad es2.length c) (hs2 : ∀ e ∈ es2, e.length = sz) (hsrc : (ad = none ∧ es2 = [] ∧ c = 0) ∨ ∃ q, ad = some q ∧ SrcN w q es2) (hlen : es.length + es2.length ≤ 1048577) (hB : B ≤ w.heap.size)
    (h : ∀ v' w', OwnN E sz w' B v' (es ++ es2) → w.grownBy w' v.ownBlock → (∀ g, v'.ownBlock = some g → v.ownBlock = some g ∨ w.heap.size ≤ g) → K (a.put o.dst v') w') : Oper.wp P o a w K Q := by
  obtain ⟨i, hi, hz, hsz, hbb⟩ := info_parts hinf
  have hall : ∀ e ∈ es ++ es2, e.length = sz := fun e he => by
    rcases List.mem_append.1 he with h1 | h1
    · exact hb.szs e h1
    · exact hs2 e h1
  have run : ∃ v' w', (Builtin.append_ #[T, T] o.type #[v, .slice ad es2.length c]).run P w = .ok v' w' ∧ OwnN E sz w' B v' (es ++ es2) ∧ w.grownBy w' v.ownBlock ∧ (v'.ownBlock = v.ownBlock ∨ v'.ownBlock = some w.heap.size) := by
    rcases hsrc with ⟨rfl, rfl, rfl⟩ | ⟨q, rfl, hq⟩
    · exact ⟨v, w, run_append_owned_none (P := P) (w := w) B T o.type E i sz hsl hi v es.length _ hb.row, by simpa using hb, World.grownBy.refl _ _, .inl rfl⟩
    · obtain ⟨v', w', h1, h2, h3, _, h4⟩ := run_append_own_at (P := P) w B T o.type E i z0 sz bytes hsl hi hz hsz hbb hz0 hpos v es.length _ hb.row q es2.length c (flN es2) (flN_len hs2) hq (fun u hu => by obtain ⟨x, rfl⟩ := flN_int hu; rfl) (by unfold maxLen; omega) (by
        have := Nat.mul_le_mul (show es.length + es2.length ≤ 1048577 from hlen) hby; omega) hB
      exact ⟨v', w', h1, ⟨hall, by rw [List.length_append, flN_app]; exact h2⟩, h3, h4⟩
  obtain ⟨v', w', hrun, h1, hg, h4⟩ := run
  unfold Oper.wp execOp
  simp only [ho, resolve, invoke, builtin, Sem.run_bind, Sem.run_pure, Result.andThen_ok, List.map_toArray, List.map_cons, List.map_nil, hs, hx, hrun]
  exact h v' w' h1 hg fun g e => by
    rcases h4 with h4 | h4
    · exact .inl (by rw [← h4]; exact e)
    · rw [h4] at e; cases e; exact .inr (Nat.le_refl _)

end Go.Proofs.YtjaacdapibokiabDoor
