/- The reference's past of a vertex, each text by a walk; conditions: lists are shorter than 2^40 (a graph: 2^20), and where the text asks it, the graph is valid. -/
import Derived.Test.YtejpoeejhmgphaaRows
import Derived.Test.YtejpoeejhmgphaaGv7
namespace Go.Proofs.Ytejpoeejhmgphaa
open Go.RowKit

/-! the past, as the text marks it -/
def putB (g : List Vx) (r : Int) (bs : List Bool) (p : Int) : List Bool := bs.set (findZ g (r - 1) p).toNat true
def fromB (g : List Vx) (bs : List Bool) (x : Vx) (i k : Nat) : List Bool := if bs.getD i false = true then (x.ps.drop k).foldl (putB g x.r) bs else bs
def downB (g : List Vx) : Nat → List Bool → List Bool
  | 0, bs => bs
  | i + 1, bs => downB g i (fromB g bs (g.getD i vx0) i 0)
def pastB (g : List Vx) (at' : Int) : List Bool := if at' < 0 then List.replicate g.length false else downB g (at'.toNat + 1) ((List.replicate g.length false).set at'.toNat true)
theorem fromB_step {g : List Vx} {bs : List Bool} {x : Vx} {i k : Nat} (hk : k < x.ps.length) (hb : bs.getD i false = true) : (putB g x.r bs x.ps[k]).getD i false = true ∧ fromB g (putB g x.r bs x.ps[k]) x i (k + 1) = fromB g bs x i k := by
  have h1 : (putB g x.r bs x.ps[k]).getD i false = true := by
    unfold putB
    rw [List.getD_eq_getElem?_getD, List.getElem?_set]
    rw [List.getD_eq_getElem?_getD] at hb
    split
    · split
      · rfl
      · rename_i h1 h2
        rw [List.getElem?_eq_none (by omega)] at hb
        simp at hb
    · exact hb
  refine ⟨h1, ?_⟩
  unfold fromB
  rw [if_pos h1, if_pos hb, List.drop_eq_getElem_cons hk, List.foldl_cons]
theorem fromB_end {g : List Vx} {bs : List Bool} {x : Vx} {i : Nat} : fromB g bs x i x.ps.length = bs := by
  unfold fromB
  split
  · rw [List.drop_length]; rfl
  · rfl
theorem fromB_off {g : List Vx} {bs : List Bool} {x : Vx} {i k : Nat} (h : bs.getD i false = false) : fromB g bs x i k = bs := by unfold fromB; rw [if_neg (by rw [h]; decide)]
theorem putB_len (g : List Vx) (r : Int) (bs : List Bool) (p : Int) : (putB g r bs p).length = bs.length := by simp [putB]
/-- Each parent of a graph's vertex is found. -/
theorem graph_parents {c : List Int} {g : List Vx} (h : graphB c g = true) (i : Nat) (hi : i < g.length) (k : Nat) (hk : k < g[i].ps.length) : ∃ j : Nat, j < g.length ∧ findZ g (g[i].r - 1) g[i].ps[k] = j := by
  unfold graphB at h
  simp only [Bool.and_eq_true] at h
  have := allB_upto h.2 i hi
  unfold okV at this
  rw [getV hi] at this
  simp only [Bool.and_eq_true] at this
  have := allB_upto this.2.2 k hk
  unfold hasP at this
  rw [getD_get hk] at this
  have := of_decide_eq_true this
  rcases findZ_cases g (g[i].r - 1) g[i].ps[k] with ⟨e, _⟩ | ⟨j, hj, e, _⟩
  · omega
  · exact ⟨j, hj, e⟩

set_option maxRecDepth 8000 in
set_option maxHeartbeats 2000000 in
theorem spec_l11Past (c : List Int) (g : List Vx) (v : Value) (fp : List Nat) (at' : Int) (w : World) (hv : graphB c g = true) (hbig : g.length ≤ 1048576) (hps : ∀ x ∈ g, x.ps.length ≤ 1099511627776) (ha : at' = -1 ∨ ∃ j : Nat, j < g.length ∧ at' = j) (hg : Gr w g v fp) :
    Calls Try.prog 46 #[v, .int .i64 at'] w fun e w' => ∃ u, e = .returned u ∧ OwnB 4 w' w.heap.size u (pastB g at') ∧ Below w.heap.size w w' := by
  have hmk : ∀ w, (Instr.makeSlice 75 (.int .i64 (g.length : Int)) (.int .i64 (g.length : Int))).run Try.prog w = .ok (.slice (some ⟨w.heap.size, 0, none⟩) g.length g.length) (w.alloc (.cells (madeCells #[.bool false] g.length) 4)) :=
    fun w => run_make_row' 75 4 (.bool false) 1 Try.underlying75 (by kernel_rfl) rfl .i64 .i64 g.length (by omega) (by omega) w
  have hb1 : Below w.heap.size w (w.alloc (.cells (madeCells #[.bool false] g.length) 4)) := (Below.refl _ _).alloc (Nat.le_refl _) _
  have ho1 := ownB_new 4 w g.length (by unfold maxLen; omega)
  obtain ⟨va, vc, rfl⟩ := hg.slice
  have Hb1 := Lib.hid hb1; clear hb1
  have hsz : (w.alloc (.cells (madeCells #[.bool false] g.length) 4)).heap.size = w.heap.size + 1 := by simp
  rcases ha with rfl | ⟨a, haL, rfl⟩
  · have hz : pastB g (-1) = List.replicate g.length false := by unfold pastB; rw [if_pos (by omega)]
    have Hz := Lib.hid hz; clear hz
    have Ho1 := Lib.hid ho1; clear ho1
    go_enter Try.func46, Try.ntmps46
    go_wp2
    go_ret
    exact ⟨_, rfl, by rw [Hz.out]; exact Ho1.out, Hb1.out⟩
  have hz : pastB g (a : Int) = downB g (a + 1) ((List.replicate g.length false).set a true) := by unfold pastB; rw [if_neg (by omega)]; rfl
  have Hz := Lib.hid hz; clear hz
  obtain ⟨hst1, hst2⟩ := ho1.store (by simp) a true
  obtain ⟨hcell, hfr⟩ : (w.alloc (.cells (madeCells #[.bool false] g.length) 4)).cell? ⟨w.heap.size, a, none⟩ = some (.bool false) ∧ (w.alloc (.cells (madeCells #[.bool false] g.length) 4)).frozen? ⟨w.heap.size, a, none⟩ = false := by
    obtain ⟨g', cap', e, _, _, _, hc, hf⟩ := ho1.row (by simp; omega)
    simp only [Value.slice.injEq, Option.some.injEq, Addr.mk.injEq, List.length_replicate, and_true, true_and] at e
    obtain ⟨rfl, rfl⟩ := e
    have := hc a (by simpa using haL)
    exact ⟨by simpa using this, hf a⟩
  rw [show (w.alloc (.cells (madeCells #[.bool false] g.length) 4)).setCell ⟨w.heap.size, a, none⟩ (.bool true) = w.alloc (.cells ((madeCells #[.bool false] g.length).setIfInBounds a (.bool true)) 4) from World.setCell_alloc_at _ _ _ _ _ rfl] at hst1 hst2
  have Hst1 := Lib.hid hst1; clear hst1
  have HB1 := Lib.hid (Hb1.out.grown hst2 (by omega) (fun g' e => by cases e; exact Nat.le_refl _)); clear hst2 Hb1
  have HF := Lib.hid (fun r p W h => spec_l11Find g (.slice va g.length vc) fp r p W (by omega) h)
  have Hpar := Lib.hid (graph_parents hv)
  have Hrd := Lib.hid (graph_vtx hv)
  have HP := Lib.hid hps; clear hps
  clear ho1 hsz
  go_enter Try.func46, Try.ntmps46
  go_wp2
  clear hcell hfr hmk
  generalize w.alloc (.cells ((madeCells #[.bool false] g.length).setIfInBounds a (.bool true)) 4) = W1 at *
  go_loopw [6] (fun i wr => ∃ (n : Nat) (bs : List Bool), n ≤ a + 1 ∧ i = .int .i64 ((n : Int) - 1) ∧ bs.length = g.length ∧ downB g n bs = pastB g (a : Int) ∧ OwnB 4 wr w.heap.size (.slice (some ⟨w.heap.size, 0, none⟩) g.length g.length) bs ∧ Below w.heap.size w wr) (fun i _ => (intOf i + 1).toNat)
  case atStart => exact ⟨a + 1, _, Nat.le_refl _, by first | rfl | simp, by simp, Hz.out.symm, Hst1.out, HB1.out⟩
  case round =>
    obtain ⟨n, bs, hn, rfl, hbl, hres, hown, hbel⟩ := hrel
    have Hown := Lib.hid hown; clear hown
    have Hbel := Lib.hid hbel; clear hbel
    by_cases h0 : n = 0
    · subst h0
      have Hr := Lib.hid (show bs = pastB g (a : Int) from hres); clear hres
      go_wp2
      go_ret
      exact ⟨_, rfl, by rw [← Hr.out]; exact Hown.out, Hbel.out⟩
    · obtain ⟨m, rfl⟩ : ∃ m, n = m + 1 := ⟨n - 1, by omega⟩
      have e1 : ((m + 1 : Nat) : Int) - 1 = m := by omega
      rw [e1]
      have hge' : (0 : Int) ≤ (m : Int) := by omega
      have hw1 : IntKind.i64.wrap ((m : Int) - 1) = m - 1 := IntWalk.i64_in _ (by omega)
      have hmL : m < g.length := by omega
      have hres2 : downB g m (fromB g bs g[m] m 0) = pastB g (a : Int) := by rw [← hres, ← getV hmL]; rfl
      have Hres2 := Lib.hid hres2
      have hrr := vtx_round (Hrd.out _ (List.getElem_mem hmL))
      have hps := HP.out _ (List.getElem_mem hmL)
      have Hpm := Lib.hid (fun k hk => Hpar.out m hmL k hk)
      have Hcell := Lib.hid (fun W (h : Below w.heap.size w W) => by
        obtain ⟨b, off, e, hb, hat⟩ := (hg.under h).at (by omega)
        exact (⟨b, off, e, hat m hmL⟩ : ∃ b off, va = some ⟨b, off, none⟩ ∧ W.cell? ⟨b, off + m * 4, none⟩ = some (.int .i64 g[m].r) ∧ W.cell? ⟨b, off + m * 4 + 1, none⟩ = some (.int .i64 g[m].a) ∧ (∃ pa pc, W.cell? ⟨b, off + m * 4 + 2, none⟩ = some (.slice pa g[m].ps.length pc) ∧ IntsAt W pa g[m].ps ∧ SrcAt W pa pc g[m].ps) ∧ W.cell? ⟨b, off + m * 4 + 3, none⟩ = some (.int .i64 g[m].d)))
      obtain ⟨b, off, rfl, _⟩ := Hcell.out w (Below.refl _ _)
      clear e1 h0 hres hres2
      generalize hx : g[m] = x at *
      have Hx := Lib.hid hx; clear hx
      obtain ⟨W0, hW0⟩ : ∃ W0, W0 = wr := ⟨wr, rfl⟩
      subst hW0
      generalize hR : fromB g bs x m 0 = RES at *
      have HR := Lib.hid hR; clear hR
      go_wp2
      go_loopw [7] (fun i wr => ∃ (k : Nat) (bs' : List Bool), k ≤ x.ps.length ∧ i = .int .i64 k ∧ bs'.length = g.length ∧ fromB g bs' x m k = RES ∧ OwnB 4 wr w.heap.size (.slice (some ⟨w.heap.size, 0, none⟩) g.length g.length) bs' ∧ Below w.heap.size w wr) (fun i _ => x.ps.length - (intOf i).toNat)
      case atStart => exact ⟨0, bs, Nat.zero_le _, rfl, hbl, HR.out, Hown.out, Hbel.out⟩
      case round =>
        obtain ⟨k, bs', hk, rfl, hbl', hfr, hown', hbel'⟩ := hrel
        have Hfr := Lib.hid hfr; clear hfr
        have Hbel' := Lib.hid hbel'; clear hbel'
        obtain ⟨b', off', e, c0, c1, ⟨pa, pc, c2, i2, _⟩, c3⟩ := Hcell.out wr Hbel'.out
        simp only [Option.some.injEq, Addr.mk.injEq, and_true] at e
        obtain ⟨rfl, rfl⟩ := e
        obtain ⟨g', cap', e, _, _, _, hbc, hbf⟩ := hown'.row (by omega)
        simp only [Value.slice.injEq, Option.some.injEq, Addr.mk.injEq, and_true] at e
        obtain ⟨rfl, h9, rfl⟩ := e
        clear h9
        have hin := hbc m (by omega)
        have hbm : bs'.getD m false = bs'[m] := by simp [List.getD, List.getElem?_eq_getElem (show m < bs'.length by omega)]
        have Hown' := Lib.hid hown'; clear hown'
        by_cases hlt : k < x.ps.length
        · have hlt' : (k : Int) < (x.ps.length : Int) := by omega
          cases hbv : bs'[m] with
          | true =>
            rw [hbv] at hin hbm
            obtain ⟨j, hjL, hfz⟩ := Hpm.out k hlt
            obtain ⟨b2, off2, rfl, hb2, hat2⟩ := i2.cell (by omega)
            have q0 : wr.drew.cell? ⟨b, off + m * 4, none⟩ = some (.int .i64 x.r) := c0
            have q2 : wr.drew.cell? ⟨b, off + m * 4 + 2, none⟩ = some (.slice (some ⟨b2, off2, none⟩) x.ps.length pc) := c2
            have q3 : wr.drew.cell? ⟨b2, off2 + k, none⟩ = some (.int .i64 x.ps[k]) := hat2 k hlt
            obtain ⟨y, q4⟩ : ∃ y, wr.drew.cell? ⟨w.heap.size, j, none⟩ = some (.bool y) := ⟨_, hbc j (by omega)⟩
            have q5 : wr.drew.frozen? ⟨w.heap.size, j, none⟩ = false := hbf j
            have hw2 : IntKind.i64.wrap (x.r - 1) = x.r - 1 := IntWalk.i64_in _ (by omega)
            have hj2 : (j : Int) < (g.length : Int) := by omega
            have hm2 : (m : Int) < (g.length : Int) := by omega
            have hput : putB g x.r bs' x.ps[k] = bs'.set j true := by unfold putB; rw [hfz]; rfl
            obtain ⟨hs1, hs2⟩ := fromB_step (g := g) (i := m) hlt hbm
            rw [hput] at hs2
            have Hs2 := Lib.hid (hs2.trans Hfr.out)
            have Hfz := Lib.hid hfz
            have HF1 := Lib.hid (fun W h => HF.out (x.r - 1) x.ps[k] W h)
            have Hg1 := Lib.hid (hg.under Hbel'.out)
            have hb0 : Below wr.heap.size wr wr.drew := (Below.refl _ _).drew
            have Hst := Lib.hid ((show OwnB 4 wr.drew w.heap.size (.slice (some ⟨w.heap.size, 0, none⟩) g.length g.length) bs' from Hown'.out).store hbl'.symm j true)
            clear c1 c3 hfz hput hs1 hs2 hat2 hbc hbf hbm hbv
            generalize x.ps[k] = p at *
            go_wp2_with fail
            refine wp_region_L 18 (fun w' => w' = wr.drew) (by kernel_rfl) rfl (fun hH => ?_)
            refine takeL 0 (v := ?vp0) rfl (by kernel_rfl) (by kernel_rfl) (by kernel_rfl) (by kernel_rfl) (by kernel_rfl) (fun _ _ _ h => h) hH rfl ?yp0 ?rp0
            case yp0 => intro W hSw; subst hSw; go_simp; try with_reducible rfl
            try simp only [Act.put, List.setIfInBounds_toArray, List.set_cons_zero, List.set_cons_succ]
            refine takeL 1 (v := ?vp1) rfl (by kernel_rfl) (by kernel_rfl) (by kernel_rfl) (by kernel_rfl) (by kernel_rfl) (fun _ _ _ h => h) hH rfl ?yp1 ?rp1
            case yp1 => intro W hSw; subst hSw; go_simp; try with_reducible rfl
            try simp only [Act.put, List.setIfInBounds_toArray, List.set_cons_zero, List.set_cons_succ]
            refine takeL 2 (v := ?vp2) rfl (by kernel_rfl) (by kernel_rfl) (by kernel_rfl) (by kernel_rfl) (by kernel_rfl) (fun _ _ _ h => h) hH rfl ?yp2 ?rp2
            case yp2 => intro W hSw; subst hSw; go_simp; try with_reducible rfl
            try simp only [Act.put, List.setIfInBounds_toArray, List.set_cons_zero, List.set_cons_succ]
            refine takeL 3 (v := ?vp3) rfl (by kernel_rfl) (by kernel_rfl) (by kernel_rfl) (by kernel_rfl) (by kernel_rfl) (fun _ _ _ h => h) hH rfl ?yp3 ?rp3
            case yp3 => intro W hSw; subst hSw; go_simp; try with_reducible rfl
            try simp only [Act.put, List.setIfInBounds_toArray, List.set_cons_zero, List.set_cons_succ]
            refine takeL 4 (v := ?vp4) rfl (by kernel_rfl) (by kernel_rfl) (by kernel_rfl) (by kernel_rfl) (by kernel_rfl) (fun _ _ _ h => h) hH rfl ?yp4 ?rp4
            case yp4 => intro W hSw; subst hSw; go_simp; try with_reducible rfl
            try simp only [Act.put, List.setIfInBounds_toArray, List.set_cons_zero, List.set_cons_succ]
            refine takeL 5 (v := ?vp5) rfl (by kernel_rfl) (by kernel_rfl) (by kernel_rfl) (by kernel_rfl) (by kernel_rfl) (fun _ _ _ h => h) hH rfl ?yp5 ?rp5
            case yp5 => intro W hSw; subst hSw; go_simp; try with_reducible rfl
            try simp only [Act.put, List.setIfInBounds_toArray, List.set_cons_zero, List.set_cons_succ]
            refine takeL 6 (v := ?vp6) rfl (by kernel_rfl) (by kernel_rfl) (by kernel_rfl) (by kernel_rfl) (by kernel_rfl) (fun _ _ _ h => h) hH rfl ?yp6 ?rp6
            case yp6 => intro W hSw; subst hSw; go_simp; try with_reducible rfl
            try simp only [Act.put, List.setIfInBounds_toArray, List.set_cons_zero, List.set_cons_succ]
            refine takeL 7 (v := ?vp7) rfl (by kernel_rfl) (by kernel_rfl) (by kernel_rfl) (by kernel_rfl) (by kernel_rfl) (fun _ _ _ h => h) hH rfl ?yp7 ?rp7
            case yp7 => intro W hSw; subst hSw; go_simp; try with_reducible rfl
            try simp only [Act.put, List.setIfInBounds_toArray, List.set_cons_zero, List.set_cons_succ]
            refine takeL 8 (v := ?vp8) rfl (by kernel_rfl) (by kernel_rfl) (by kernel_rfl) (by kernel_rfl) (by kernel_rfl) (fun _ _ _ h => h) hH rfl ?yp8 ?rp8
            case yp8 => intro W hSw; subst hSw; go_simp; try with_reducible rfl
            try simp only [Act.put, List.setIfInBounds_toArray, List.set_cons_zero, List.set_cons_succ]
            refine takeL 9 (v := ?vp9) rfl (by kernel_rfl) (by kernel_rfl) (by kernel_rfl) (by kernel_rfl) (by kernel_rfl) (fun _ _ _ h => h) hH rfl ?yp9 ?rp9
            case yp9 => intro W hSw; subst hSw; go_simp; try with_reducible rfl
            try simp only [Act.put, List.setIfInBounds_toArray, List.set_cons_zero, List.set_cons_succ]
            refine takeL 10 (v := ?vp10) rfl (by kernel_rfl) (by kernel_rfl) (by kernel_rfl) (by kernel_rfl) (by kernel_rfl) (fun _ _ _ h => h) hH rfl ?yp10 ?rp10
            case yp10 => intro W hSw; subst hSw; go_simp; try with_reducible rfl
            try simp only [Act.put, List.setIfInBounds_toArray, List.set_cons_zero, List.set_cons_succ]
            refine takeL 11 (v := ?vp11) rfl (by kernel_rfl) (by kernel_rfl) (by kernel_rfl) (by kernel_rfl) (by kernel_rfl) (fun _ _ _ h => h) hH rfl ?yp11 ?rp11
            case yp11 => intro W hSw; subst hSw; go_simp; try with_reducible rfl
            try simp only [Act.put, List.setIfInBounds_toArray, List.set_cons_zero, List.set_cons_succ]
            refine takeL 12 (v := ?vp12) rfl (by kernel_rfl) (by kernel_rfl) (by kernel_rfl) (by kernel_rfl) (by kernel_rfl) (fun _ _ _ h => h) hH rfl ?yp12 ?rp12
            case yp12 => intro W hSw; subst hSw; go_simp; try with_reducible rfl
            try simp only [Act.put, List.setIfInBounds_toArray, List.set_cons_zero, List.set_cons_succ]
            refine takeL 13 (v := ?vp13) rfl (by kernel_rfl) (by kernel_rfl) (by kernel_rfl) (by kernel_rfl) (by kernel_rfl) (fun _ _ _ h => h) hH rfl ?yp13 ?rp13
            case yp13 => intro W hSw; subst hSw; go_simp; try with_reducible rfl
            try simp only [Act.put, List.setIfInBounds_toArray, List.set_cons_zero, List.set_cons_succ]
            refine takeL 14 (v := ?vp14) rfl (by kernel_rfl) (by kernel_rfl) (by kernel_rfl) (by kernel_rfl) (by kernel_rfl) (fun _ _ _ h => h) hH rfl ?yp14 ?rp14
            case yp14 => intro W hSw; subst hSw; go_simp; try with_reducible rfl
            try simp only [Act.put, List.setIfInBounds_toArray, List.set_cons_zero, List.set_cons_succ]
            refine takeL 15 (v := ?vp15) rfl (by kernel_rfl) (by kernel_rfl) (by kernel_rfl) (by kernel_rfl) (by kernel_rfl) (fun _ _ _ h => h) hH rfl ?yp15 ?rp15
            case yp15 => intro W hSw; subst hSw; go_simp; try with_reducible rfl
            try simp only [Act.put, List.setIfInBounds_toArray, List.set_cons_zero, List.set_cons_succ]
            refine callL 16 rfl (by kernel_rfl) rfl (fun K hK => ?_)
            go_simp
            go_at_call 33
            refine (HF1.out wr.drew (Hg1.out.under hb0)).mono ?_
            rintro e wx ⟨rfl, rfl⟩
            rw [Hfz.out]
            refine hK.out _ _ rfl (fun hH => ?_)
            clear hK K
            try simp only [Act.put, List.setIfInBounds_toArray, List.set_cons_zero, List.set_cons_succ]
            refine takeL 17 (v := ?vp17) rfl (by kernel_rfl) (by kernel_rfl) (by kernel_rfl) (by kernel_rfl) (by kernel_rfl) (fun _ _ _ h => h) hH rfl ?yp17 ?rp17
            case yp17 => intro W hSw; subst hSw; go_simp; try with_reducible rfl
            try simp only [Act.put, List.setIfInBounds_toArray, List.set_cons_zero, List.set_cons_succ]
            refine lastL rfl (by kernel_rfl) (by kernel_rfl) (by kernel_rfl) rfl (fun K hK => ?_)
            go_simp
            refine hK.out _ _ ?_
            clear hK K
            try simp only [Act.put, List.setIfInBounds_toArray, List.set_cons_zero, List.set_cons_succ]
            go_wp2
            go_roundw
            case rel => exact ⟨k + 1, bs'.set j true, by omega, by go_num, by rw [List.length_set]; exact hbl', Hs2.out, Hst.out.1, Hbel'.out.drew.grown Hst.out.2 (by simp only [World.drew]; exact Nat.le_trans Hbel'.out.size (Nat.le_refl _)) (fun g' e => by cases e; exact Nat.le_refl _)⟩
            case measure => simp [intOf]; omega
          | false =>
            rw [hbv] at hin hbm
            have Hr := Lib.hid ((fromB_off (g := g) (x := x) (k := k) hbm).symm.trans Hfr.out)
            clear hbc hbf hbm hbv
            go_wp2
            go_roundw
            case rel => exact ⟨m, bs', by omega, by first | rfl | go_num, hbl', by rw [Hr.out]; exact Hres2.out, Hown'.out, Hbel'.out⟩
            case measure => simp [intOf]
        · have hke : k = x.ps.length := by omega
          subst hke
          have Hr := Lib.hid (fromB_end.symm.trans Hfr.out)
          clear hbc hbf hbm hin
          go_wp2
          go_roundw
          case rel => exact ⟨m, bs', by omega, by first | rfl | go_num, hbl', by rw [Hr.out]; exact Hres2.out, Hown'.out, Hbel'.out⟩
          case measure => simp [intOf]

theorem pastB_len (g : List Vx) (a : Int) : (pastB g a).length = g.length := by
  have hf : ∀ (r : Int) (ps : List Int) (bs : List Bool), (ps.foldl (putB g r) bs).length = bs.length := by
    intro r ps
    induction ps with
    | nil => intro bs; rfl
    | cons p ps ih => intro bs; rw [List.foldl_cons, ih, putB_len]
  have hd : ∀ (n : Nat) (bs : List Bool), (downB g n bs).length = bs.length := by
    intro n
    induction n with
    | zero => intro bs; rfl
    | succ n ih =>
      intro bs
      rw [downB, ih]
      unfold fromB
      split
      · exact hf _ _ _
      · rfl
  unfold pastB
  split
  · simp
  · rw [hd]; simp

/-- The places of truth below n. -/
def idxTo (bs : List Bool) (n : Nat) : List Int := ((List.range n).filter fun i => bs.getD i false).map Int.ofNat
theorem idxTo_zero (bs : List Bool) : idxTo bs 0 = [] := rfl
theorem idxTo_yes {bs : List Bool} {n : Nat} (h : bs.getD n false = true) : idxTo bs (n + 1) = idxTo bs n ++ [(n : Int)] := by simp only [idxTo, List.range_succ, List.filter_append, List.map_append, List.filter_cons, h]; rfl
theorem idxTo_no {bs : List Bool} {n : Nat} (h : bs.getD n false = false) : idxTo bs (n + 1) = idxTo bs n := by simp only [idxTo, List.range_succ, List.filter_append, List.map_append, List.filter_cons, h]; simp
theorem idxTo_len (bs : List Bool) (n : Nat) : (idxTo bs n).length ≤ n := by
  unfold idxTo
  rw [List.length_map]
  exact Nat.le_trans (List.length_filter_le _ _) (by simp)
def gpZ (c : List Int) (g : List Vx) (r a : Int) : List Int := if graphB c g = true then idxTo (pastB g (findZ g r a)) g.length else []
theorem gpZ_len (c : List Int) (g : List Vx) (r a : Int) : (gpZ c g r a).length ≤ g.length := by
  unfold gpZ
  split
  · exact idxTo_len _ _
  · simp
set_option maxHeartbeats 1000000 in
theorem spec_GraphPast (ac : Option Addr) (capc : Nat) (c : List Int) (g : List Vx) (v : Value) (fp : List Nat) (r a : Int) (w : World) (hn : c.length ≤ 1099511627776) (hbig : g.length ≤ 1048576) (hps : ∀ x ∈ g, x.ps.length ≤ 1099511627776) (hc : IntsAt w ac c) (hg : Gr w g v fp) :
    Calls Try.prog 22 #[.slice ac c.length capc, v, .int .i64 r, .int .i64 a] w fun e w' => ∃ u, e = .returned u ∧ Own 3 w' w.heap.size u (gpZ c g r a) ∧ Below w.heap.size w w' := by
  have hb0 : Below w.heap.size w (w.alloc (.cells #[] 3)) := (Below.refl _ _).alloc (Nat.le_refl _) _
  have hV := spec_GraphValid ac capc c g v fp _ hn (by omega) hps (hc.below hb0) (hg.under hb0)
  have HF := Lib.hid (fun W h => spec_l11Find g v fp r a W (by omega) h)
  have Ho := Lib.hid (own_empty 3 w (Nat.le_refl w.heap.size))
  have Hb0 := Lib.hid hb0; clear hb0
  cases hb : graphB c g with
  | false =>
    rw [hb] at hV
    have hz : gpZ c g r a = [] := by unfold gpZ; rw [hb]; rfl
    have HV := Lib.hid hV; clear hV
    rw [hz]
    clear hz
    go_enter Try.func22, Try.ntmps22
    go_wp2_with fail
    refine HV.out.mono ?_
    rintro e w1 ⟨rfl, hb1⟩
    have Ho1 := Lib.hid (Ho.out.below hb1)
    have Hb1 := Lib.hid (below_step Hb0.out Hb0.out.size hb1); clear hb1
    go_wp2
    go_ret
    exact ⟨_, rfl, Ho1.out, Hb1.out⟩
  | true =>
    rw [hb] at hV
    have hz : gpZ c g r a = idxTo (pastB g (findZ g r a)) g.length := by unfold gpZ; rw [hb]; rfl
    have HV := Lib.hid hV; clear hV
    rw [hz]
    have hfa : findZ g r a = -1 ∨ ∃ j : Nat, j < g.length ∧ findZ g r a = j := by
      rcases findZ_cases g r a with ⟨e, _⟩ | ⟨k, hk, e, _⟩
      · exact .inl e
      · exact .inr ⟨k, hk, e⟩
    have HP := Lib.hid (fun W h => spec_l11Past c g v fp (findZ g r a) W hb hbig hps hfa h)
    have hlen := pastB_len g (findZ g r a)
    have Hg := Lib.hid hg; clear hg
    clear hz hfa
    generalize findZ g r a = at' at *
    generalize pastB g at' = bs at *
    go_enter Try.func22, Try.ntmps22
    go_wp2_with fail
    refine HV.out.mono ?_
    rintro e w1 ⟨rfl, hb1⟩
    have Ho1 := Lib.hid (Ho.out.below hb1)
    have Hb1 := Lib.hid (below_step Hb0.out Hb0.out.size hb1); clear hb1
    go_wp2_with fail
    refine (HF.out w1 (Hg.out.under Hb1.out)).mono ?_
    rintro e w2 ⟨rfl, rfl⟩
    go_wp2_with fail
    refine (HP.out w1 (Hg.out.under Hb1.out)).mono ?_
    rintro e w2 ⟨u, rfl, hbo, hb2⟩
    have Ho2 := Lib.hid (Ho1.out.below hb2)
    have Hb2 := Lib.hid (below_step Hb1.out Hb1.out.size hb2)
    obtain ⟨au, cu, rfl, _⟩ := hbo.slice
    rw [hlen] at hbo
    have Hbo := Lib.hid hbo; clear hbo hb2
    rw [hlen]
    go_wp2
    go_loopw [9, 11] (fun v i wr => ∃ k : Nat, k ≤ g.length ∧ i = .int .i64 k ∧ Own 3 wr w.heap.size v (idxTo bs k) ∧ OwnB 4 wr w1.heap.size (.slice au g.length cu) bs ∧ Below w.heap.size w wr) (fun _ i _ => g.length - (intOf i).toNat)
    case atStart => exact ⟨0, Nat.zero_le _, rfl, Ho2.out, Hbo.out, Hb2.out⟩
    case round =>
      obtain ⟨k, hk, rfl, hown, hbo, hbel⟩ := hrel
      have Hown := Lib.hid hown; clear hown
      have Hbel := Lib.hid hbel; clear hbel
      by_cases hlt : k < g.length
      · obtain ⟨gb, cb, e, hgb, hgw, _, hbc, _⟩ := hbo.row (by omega)
        simp only [Value.slice.injEq] at e
        obtain ⟨rfl, h9, rfl⟩ := e
        clear h9
        have hin := hbc k (by omega)
        have hgd : bs.getD k false = bs[k] := by simp [List.getD, List.getElem?_eq_getElem (show k < bs.length by omega)]
        have Hbo2 := Lib.hid hbo
        clear hbc hbo
        cases hbv : bs[k] with
        | true =>
          rw [hbv] at hin hgd
          have Hs := Lib.hid (idxTo_yes hgd)
          have hl := idxTo_len bs k
          have hB := Hbel.out.size
          clear hgd hbv
          generalize idxTo bs k = out at *
          go_wp2_with (at_builtin; refine wpList_push TIg rfl (.tmp 34) (.tmp 36) rfl w.heap.size _ out _ rfl Hown.out (by omega) rfl hB ?_; intro v8 w8 hown8 hg8)
          go_roundw
          case rel => exact ⟨k + 1, by omega, by go_num, by rw [Hs.out]; exact hown8, Hbo2.out.kept hg8 (Hbo2.out.apart Hown.out (by decide)), Hbel.out.grown hg8 hB (fun g e => (Hown.out.lt g e).1)⟩
          case measure => simp [intOf]; omega
        | false =>
          rw [hbv] at hin hgd
          have Hs := Lib.hid (idxTo_no hgd)
          clear hgd hbv
          go_wp2
          go_roundw
          case rel => exact ⟨k + 1, by omega, by go_num, by rw [Hs.out]; exact Hown.out, Hbo2.out, Hbel.out⟩
          case measure => simp [intOf]; omega
      · have hke : k = g.length := by omega
        subst hke
        go_wp2
        go_ret
        exact ⟨_, rfl, Hown.out, Hbel.out⟩

end Go.Proofs.Ytejpoeejhmgphaa
