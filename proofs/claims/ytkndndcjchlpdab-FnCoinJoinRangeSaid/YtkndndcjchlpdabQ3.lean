/- What spec's join of shards is, by a walk of its text; conditions: the lists are short. -/
import Derived.Test.YtkndndcjchlpdabU3
import Derived.Test.YtkndndcjchlpdabV3
import Derived.Test.YtkndndcjchlpdabY3
namespace Go.Proofs.Ytkndndcjchlpdab
open Go.RowKit

def eAt (need : Nat) (L : List Sh) (i : Nat) : Int := stAt need (eqs0 need (xsOf L) (vsOf L) need) need (i % need) (8 + i / need)
def allS (need : Nat) (L : List Sh) (c : Nat) : List Int := (List.range (c * need)).map (eAt need L)
theorem allS_len (need : Nat) (L : List Sh) (c : Nat) : (allS need L c).length = c * need := by simp [allS]
theorem eAt_col {need c i : Nat} (L : List Sh) (h : i < need) : eAt need L (c * need + i) = stAt need (eqs0 need (xsOf L) (vsOf L) need) need i (8 + c) := by
  unfold eAt
  rw [Nat.mul_comm c need, Nat.mul_add_mod, Nat.mod_eq_of_lt h, Nat.mul_add_div (by omega), Nat.div_eq_of_lt h, Nat.add_zero]
theorem allS_succ (need : Nat) (L : List Sh) (c : Nat) : allS need L (c + 1) = allS need L c ++ (List.range need).map fun i => stAt need (eqs0 need (xsOf L) (vsOf L) need) need i (8 + c) := by
  unfold allS
  rw [Nat.add_mul, Nat.one_mul, List.range_add, List.map_append, List.map_map]
  congr 1
  refine List.map_congr_left fun i hi => ?_
  exact eAt_col L (List.mem_range.1 hi)
theorem allS_take {need : Nat} {L : List Sh} {c size : Nat} (h : size ≤ c * need) : (allS need L c).take size = dataI size need L := by
  unfold allS dataI
  rw [← List.map_take, List.take_range, Nat.min_eq_left h]; rfl
theorem eAt_bd {need : Nat} {L : List Sh} {cols : Nat} (hok : shsB cols L = true) (hn : need ≤ L.length) (i : Nat) : 0 ≤ eAt need L i ∧ eAt need L i ≤ 250 := by
  refine stAt_bd (eqs0_bd fun k hk => ?_) need need _ _
  have := (shsB_at hok (show k < L.length by omega)).1.2.2
  unfold vsOf; rw [getS (by omega)]; exact this
theorem dataI_ok {size need : Nat} {L : List Sh} {cols : Nat} (hok : shsB cols L = true) (hn : need ≤ L.length) (hs : 1 ≤ size ∧ size ≤ 12) (hn8 : 1 ≤ need ∧ need ≤ 8) : dataB (dataI size need L) need = true := by
  unfold dataB
  simp only [Bool.and_eq_true, decide_eq_true_eq, List.all_eq_true, dataI_len]
  refine ⟨⟨fun y hy => ?_, hs⟩, by omega⟩
  unfold dataI at hy
  obtain ⟨i, _, rfl⟩ := List.mem_map.1 hy
  exact symB_yes (eAt_bd hok hn i)
/-- If the data has all shards, the padding that elimination finds is 0. -/
theorem pad_zero {size need : Nat} {L : List Sh} (h1 : 1 ≤ need) (h8 : need ≤ 8) (hn : need ≤ L.length) (hs : size ≤ 12) (hok : shsB ((size + need - 1) / need) L = true) (hm : L.all (matB (dataI size need L) need) = true) {i : Nat} (hi : size ≤ i) (hi2 : i < (size + need - 1) / need * need) : eAt need L i = 0 := by
  have hcn : colsN (dataI size need L) need = (size + need - 1) / need := by unfold colsN; rw [dataI_len]
  have hc : i / need < colsN (dataI size need L) need := by rw [hcn]; exact Nat.div_lt_of_lt_mul (by rw [Nat.mul_comm]; exact hi2)
  have hc12 := cols_le (d := dataI size need L) h1 (by rw [dataI_len]; exact hs)
  have hv : ∀ j, j < need → vsOf L j = shardV (dataI size need L) need (xsOf L j) := by
    intro j hj
    have := List.all_eq_true.1 hm _ (List.getElem_mem (show j < L.length by omega))
    unfold matB at this
    simp only [Bool.and_eq_true, decide_eq_true_eq, Int.toNat_natCast] at this
    unfold vsOf xsOf; rw [getS (by omega)]; exact this.2.symm
  have hb : ∀ k, k < need → ∀ y ∈ vsOf L k, 0 ≤ y ∧ y ≤ 250 := fun k hk => by
    have := (shsB_at hok (show k < L.length by omega)).1.2.2
    unfold vsOf; rw [getS (by omega)]; exact this
  have := solve_at h8 hb (fun i j hi hj => xs_nz hok i j (by omega) hj) (c := i / need) (by omega) (fun k => (dataI size need L).getD (i / need * need + k) 0) (fun j hj => by
    rw [hv j hj, shard_getD hc]; exact (val_sm _ need (i / need) (xsOf L j) need).symm) (i % need) (Nat.mod_lt _ h1)
  simp only [idx_div] at this
  rw [List.getD_eq_getElem?_getD, List.getElem?_eq_none (by rw [dataI_len]; exact hi)] at this
  exact this.eq (eAt_bd hok hn i) (by simp)

set_option maxRecDepth 8000 in
set_option maxHeartbeats 2000000 in
theorem spec_l3Join (size need : Nat) (L : List Sh) (v : Value) (fp : List Nat) (w : World) (hok : joinOk size need L = true) (hr : Rd w (.l (L.map shardD)) v fp) :
    Calls Try.prog 38 #[.int .i64 (size : Int), .int .i64 (need : Int), v] w fun e w' => ∃ u, e = .returned (.tuple #[u, .bool (joinB size need L)]) ∧ Own 3 w' w.heap.size u (joinD size need L) ∧ Below w.heap.size w w' := by
  obtain ⟨a, cap, rfl⟩ := hr.slice
  rw [List.length_map] at *
  obtain ⟨hS, hN, ⟨hlen, hL8⟩, hsh⟩ := joinOk_iff hok
  simp only [Int.toNat_natCast] at hsh
  have hlen' : need ≤ L.length := by omega
  have hcl : ∀ c, c < (size + need - 1) / need ↔ c * need < size := fun c => by
    have := cols_lt (d := dataI size need L) (need := need) (c := c) (by omega)
    unfold colsN at this; rwa [dataI_len] at this
  have hc12 : (size + need - 1) / need ≤ 12 := by
    have := cols_le (d := dataI size need L) (need := need) (by omega) (by rw [dataI_len]; omega)
    unfold colsN at this; rwa [dataI_len] at this
  have Hpad := Lib.hid (fun (hm : L.all (matB (dataI size need L) need) = true) i hi hi2 => pad_zero (size := size) (i := i) (by omega) (by omega) hlen' (by omega) hsh hm hi hi2)
  have Hdok := Lib.hid (dataI_ok hsh hlen' (size := size) (by omega) (by omega))
  have Hyes := Lib.hid (fun (h : L.all (matB (dataI size need L) (need : Int)) = true) => join_yes (size := (size : Int)) (need := (need : Int)) (L := L) hok (by simpa only [Int.toNat_natCast] using h))
  have Hno := Lib.hid (fun (h : L.all (matB (dataI size need L) (need : Int)) = false) => join_bad (size := (size : Int)) (need := (need : Int)) (L := L) (by simpa only [Int.toNat_natCast] using h))
  have Hr := Lib.hid hr; clear hr hok
  have hcs : size ≤ (size + need - 1) / need * need := by
    rcases Nat.lt_or_ge ((size + need - 1) / need * need) size with h | h
    · exact absurd ((hcl _).2 h) (Nat.lt_irrefl _)
    · exact h
  have hc1 : 1 ≤ (size + need - 1) / need := (hcl 0).2 (by omega)
  generalize (size + need - 1) / need = cols at *
  have Hsh := Lib.hid hsh; clear hsh
  have Hv0 := Lib.hid (show Own 3 (w.alloc (.cells #[] 3)) w.heap.size (.slice (some ⟨w.heap.size, 0, none⟩) 0 0) (allS need L 0) by unfold allS; simp; exact ownE _ w)
  have Hb0 := Lib.hid ((Below.refl w.heap.size w).alloc (Nat.le_refl _) (.cells #[] 3))
  go_enter Try.func38, Try.ntmps38
  go_wp2_with fail
  go_loopw [8, 9] (fun v i wi => ∃ c : Nat, c ≤ cols ∧ i = .int .i64 c ∧ Own 3 wi w.heap.size v (allS need L c) ∧ Below w.heap.size w wi) (fun _ i _ => cols - (intOf i).toNat)
  case atStart => exact ⟨0, by omega, rfl, Hv0.out, Hb0.out⟩
  case round =>
    clear Hv0 Hb0
    obtain ⟨c, hc, rfl, hown, hbel⟩ := hrel
    have hB := hbel.size
    have Hbel := Lib.hid hbel; clear hbel
    have hm96 := Nat.mul_le_mul (show c ≤ 12 by omega) (show need ≤ 8 by omega)
    have hcc := hcl c
    obtain ⟨m, hm⟩ : ∃ m, c * need = m := ⟨_, rfl⟩
    have hcn : (c : Int) * (need : Int) = (m : Int) := by rw [← hm]; exact (Int.natCast_mul _ _).symm
    rw [hm] at hm96 hcc
    by_cases hlt : c < cols
    · have hms : m < size := hcc.1 hlt
      have hal := allS_len need L c
      have Hcall := Lib.hid (spec_l3Solve need cols c L _ fp wr (by omega) (by omega) hlen' (by omega) hlt hc12 Hsh.out (Hr.out.under Hbel.out))
      have Hex := Lib.hid (allS_succ need L c)
      obtain ⟨zs, hzs⟩ : ∃ zs, ((List.range need).map fun i => stAt need (eqs0 need (xsOf L) (vsOf L) need) need i (8 + c)) = zs := ⟨_, rfl⟩
      have hzl : zs.length = need := by rw [← hzs]; simp
      rw [hzs] at Hcall Hex
      clear hzs
      have hal' : (allS need L c).length + zs.length ≤ 1099511627776 := by omega
      clear hal hm
      generalize allS need L c = xs at *
      have Hzl := Lib.hid hzl.symm
      go_wp2_with fail
      refine Hcall.out.mono ?_
      rintro e w2 ⟨u, rfl, hownu, hb2⟩
      obtain ⟨gu, cu, rfl, hgu, hgu', _, hcu, _⟩ := hownu.row (by omega)
      have hown2 := hown.below hb2
      have hz : ∀ j (h : j < zs.length), w2.cell? ((⟨gu, 0, none⟩ : Addr).add j) = some (.int .i64 zs[j]) := fun j h => by rw [addr_add]; exact hcu j h
      have Hz := Lib.hid hz; clear hz hcu
      have hB2 : w.heap.size ≤ w2.heap.size := Nat.le_trans hB hb2.size
      have Hb2 := Lib.hid (below_step Hbel.out hB hb2)
      clear hb2
      go_wp2_with (at_builtin; refine wpList_app TI3 rfl (.tmp 21) (.tmp 25) rfl w.heap.size _ xs zs ⟨gu, 0, none⟩ _ cu Hzl.out rfl hown2 rfl Hz.out hal' hB2 ?_; intro v3 w3 hown3 hg3)
      go_roundw
      case rel => exact ⟨c + 1, by omega, by go_num, by rw [Hex.out]; exact hown3, Hb2.out.grown hg3 hB2 (fun g e => (hown.lt g e).1)⟩
      case measure => simp [intOf]; omega
    · have hce : c = cols := by omega
      subst hce
      have hml : (allS need L c).length = m := by rw [allS_len, hm]
      have hDl := dataI_len size need L
      have htk := allS_take (need := need) (L := L) (c := c) (size := size) (by omega)
      have hgt : ∀ j (h : j < (allS need L c).length), (allS need L c)[j] = eAt need L j := fun j h => by simp [allS]
      obtain ⟨ga, ca, rfl, hga, hga', hmca, hcells, _⟩ := hown.row (by omega)
      rw [hml] at hmca ⊢
      have hcel : ∀ j, j < m → wr.cell? ⟨ga, j, none⟩ = some (.int .i64 (eAt need L j)) := fun j hj => by
        have := hcells j (by omega)
        rwa [hgt] at this
      have hDg : ∀ j (h : j < (dataI size need L).length), (dataI size need L)[j] = eAt need L j := fun j h => by simp only [dataI, eAt, List.getElem_map, List.getElem_range]
      have hz : ∀ j (h : j < (dataI size need L).length), (wr.alloc (.cells #[] 3)).cell? ((⟨ga, 0, none⟩ : Addr).add j) = some (.int .i64 (dataI size need L)[j]) := fun j h => by
        rw [addr_add, hDg]
        exact (World.grownBy_alloc _ _ none).cell (hcel j (by omega)) (by simp)
      have Hpz := Lib.hid (fun (hm' : L.all (matB (dataI size need L) need) = true) i hi hi2 => Hpad.out hm' i hi hi2)
      clear Hpad hcells hgt hDg htk hml hown
      rw [hm] at Hpz
      have Hz := Lib.hid hz; clear hz
      have Hcel := Lib.hid hcel; clear hcel
      generalize hD : dataI size need L = D at *
      have HD := Lib.hid hD; clear hD
      have hg0 := (Hr.out)
      obtain ⟨g, off, rfl, hg, hat⟩ := shards_at Hr.out (by omega)
      have Hat := Lib.hid hat; clear hat hg0
      have hsm : size ≤ m := by omega
      have hsca : size ≤ ca := by omega
      have hown0 := ownE 3 wr
      have HDl := Lib.hid hDl.symm
      have hsl : ([] : List Int).length + D.length ≤ 1099511627776 := by rw [hDl]; simp; omega
      have hbw := (Below.refl wr.heap.size wr).alloc (Nat.le_refl _) (.cells #[] 3)
      have Hbw := Lib.hid hbw; clear hbw
      obtain ⟨W1, hW1⟩ : ∃ W1, W1 = wr := ⟨_, rfl⟩
      subst hW1
      go_wp2_with (at_builtin; refine wpList_app TI3 rfl (.tmp 27) (.tmp 30) rfl W1.heap.size _ [] D ⟨ga, 0, none⟩ _ ca HDl.out rfl hown0 rfl Hz.out hsl (by simp) ?_; intro v3 w3 hown3 hg3; rw [List.nil_append] at hown3)
      obtain ⟨a3, c3, rfl, hi3, _⟩ := hown3.ints
      have Hb3 := Lib.hid (Hbw.out.grown hg3 (by simp) (fun g e => by cases e; exact Nat.le_refl _))
      clear hg3 Hz hown0
      have Hown3 := Lib.hid hown3; clear hown3
      have Hi3w := Lib.hid hi3; clear hi3
      have hg1 : g < W1.heap.size := Nat.lt_of_lt_of_le hg hB
      rw [hDl]
      go_wp2_with fail
      go_loop [11] (fun i => ∃ i' : Nat, size ≤ i' ∧ i' ≤ m ∧ i = .int .i64 i') (fun i => m - (intOf i).toNat)
      case atStart => exact ⟨size, by omega, by omega, rfl⟩
      case round =>
        obtain ⟨i, hi1, hi2, rfl⟩ := hrel
        by_cases him : i < m
        · have d0 := (Hb3.out.cell (p := ⟨ga, i, none⟩) hga').trans (Hcel.out i him)
          by_cases hz : eAt need L i = 0
          · rw [hz] at d0
            go_wp2
            go_round
            case rel => exact ⟨i + 1, by omega, by omega, by go_num⟩
            case measure => simp [intOf]; omega
          · have hall : L.all (matB D need) = false := by
              cases h : L.all (matB D need) with
              | false => rfl
              | true => exact absurd (Hpz.out h i hi1 him) hz
            have Hf := Lib.hid (Hno.out hall)
            have hq : (eAt need L i != 0) = true := by simpa using hz
            clear hall hz
            generalize eAt need L i = z at *
            have hs3 := Hb3.out.size
            go_wp2
            refine bodyPost_ret (v := .tuple #[.slice (some ⟨w3.heap.size, 0, none⟩) 0 0, .bool false]) (by simp [results, Try.f38, go_sem]) rfl ?_
            rw [Hf.out.1, Hf.out.2]
            exact ⟨_, rfl, (ownE 3 w3).mono (by omega), (below_step Hbel.out hB Hb3.out).alloc (by omega) _⟩
        · have hie : decide ((i : Int) < (m : Int)) = false := decide_eq_false (by omega)
          have hie2 : decide (i < m) = false := decide_eq_false him
          have hDok := dataB_iff Hdok.out
          have hsh3 := fun (W : World) (x : Nat) (hx : x ≤ 8) h => spec_l3Shard a3 c3 D need x W hDok.1 (by omega) (by omega) (by omega) hx h
          rw [hDl] at hsh3
          have Hsh3 := Lib.hid hsh3; clear hsh3 hDok
          go_wp2_with fail
          go_loopw [12] (fun i wr => ∃ k : Nat, k ≤ L.length ∧ i = .int .i64 k ∧ Upto (matAt D need L) k ∧ Below w3.heap.size w3 wr) (fun i _ => L.length - (intOf i).toNat)
          case atStart => exact ⟨0, by omega, rfl, upto_zero _, Below.refl _ _⟩
          case round =>
            obtain ⟨k, hk, rfl, hup, hbi⟩ := hrel
            have Hbi := Lib.hid hbi; clear hbi
            have Hup := Lib.hid hup; clear hup
            have hB3 := Hbi.out.size
            have hs3 := Hb3.out.size
            by_cases hlt : k < L.length
            · obtain ⟨av, cv, C0, C1, I1⟩ := Hat.out k hlt
              obtain ⟨⟨hx1, hx8⟩, hvl, _⟩ := (shsB_at Hsh.out hlt).1
              have Hvl := Lib.hid hvl; clear hvl
              have hw3 : ∀ j, w3.cell? ⟨g, j, none⟩ = w.cell? ⟨g, j, none⟩ := fun j => (Hb3.out.cell (p := ⟨g, j, none⟩) hg1).trans (Hbel.out.cell (p := ⟨g, j, none⟩) hg)
              have hg3 : g < w3.heap.size := by omega
              have d0 := (Hbi.out.cell (p := ⟨g, off + k * 2, none⟩) hg3).trans ((hw3 _).trans C0)
              have d1 := (Hbi.out.cell (p := ⟨g, off + k * 2 + 1, none⟩) hg3).trans ((hw3 _).trans C1)
              have Hiv := Lib.hid (((I1.below Hbel.out).below Hb3.out).below Hbi.out)
              have Hi3 := Lib.hid (Hi3w.out.below Hbi.out)
              have Hmat := Lib.hid (show matAt D need L k = decide (shardV D need L[k].1 = L[k].2) by unfold matAt; rw [getS hlt]; exact matB_yes Hdok.out ⟨hx1, hx8⟩)
              have Hno2 := Lib.hid (fun h => mat_no (d := D) (need := need) hlt h)
              have Hst := Lib.hid (show matB D need L[k] = matAt D need L k by unfold matAt; rw [getS hlt])
              clear C0 C1 I1 hw3
              obtain ⟨x, hx⟩ : ∃ x : Nat, L[k].1 = (x : Int) := ⟨L[k].1.toNat, by omega⟩
              rw [Hst.out] at Hno2
              rw [hx] at d0 Hmat hx8
              clear hx hx1 Hst
              have hx8' : x ≤ 8 := by omega
              generalize L[k].2 = vs at *
              have Hsh4 := Lib.hid (fun W h => Hsh3.out W x hx8' h)
              have Hsvl := Lib.hid (show (shardV D need (x : Int)).length ≤ 1099511627776 by rw [shardV_len]; exact Nat.le_trans (cols_le (d := D) (need := need) (by omega) (by omega)) (by omega))
              cases hdec : decide (shardV D need (x : Int) = vs) with
              | true =>
                have Hs := Lib.hid (upto_step Hup.out (Hmat.out.trans hdec))
                go_wp2_with fail
                refine wp_region_held_drew (S := fun w' => w'.cell? ⟨g, off + k * 2, none⟩ = some (.int .i64 (x : Int)) ∧ w'.cell? ⟨g, off + k * 2 + 1, none⟩ = some (.slice av vs.length cv)) (by kernel_rfl) ⟨d0, d1⟩ (fun hH => ?_)
                refine takeH 0 (v := ?vz0) rfl (by kernel_rfl) (by kernel_rfl) (by kernel_rfl) (fun _ _ _ h => h) hH rfl ?yz0 ?rz0
                case yz0 => intro W hSw; obtain ⟨h1, h2⟩ := hSw; go_simp; try with_reducible rfl
                try simp only [Act.put, List.setIfInBounds_toArray, List.set_cons_zero, List.set_cons_succ]
                refine takeH 1 (v := ?vz1) rfl (by kernel_rfl) (by kernel_rfl) (by kernel_rfl) (fun _ _ _ h => h) hH rfl ?yz1 ?rz1
                case yz1 => intro W hSw; obtain ⟨h1, h2⟩ := hSw; go_simp; try with_reducible rfl
                try simp only [Act.put, List.setIfInBounds_toArray, List.set_cons_zero, List.set_cons_succ]
                refine takeH 2 (v := ?vz2) rfl (by kernel_rfl) (by kernel_rfl) (by kernel_rfl) (fun _ _ _ h => h) hH rfl ?yz2 ?rz2
                case yz2 => intro W hSw; obtain ⟨h1, h2⟩ := hSw; go_simp; try with_reducible rfl
                try simp only [Act.put, List.setIfInBounds_toArray, List.set_cons_zero, List.set_cons_succ]
                refine takeH 3 (v := ?vz3) rfl (by kernel_rfl) (by kernel_rfl) (by kernel_rfl) (fun _ _ _ h => h) hH rfl ?yz3 ?rz3
                case yz3 => intro W hSw; obtain ⟨h1, h2⟩ := hSw; go_simp; try with_reducible rfl
                try simp only [Act.put, List.setIfInBounds_toArray, List.set_cons_zero, List.set_cons_succ]
                refine takeH 4 (v := ?vz4) rfl (by kernel_rfl) (by kernel_rfl) (by kernel_rfl) (fun _ _ _ h => h) hH rfl ?yz4 ?rz4
                case yz4 => intro W hSw; obtain ⟨h1, h2⟩ := hSw; go_simp; try with_reducible rfl
                try simp only [Act.put, List.setIfInBounds_toArray, List.set_cons_zero, List.set_cons_succ]
                refine takeH 5 (v := ?vz5) rfl (by kernel_rfl) (by kernel_rfl) (by kernel_rfl) (fun _ _ _ h => h) hH rfl ?yz5 ?rz5
                case yz5 => intro W hSw; obtain ⟨h1, h2⟩ := hSw; go_simp; try with_reducible rfl
                try simp only [Act.put, List.setIfInBounds_toArray, List.set_cons_zero, List.set_cons_succ]
                refine takeH 6 (v := ?vz6) rfl (by kernel_rfl) (by kernel_rfl) (by kernel_rfl) (fun _ _ _ h => h) hH rfl ?yz6 ?rz6
                case yz6 => intro W hSw; obtain ⟨h1, h2⟩ := hSw; go_simp; try with_reducible rfl
                try simp only [Act.put, List.setIfInBounds_toArray, List.set_cons_zero, List.set_cons_succ]
                refine takeH 8 (v := ?vz8) rfl (by kernel_rfl) (by kernel_rfl) (by kernel_rfl) (fun _ _ _ h => h) hH rfl ?yz8 ?rz8
                case yz8 => intro W hSw; obtain ⟨h1, h2⟩ := hSw; go_simp; try with_reducible rfl
                try simp only [Act.put, List.setIfInBounds_toArray, List.set_cons_zero, List.set_cons_succ]
                refine takeH 9 (v := ?vz9) rfl (by kernel_rfl) (by kernel_rfl) (by kernel_rfl) (fun _ _ _ h => h) hH rfl ?yz9 ?rz9
                case yz9 => intro W hSw; obtain ⟨h1, h2⟩ := hSw; go_simp; try with_reducible rfl
                try simp only [Act.put, List.setIfInBounds_toArray, List.set_cons_zero, List.set_cons_succ]
                refine takeH 10 (v := ?vz10) rfl (by kernel_rfl) (by kernel_rfl) (by kernel_rfl) (fun _ _ _ h => h) hH rfl ?yz10 ?rz10
                case yz10 => intro W hSw; obtain ⟨h1, h2⟩ := hSw; go_simp; try with_reducible rfl
                try simp only [Act.put, List.setIfInBounds_toArray, List.set_cons_zero, List.set_cons_succ]
                refine takeH 11 (v := ?vz11) rfl (by kernel_rfl) (by kernel_rfl) (by kernel_rfl) (fun _ _ _ h => h) hH rfl ?yz11 ?rz11
                case yz11 => intro W hSw; obtain ⟨h1, h2⟩ := hSw; go_simp; try with_reducible rfl
                try simp only [Act.put, List.setIfInBounds_toArray, List.set_cons_zero, List.set_cons_succ]
                refine callH 7 rfl (by kernel_rfl) rfl (fun K hK => ?_)
                go_simp
                refine (Hsh4.out wr.drew Hi3.out).mono ?_
                rintro e w6 ⟨v6, rfl, hown6, hb6⟩
                obtain ⟨a6, c6, rfl, hi6, _⟩ := hown6.ints
                dsimp only
                have hwd : wr.drew.heap.size = wr.heap.size := rfl
                refine hK.out _ _ ⟨(hb6.cell (p := ⟨g, off + k * 2, none⟩) (by simp only; omega)).trans hH.1, (hb6.cell (p := ⟨g, off + k * 2 + 1, none⟩) (by simp only; omega)).trans hH.2⟩ (fun hH => ?_)
                clear hK K
                try simp only [Act.put, List.setIfInBounds_toArray, List.set_cons_zero, List.set_cons_succ]
                have Hb6 := Lib.hid (below_step Hbi.out.drew hB3 hb6)
                have hs6 := hb6.size
                have Hv6 := Lib.hid (IntsAt.below (w := wr.drew) Hiv.out hb6)
                have Hi6 := Lib.hid hi6; clear hi6 hb6 hown6
                have hsame := spec_l3Same (x : Int) a6 av c6 cv (shardV D need x) vs w6 Hsvl.out (by have := Hvl.out; omega) Hi6.out Hv6.out
                rw [hdec] at hsame
                refine callH 12 rfl (by kernel_rfl) rfl (fun K hK => ?_)
                go_simp
                refine hsame.mono ?_
                rintro e w7 ⟨rfl, hb7⟩
                dsimp only
                refine hK.out _ _ ⟨(hb7.cell (p := ⟨g, off + k * 2, none⟩) (by simp only; omega)).trans hH.1, (hb7.cell (p := ⟨g, off + k * 2 + 1, none⟩) (by simp only; omega)).trans hH.2⟩ (fun hH => ?_)
                clear hK K
                try simp only [Act.put, List.setIfInBounds_toArray, List.set_cons_zero, List.set_cons_succ]
                refine takeH 13 (v := ?vz13) rfl (by kernel_rfl) (by kernel_rfl) (by kernel_rfl) (fun _ _ _ h => h) hH rfl ?yz13 ?rz13
                case yz13 => intro W hSw; obtain ⟨h1, h2⟩ := hSw; go_simp; try with_reducible rfl
                try simp only [Act.put, List.setIfInBounds_toArray, List.set_cons_zero, List.set_cons_succ]
                refine wpAnyH_done (by kernel_rfl) ?_ _
                try simp only [Act.put]
                have Hb7 := Lib.hid (below_step Hb6.out Hb6.out.size hb7)
                clear hH hb7 d0 d1 hsame hdec
                go_wp2
                go_roundw
                case rel => exact ⟨k + 1, by omega, by go_num, Hs.out, Hb7.out⟩
                case measure => simp [intOf]; omega
              | false =>
                have Hf := Lib.hid (Hno.out (Hno2.out (Hmat.out.trans hdec)))
                go_wp2_with fail
                refine wp_region_held_drew (S := fun w' => w'.cell? ⟨g, off + k * 2, none⟩ = some (.int .i64 (x : Int)) ∧ w'.cell? ⟨g, off + k * 2 + 1, none⟩ = some (.slice av vs.length cv)) (by kernel_rfl) ⟨d0, d1⟩ (fun hH => ?_)
                refine takeH 0 (v := ?vq0) rfl (by kernel_rfl) (by kernel_rfl) (by kernel_rfl) (fun _ _ _ h => h) hH rfl ?yq0 ?rq0
                case yq0 => intro W hSw; obtain ⟨h1, h2⟩ := hSw; go_simp; try with_reducible rfl
                try simp only [Act.put, List.setIfInBounds_toArray, List.set_cons_zero, List.set_cons_succ]
                refine takeH 1 (v := ?vq1) rfl (by kernel_rfl) (by kernel_rfl) (by kernel_rfl) (fun _ _ _ h => h) hH rfl ?yq1 ?rq1
                case yq1 => intro W hSw; obtain ⟨h1, h2⟩ := hSw; go_simp; try with_reducible rfl
                try simp only [Act.put, List.setIfInBounds_toArray, List.set_cons_zero, List.set_cons_succ]
                refine takeH 2 (v := ?vq2) rfl (by kernel_rfl) (by kernel_rfl) (by kernel_rfl) (fun _ _ _ h => h) hH rfl ?yq2 ?rq2
                case yq2 => intro W hSw; obtain ⟨h1, h2⟩ := hSw; go_simp; try with_reducible rfl
                try simp only [Act.put, List.setIfInBounds_toArray, List.set_cons_zero, List.set_cons_succ]
                refine takeH 3 (v := ?vq3) rfl (by kernel_rfl) (by kernel_rfl) (by kernel_rfl) (fun _ _ _ h => h) hH rfl ?yq3 ?rq3
                case yq3 => intro W hSw; obtain ⟨h1, h2⟩ := hSw; go_simp; try with_reducible rfl
                try simp only [Act.put, List.setIfInBounds_toArray, List.set_cons_zero, List.set_cons_succ]
                refine takeH 4 (v := ?vq4) rfl (by kernel_rfl) (by kernel_rfl) (by kernel_rfl) (fun _ _ _ h => h) hH rfl ?yq4 ?rq4
                case yq4 => intro W hSw; obtain ⟨h1, h2⟩ := hSw; go_simp; try with_reducible rfl
                try simp only [Act.put, List.setIfInBounds_toArray, List.set_cons_zero, List.set_cons_succ]
                refine takeH 5 (v := ?vq5) rfl (by kernel_rfl) (by kernel_rfl) (by kernel_rfl) (fun _ _ _ h => h) hH rfl ?yq5 ?rq5
                case yq5 => intro W hSw; obtain ⟨h1, h2⟩ := hSw; go_simp; try with_reducible rfl
                try simp only [Act.put, List.setIfInBounds_toArray, List.set_cons_zero, List.set_cons_succ]
                refine takeH 6 (v := ?vq6) rfl (by kernel_rfl) (by kernel_rfl) (by kernel_rfl) (fun _ _ _ h => h) hH rfl ?yq6 ?rq6
                case yq6 => intro W hSw; obtain ⟨h1, h2⟩ := hSw; go_simp; try with_reducible rfl
                try simp only [Act.put, List.setIfInBounds_toArray, List.set_cons_zero, List.set_cons_succ]
                refine takeH 8 (v := ?vq8) rfl (by kernel_rfl) (by kernel_rfl) (by kernel_rfl) (fun _ _ _ h => h) hH rfl ?yq8 ?rq8
                case yq8 => intro W hSw; obtain ⟨h1, h2⟩ := hSw; go_simp; try with_reducible rfl
                try simp only [Act.put, List.setIfInBounds_toArray, List.set_cons_zero, List.set_cons_succ]
                refine takeH 9 (v := ?vq9) rfl (by kernel_rfl) (by kernel_rfl) (by kernel_rfl) (fun _ _ _ h => h) hH rfl ?yq9 ?rq9
                case yq9 => intro W hSw; obtain ⟨h1, h2⟩ := hSw; go_simp; try with_reducible rfl
                try simp only [Act.put, List.setIfInBounds_toArray, List.set_cons_zero, List.set_cons_succ]
                refine takeH 10 (v := ?vq10) rfl (by kernel_rfl) (by kernel_rfl) (by kernel_rfl) (fun _ _ _ h => h) hH rfl ?yq10 ?rq10
                case yq10 => intro W hSw; obtain ⟨h1, h2⟩ := hSw; go_simp; try with_reducible rfl
                try simp only [Act.put, List.setIfInBounds_toArray, List.set_cons_zero, List.set_cons_succ]
                refine takeH 11 (v := ?vq11) rfl (by kernel_rfl) (by kernel_rfl) (by kernel_rfl) (fun _ _ _ h => h) hH rfl ?yq11 ?rq11
                case yq11 => intro W hSw; obtain ⟨h1, h2⟩ := hSw; go_simp; try with_reducible rfl
                try simp only [Act.put, List.setIfInBounds_toArray, List.set_cons_zero, List.set_cons_succ]
                refine callH 7 rfl (by kernel_rfl) rfl (fun K hK => ?_)
                go_simp
                refine (Hsh4.out wr.drew Hi3.out).mono ?_
                rintro e w6 ⟨v6, rfl, hown6, hb6⟩
                obtain ⟨a6, c6, rfl, hi6, _⟩ := hown6.ints
                dsimp only
                have hwd : wr.drew.heap.size = wr.heap.size := rfl
                refine hK.out _ _ ⟨(hb6.cell (p := ⟨g, off + k * 2, none⟩) (by simp only; omega)).trans hH.1, (hb6.cell (p := ⟨g, off + k * 2 + 1, none⟩) (by simp only; omega)).trans hH.2⟩ (fun hH => ?_)
                clear hK K
                try simp only [Act.put, List.setIfInBounds_toArray, List.set_cons_zero, List.set_cons_succ]
                have Hb6 := Lib.hid (below_step Hbi.out.drew hB3 hb6)
                have hs6 := hb6.size
                have Hv6 := Lib.hid (IntsAt.below (w := wr.drew) Hiv.out hb6)
                have Hi6 := Lib.hid hi6; clear hi6 hb6 hown6
                have hsame := spec_l3Same (x : Int) a6 av c6 cv (shardV D need x) vs w6 Hsvl.out (by have := Hvl.out; omega) Hi6.out Hv6.out
                rw [hdec] at hsame
                refine callH 12 rfl (by kernel_rfl) rfl (fun K hK => ?_)
                go_simp
                refine hsame.mono ?_
                rintro e w7 ⟨rfl, hb7⟩
                dsimp only
                refine hK.out _ _ ⟨(hb7.cell (p := ⟨g, off + k * 2, none⟩) (by simp only; omega)).trans hH.1, (hb7.cell (p := ⟨g, off + k * 2 + 1, none⟩) (by simp only; omega)).trans hH.2⟩ (fun hH => ?_)
                clear hK K
                try simp only [Act.put, List.setIfInBounds_toArray, List.set_cons_zero, List.set_cons_succ]
                refine takeH 13 (v := ?vq13) rfl (by kernel_rfl) (by kernel_rfl) (by kernel_rfl) (fun _ _ _ h => h) hH rfl ?yq13 ?rq13
                case yq13 => intro W hSw; obtain ⟨h1, h2⟩ := hSw; go_simp; try with_reducible rfl
                try simp only [Act.put, List.setIfInBounds_toArray, List.set_cons_zero, List.set_cons_succ]
                refine wpAnyH_done (by kernel_rfl) ?_ _
                try simp only [Act.put]
                have Hb7 := Lib.hid (below_step Hb6.out Hb6.out.size hb7)
                clear hH hb7 d0 d1 hsame hdec
                have hs7 := Hb7.out.size
                go_wp2
                refine bodyPost_ret (v := .tuple #[.slice (some ⟨w7.heap.size, 0, none⟩) 0 0, .bool false]) (by simp [results, Try.f38, go_sem]) rfl ?_
                rw [Hf.out.1, Hf.out.2]
                exact ⟨_, rfl, (ownE 3 w7).mono (by omega), (below_step (below_step Hbel.out hB Hb3.out) (by omega) Hb7.out).alloc (by omega) _⟩
            · have Hf := Lib.hid (Hyes.out (mat_all Hup.out (by omega)))
              have Hown2 := Lib.hid (Hown3.out.below Hbi.out)
              go_wp2
              refine bodyPost_ret (v := .tuple #[.slice a3 size c3, .bool true]) (by simp [results, Try.f38, go_sem]) rfl ?_
              rw [Hf.out.1, Hf.out.2]
              exact ⟨_, rfl, by have := Hown2.out.mono (show w.heap.size ≤ W1.heap.size by omega); rw [hDl] at this; simp only [Int.toNat_natCast]; rw [HD.out]; exact this, below_step (below_step Hbel.out hB Hb3.out) (by omega) Hbi.out⟩

