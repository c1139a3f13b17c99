/- The draw of shards, some of them spoilt: what is drawn reads as a list of shards; by a walk of its text; condition: at most 10^4 picks before. -/
import Derived.Test.YtejpoeejhmgphacRows
import Derived.Test.YtejpoeejhmgphacBn
import Derived.Test.YtejpoeejhmgphacD3
import Derived.Test.YtejpoeejhmgphacL3
import Derived.Test.YtejpoeejhmgphacW3
import Derived.Test.YtejpoeejhmgphacSched
namespace Go.Proofs.Ytejpoeejhmgphac
open Go.RowKit

/-- What is drawn. -/
def ShPost (w : World) (R : Nat) : Ending → World → Prop := fun e w' => ∃ (size need : Int) (v : Value) (L : List (Int × List Int)) (fp : List Nat), e = .returned (.tuple #[.int .i64 size, .int .i64 need, v]) ∧ Rd w' (.l (L.map shardD)) v fp ∧ L.length ≤ 8 ∧ (∀ s ∈ L, s.2.length ≤ 20) ∧
  (-100 ≤ size ∧ size ≤ 100) ∧ (-100 ≤ need ∧ need ≤ 100) ∧ w.grownBy w' (some R)
theorem shard_cells {w : World} {L : List (Int × List Int)} {a : Option Addr} {n cap : Nat} {fp : List Nat} (h : Rd w (.l (L.map shardD)) (.slice a n cap) fp) {k : Nat} (hk : k < L.length) {B : Nat} {blk : Option Nat} (hf : ∀ r ∈ fp, B ≤ r ∧ blk ≠ some r) :
    ∃ g off av cv, a = some ⟨g, off, none⟩ ∧ g < w.heap.size ∧ g ∈ fp ∧ w.cell? ⟨g, off + k * 2, none⟩ = some (.int .i64 L[k].1) ∧ w.cell? ⟨g, off + k * 2 + 1, none⟩ = some (.slice av L[k].2.length cv) ∧ IntsAt w av L[k].2 ∧ SrcAt w av cv L[k].2 ∧ CellsRd w B blk [.int .i64 L[k].1, .slice av L[k].2.length cv] (shardD L[k]) := by
  obtain ⟨g, off, rfl, hg, hgf, _, _, hc⟩ := Rd.at h (by simp; omega) (sz := 2) (by intro e he; simp at he; obtain ⟨x, y, _, rfl⟩ := he; rfl)
  have hk' : k < (L.map shardD).length := by simpa using hk
  have he : (L.map shardD)[k] = shardD L[k] := by simp
  obtain ⟨c0, f0, h0, r0, s0⟩ := hc k 0 hk' (by rw [he]; simp [shardD])
  obtain ⟨c1, f1, h1, r1, s1⟩ := hc k 1 hk' (by rw [he]; simp [shardD])
  have r0' : Rd w (.i L[k].1) c0 f0 := by simpa [shardD] using r0
  have r1' : Rd w (intsD L[k].2) c1 f1 := by simpa [shardD] using r1
  obtain ⟨rfl, rfl⟩ := r0'.int
  obtain ⟨av, cv, rfl, hi, hs⟩ := rd_ls (f := .l L[k].2) (show Rd w (Fd.l L[k].2).dt c1 f1 from r1') rfl
  refine ⟨g, off, av, cv, rfl, hg, hgf, by simpa using h0, h1, hi, hs, fun j hj => ?_⟩
  match j, hj with
  | 0, _ => exact ⟨_, [], rfl, .i _, by simp⟩
  | 1, _ => exact ⟨_, f1, rfl, r1', fun r hr => hf r (s1 r hr)⟩

theorem srcAt_under {w w' : World} {a : Option Addr} {c : Nat} {xs : List Int} (h : SrcAt w a c xs) (hi : IntsAt w a xs) (hb : Below w.heap.size w w') : SrcAt w' a c xs := by
  rcases h with h | ⟨ad, rfl, hc⟩
  · exact .inl h
  · refine .inr ⟨ad, rfl, fun j hj => ?_⟩
    obtain ⟨b, off, e, hbb, _⟩ := hi.cell (by omega)
    cases e
    have := hc j hj
    rw [addr_add'] at this ⊢
    exact (hb.cell (p := ⟨b, off + j, none⟩) hbb).trans this
theorem shards_cap {w : World} {L : List (Int × List Int)} {a : Option Addr} {n cap : Nat} {fp : List Nat} (h : Rd w (.l (L.map shardD)) (.slice a n cap) fp) (hne : 0 < L.length) : n ≤ cap := by
  obtain ⟨_, _, _, _, _, _, h', _⟩ := Rd.at h (by simpa using hne) (sz := 2) (by intro e he; simp at he; obtain ⟨x, y, _, rfl⟩ := he; rfl)
  exact h'

theorem TShs : (Try.prog.info? 30).map (fun i => (i.zero, i.size, i.bytes)) = some (some (.agg #[.int .i64 0, .slice none 0 0]), 2, 32) := by kernel_rfl
set_option maxRecDepth 8000 in
set_option maxHeartbeats 4000000 in
theorem drawShards (R p : Nat) (w : World) (hp : p ≤ 10000) (hr : Rdr w R p) (hR : R < w.heap.size) :
    Calls Try.prog 9 #[.pointer (some ⟨R, 0, none⟩)] w (ShPost w R) := by
  have HD := Lib.hid (drawData R p w (by omega) hr hR)
  clear hr
  go_enter Try.func9, Try.ntmps9
  go_wp2_with fail
  refine HD.out.mono ?_
  rintro e w1 ⟨vd, xs, p1, rfl, ho1, hxl, hsy, hr1, hp1, hg1⟩
  obtain ⟨ad, cd, rfl, _, _⟩ := ho1.ints
  have Ho1 := Lib.hid ho1
  have Hr1 := Lib.hid hr1
  have Hg1 := Lib.hid hg1
  have hs1 := hg1.size
  clear ho1 hr1 hg1 hsy
  go_wp2_with fail
  refine (pick_any R 5 p1 w1 (by omega) Hr1.out (by omega)).mono ?_
  rintro e w2 ⟨n0, rfl, hn0, hn1, hr2, hg2⟩
  have Hr2 := Lib.hid hr2
  have Hg2 := Lib.hid (grownBy_trans Hg1.out hg2)
  have Ho2 := Lib.hid (Ho1.out.kept hg2 (.inr (fun e => by have := (Ho1.out.lt R e).1; omega)))
  have hs2 := hg2.size
  clear hr2 hg2
  have HM := Lib.hid (spec_ShardMakeO ad cd xs (1 + n0) 8 w2 (by omega) (IntsAt_own Ho2.out))
  go_wp2_with fail
  refine HM.out.mono ?_
  rintro e w3 ⟨va, rfl, hbA, hb3⟩
  have hAl := makeZ_len (d := xs) (need := 1 + n0) (many := 8)
  have hAi := makeZ_in (d := xs) (need := 1 + n0) (many := 8)
  obtain ⟨A, hA⟩ : ∃ A, makeZ xs (1 + n0) 8 = A := ⟨_, rfl⟩
  rw [hA] at hAl hAi hbA
  clear hA HM
  obtain ⟨aa, ca, rfl, _⟩ := hbA.slice
  rw [List.length_map] at hbA ⊢
  have hs3 := hb3.size
  have hRlt : R < w2.heap.size := by omega
  obtain ⟨Nf, hNf⟩ : ∃ Nf : Nat → Prop, Nf = fun r => w2.heap.size ≤ r ∧ r < w3.heap.size ∧ r ≠ R ∧ ∀ j, w3.frozen? ⟨r, j, none⟩ = false := ⟨_, rfl⟩
  have HN := Lib.hid (show ∀ r, Nf r → w2.heap.size ≤ r ∧ r < w3.heap.size ∧ r ≠ R ∧ ∀ j, w3.frozen? ⟨r, j, none⟩ = false from fun r h => by rw [hNf] at h; exact h)
  have Hall := Lib.hid (fun k (hk : k < A.length) => made_rows hbA Nf (fun r h1 h2 h3 => by rw [hNf]; exact ⟨h1, h2, by omega, h3⟩) hk)
  have HAi := Lib.hid hAi
  have Hr3 := Lib.hid (Hr2.out.kept (below_grown hb3) (fun _ e => by cases e))
  have Hg3 := Lib.hid (grown_row' Hg2.out (below_grown hb3) (fun _ e => by cases e))
  clear hbA hAi hb3 hNf
  have hbE : Below w3.heap.size w3 (w3.alloc (.cells #[] 30)) := (Below.refl _ _).alloc (Nat.le_refl _) _
  have hBE : BldN 30 2 (w3.alloc (.cells #[] 30)) w2.heap.size Nf (.slice (some ⟨w3.heap.size, 0, none⟩) 0 0) (([] : List (Int × List Int)).map shardD) := BldN.nil (World.ownsRow_made w3 #[] 0 hs3 (by simp) (by simp))
  have HBE := Lib.hid hBE
  have hzE := hbE.size
  have HrE := Lib.hid (Hr3.out.kept (below_grown hbE) (fun _ e => by cases e))
  have HgE := Lib.hid (show w3.grownBy (w3.alloc (.cells #[] 30)) (some R) from World.grownBy_alloc _ _ _)
  clear hBE hbE
  go_wp2_with fail
  go_loopw [8, 9] (fun v i wr => ∃ (k : Nat) (L : List (Int × List Int)) (q : Nat), k ≤ A.length ∧ i = .int .i64 k ∧ L.length ≤ k ∧ (∀ s ∈ L, s.2.length ≤ 12) ∧ BldN 30 2 wr w2.heap.size Nf v (L.map shardD) ∧ (∀ g, v.ownBlock = some g → w3.heap.size ≤ g) ∧ Rdr wr R q ∧ q ≤ p1 + 10 + 2 * k ∧ w3.grownBy wr (some R)) (fun _ i _ => A.length - (intOf i).toNat)
  case atStart => exact ⟨0, [], _, Nat.zero_le _, rfl, Nat.le_refl _, by simp, HBE.out, (fun g e => by cases e; exact Nat.le_refl _), HrE.out, by omega, HgE.out⟩
  case round =>
    obtain ⟨k, L, q, hk, rfl, hLk, hLi, hbl, hvb, hrd, hq, hgr⟩ := hrel
    have hz3 := hgr.size
    have HLi := Lib.hid hLi
    have Hbl := Lib.hid hbl
    have Hvb := Lib.hid hvb
    have Hrd := Lib.hid hrd
    have Hgr := Lib.hid hgr
    clear hLi hbl hvb hrd hgr
    by_cases hlt : k < A.length
    · have hk8 : k < 8 := by omega
      go_wp2_with fail
      refine (pick_any R 3 q wr (by omega) Hrd.out (by omega)).mono ?_
      rintro e w4 ⟨m, rfl, hm0, hm1, hr4, hg4⟩
      have Hr4 := Lib.hid hr4
      have hz4 := hg4.size
      have Hg4 := Lib.hid (grownBy_trans Hgr.out hg4)
      have Hbl4 := Lib.hid (Hbl.out.step hg4 (fun r e => by cases e; omega))
      clear hr4 hg4
      obtain ⟨kk, hkk⟩ : ∃ kk : Nat, (((k : Int) * 3 + m) % (A.length : Int)) = kk := ⟨(((k : Int) * 3 + m) % (A.length : Int)).toNat, (Int.toNat_of_nonneg (Int.emod_nonneg _ (by omega))).symm⟩
      have hkl : kk < A.length := by have := Int.emod_lt_of_pos ((k : Int) * 3 + m) (show (0 : Int) < A.length by omega); omega
      have hkt : ((k : Int) * 3 + m).tmod (A.length : Int) = kk := by rw [Int.tmod_eq_emod_of_nonneg (by omega)]; exact hkk
      have hpos : (0 : Int) < A.length := by omega
      obtain ⟨gA, av, cv, rfl, hgA, hgA3, a0, a1, acr⟩ := Hall.out kk hkl
      have Hacr := Lib.hid acr
      have A0 := Lib.hid a0
      have A1 := Lib.hid a1
      have a0 := Hg4.out.cell a0 (by simp only [ne_eq, Option.some.injEq]; omega)
      have a1 := Hg4.out.cell a1 (by simp only [ne_eq, Option.some.injEq]; omega)
      obtain ⟨av8, cv8, hv8, _⟩ := Hbl4.out.slice
      rw [List.length_map] at hv8
      subst hv8
      obtain ⟨fo, hro, hfo⟩ := Hbl4.out.bld.rd
      have Hro := Lib.hid hro
      have Hks := Lib.hid hkk
      have hAi' := HAi.out _ (List.getElem_mem hkl)
      have HAk := Lib.hid (show A[kk].2.length ≤ 12 from hAi')
      clear acr hro hfo hAi'
      generalize hS : A[kk] = S at *
      obtain ⟨Sn, Sv⟩ := S
      dsimp only at *
      have HS := Lib.hid hS
      clear hS
      go_wp2_with fail
      go_loopw [11, 12] (fun f i wr2 => ∃ (j : Nat) (bf : Bool), j ≤ L.length ∧ i = .int .i64 j ∧ f = .bool bf ∧ Drawn w4 wr2) (fun _ i _ => L.length - (intOf i).toNat)
      case atStart => exact ⟨0, false, Nat.zero_le _, rfl, rfl, Drawn.refl _⟩
      case round =>
        obtain ⟨j, bf, hj, rfl, rfl, hdr⟩ := hrel
        have b0 := (hdr.cell _).trans a0
        have b1 := (hdr.cell _).trans a1
        have Hdr := Lib.hid hdr
        by_cases hjl : j < L.length
        · obtain ⟨gO, oO, ox, oc, rfl, hgO, _, c0, _⟩ := shard_cells Hro.out hjl (B := 0) (blk := none) (fun r _ => ⟨Nat.zero_le _, by simp⟩)
          have c0 := (hdr.cell _).trans c0
          clear hdr
          have hjz : (j : Int) < L.length := by omega
          have hkz : (kk : Int) < A.length := by omega
          cases bf with
          | true =>
            clear b0 b1 c0
            go_wp2_with fail
            refine wp_region_held_drew (S := fun w' => True) (by kernel_rfl) trivial (fun hH => ?_)
            refine takeH 0 (v := ?va0) rfl (by kernel_rfl) (by kernel_rfl) (by kernel_rfl) (fun _ _ _ h => h) hH rfl ?ya0 ?ra0
            case ya0 => intro W hSw; go_simp; try with_reducible rfl
            try simp only [Act.put, List.setIfInBounds_toArray, List.set_cons_zero, List.set_cons_succ]
            refine takeH 1 (v := ?va1) rfl (by kernel_rfl) (by kernel_rfl) (by kernel_rfl) (fun _ _ _ h => h) hH rfl ?ya1 ?ra1
            case ya1 => intro W hSw; go_simp; try with_reducible rfl
            try simp only [Act.put, List.setIfInBounds_toArray, List.set_cons_zero, List.set_cons_succ]
            refine skipH 2 rfl (by kernel_rfl) (by kernel_rfl) (by kernel_rfl) (fun _ _ _ h => h) hH rfl ?_
            try simp only [Act.put, List.setIfInBounds_toArray, List.set_cons_zero, List.set_cons_succ]
            refine skipH 3 rfl (by kernel_rfl) (by kernel_rfl) (by kernel_rfl) (fun _ _ _ h => h) hH rfl ?_
            try simp only [Act.put, List.setIfInBounds_toArray, List.set_cons_zero, List.set_cons_succ]
            refine skipH 4 rfl (by kernel_rfl) (by kernel_rfl) (by kernel_rfl) (fun _ _ _ h => h) hH rfl ?_
            try simp only [Act.put, List.setIfInBounds_toArray, List.set_cons_zero, List.set_cons_succ]
            refine skipH 5 rfl (by kernel_rfl) (by kernel_rfl) (by kernel_rfl) (fun _ _ _ h => h) hH rfl ?_
            try simp only [Act.put, List.setIfInBounds_toArray, List.set_cons_zero, List.set_cons_succ]
            refine skipH 6 rfl (by kernel_rfl) (by kernel_rfl) (by kernel_rfl) (fun _ _ _ h => h) hH rfl ?_
            try simp only [Act.put, List.setIfInBounds_toArray, List.set_cons_zero, List.set_cons_succ]
            refine skipH 7 rfl (by kernel_rfl) (by kernel_rfl) (by kernel_rfl) (fun _ _ _ h => h) hH rfl ?_
            try simp only [Act.put, List.setIfInBounds_toArray, List.set_cons_zero, List.set_cons_succ]
            refine skipH 8 rfl (by kernel_rfl) (by kernel_rfl) (by kernel_rfl) (fun _ _ _ h => h) hH rfl ?_
            try simp only [Act.put, List.setIfInBounds_toArray, List.set_cons_zero, List.set_cons_succ]
            refine skipH 9 rfl (by kernel_rfl) (by kernel_rfl) (by kernel_rfl) (fun _ _ _ h => h) hH rfl ?_
            try simp only [Act.put, List.setIfInBounds_toArray, List.set_cons_zero, List.set_cons_succ]
            refine skipH 10 rfl (by kernel_rfl) (by kernel_rfl) (by kernel_rfl) (fun _ _ _ h => h) hH rfl ?_
            try simp only [Act.put, List.setIfInBounds_toArray, List.set_cons_zero, List.set_cons_succ]
            refine skipH 11 rfl (by kernel_rfl) (by kernel_rfl) (by kernel_rfl) (fun _ _ _ h => h) hH rfl ?_
            try simp only [Act.put, List.setIfInBounds_toArray, List.set_cons_zero, List.set_cons_succ]
            refine skipH 12 rfl (by kernel_rfl) (by kernel_rfl) (by kernel_rfl) (fun _ _ _ h => h) hH rfl ?_
            try simp only [Act.put, List.setIfInBounds_toArray, List.set_cons_zero, List.set_cons_succ]
            refine takeH 13 (v := ?va13) rfl (by kernel_rfl) (by kernel_rfl) (by kernel_rfl) (fun _ _ _ h => h) hH rfl ?ya13 ?ra13
            case ya13 => intro W hSw; go_simp; try with_reducible rfl
            try simp only [Act.put, List.setIfInBounds_toArray, List.set_cons_zero, List.set_cons_succ]
            refine takeH 14 (v := ?va14) rfl (by kernel_rfl) (by kernel_rfl) (by kernel_rfl) (fun _ _ _ h => h) hH rfl ?ya14 ?ra14
            case ya14 => intro W hSw; go_simp; try with_reducible rfl
            try simp only [Act.put, List.setIfInBounds_toArray, List.set_cons_zero, List.set_cons_succ]
            refine wpAnyH_done (by kernel_rfl) ?_ _
            try simp only [Act.put]
            have Hd2 := Lib.hid (Hdr.out.drewN 1)
            clear hH
            go_wp2
            go_roundw
            case rel => exact ⟨j + 1, true, by omega, by go_num, rfl, Hd2.out⟩
            case measure => simp [intOf]; omega
          | false =>
            generalize L[j].1 = Ln at *
            go_wp2_with fail
            refine wp_region_held_drew (S := fun w' => w'.cell? ⟨gO, oO + j * 2, none⟩ = some (.int .i64 Ln) ∧ w'.cell? ⟨gA, kk * 2, none⟩ = some (.int .i64 Sn)) (by kernel_rfl) ⟨c0, b0⟩ (fun hH => ?_)
            refine takeH 0 (v := ?vb0) rfl (by kernel_rfl) (by kernel_rfl) (by kernel_rfl) (fun _ _ _ h => h) hH rfl ?yb0 ?rb0
            case yb0 => intro W hSw; go_simp; try with_reducible rfl
            try simp only [Act.put, List.setIfInBounds_toArray, List.set_cons_zero, List.set_cons_succ]
            refine takeH 1 (v := ?vb1) rfl (by kernel_rfl) (by kernel_rfl) (by kernel_rfl) (fun _ _ _ h => h) hH rfl ?yb1 ?rb1
            case yb1 => intro W hSw; go_simp; try with_reducible rfl
            try simp only [Act.put, List.setIfInBounds_toArray, List.set_cons_zero, List.set_cons_succ]
            refine takeH 2 (v := ?vb2) rfl (by kernel_rfl) (by kernel_rfl) (by kernel_rfl) (fun _ _ _ h => h) hH rfl ?yb2 ?rb2
            case yb2 => intro W hSw; go_simp; try with_reducible rfl
            try simp only [Act.put, List.setIfInBounds_toArray, List.set_cons_zero, List.set_cons_succ]
            refine takeH 3 (v := ?vb3) rfl (by kernel_rfl) (by kernel_rfl) (by kernel_rfl) (fun _ _ _ h => h) hH rfl ?yb3 ?rb3
            case yb3 => intro W hSw; go_simp; try with_reducible rfl
            try simp only [Act.put, List.setIfInBounds_toArray, List.set_cons_zero, List.set_cons_succ]
            refine takeH 4 (v := ?vb4) rfl (by kernel_rfl) (by kernel_rfl) (by kernel_rfl) (fun _ _ _ h => h) hH rfl ?yb4 ?rb4
            case yb4 => intro W hSw; go_simp; try with_reducible rfl
            try simp only [Act.put, List.setIfInBounds_toArray, List.set_cons_zero, List.set_cons_succ]
            refine takeH 5 (v := ?vb5) rfl (by kernel_rfl) (by kernel_rfl) (by kernel_rfl) (fun _ _ _ h => h) hH rfl ?yb5 ?rb5
            case yb5 => intro W hSw; go_simp; try with_reducible rfl
            try simp only [Act.put, List.setIfInBounds_toArray, List.set_cons_zero, List.set_cons_succ]
            refine takeH 6 (v := ?vb6) rfl (by kernel_rfl) (by kernel_rfl) (by kernel_rfl) (fun _ _ _ h => h) hH rfl ?yb6 ?rb6
            case yb6 => intro W hSw; go_simp; try with_reducible rfl
            try simp only [Act.put, List.setIfInBounds_toArray, List.set_cons_zero, List.set_cons_succ]
            refine takeH 7 (v := ?vb7) rfl (by kernel_rfl) (by kernel_rfl) (by kernel_rfl) (fun _ _ _ h => h) hH rfl ?yb7 ?rb7
            case yb7 => intro W hSw; go_simp; try with_reducible rfl
            try simp only [Act.put, List.setIfInBounds_toArray, List.set_cons_zero, List.set_cons_succ]
            refine takeH 8 (v := ?vb8) rfl (by kernel_rfl) (by kernel_rfl) (by kernel_rfl) (fun _ _ _ h => h) hH rfl ?yb8 ?rb8
            case yb8 => intro W hSw; go_simp; try with_reducible rfl
            try simp only [Act.put, List.setIfInBounds_toArray, List.set_cons_zero, List.set_cons_succ]
            refine takeH 9 (v := ?vb9) rfl (by kernel_rfl) (by kernel_rfl) (by kernel_rfl) (fun _ _ _ h => h) hH rfl ?yb9 ?rb9
            case yb9 => intro W hSw; go_simp; try with_reducible rfl
            try simp only [Act.put, List.setIfInBounds_toArray, List.set_cons_zero, List.set_cons_succ]
            refine takeH 10 (v := ?vb10) rfl (by kernel_rfl) (by kernel_rfl) (by kernel_rfl) (fun _ _ _ h => h) hH rfl ?yb10 ?rb10
            case yb10 => intro W hSw; go_simp; try with_reducible rfl
            try simp only [Act.put, List.setIfInBounds_toArray, List.set_cons_zero, List.set_cons_succ]
            refine takeH 11 (v := ?vb11) rfl (by kernel_rfl) (by kernel_rfl) (by kernel_rfl) (fun _ _ _ h => h) hH rfl ?yb11 ?rb11
            case yb11 => intro W hSw; go_simp; try with_reducible rfl
            try simp only [Act.put, List.setIfInBounds_toArray, List.set_cons_zero, List.set_cons_succ]
            refine takeH 12 (v := ?vb12) rfl (by kernel_rfl) (by kernel_rfl) (by kernel_rfl) (fun _ _ _ h => h) hH rfl ?yb12 ?rb12
            case yb12 => intro W hSw; go_simp; try with_reducible rfl
            try simp only [Act.put, List.setIfInBounds_toArray, List.set_cons_zero, List.set_cons_succ]
            refine takeH 13 (v := ?vb13) rfl (by kernel_rfl) (by kernel_rfl) (by kernel_rfl) (fun _ _ _ h => h) hH rfl ?yb13 ?rb13
            case yb13 => intro W hSw; go_simp; try with_reducible rfl
            try simp only [Act.put, List.setIfInBounds_toArray, List.set_cons_zero, List.set_cons_succ]
            refine takeH 14 (v := ?vb14) rfl (by kernel_rfl) (by kernel_rfl) (by kernel_rfl) (fun _ _ _ h => h) hH rfl ?yb14 ?rb14
            case yb14 => intro W hSw; go_simp; try with_reducible rfl
            try simp only [Act.put, List.setIfInBounds_toArray, List.set_cons_zero, List.set_cons_succ]
            refine wpAnyH_done (by kernel_rfl) ?_ _
            try simp only [Act.put]
            have Hd2 := Lib.hid (Hdr.out.drewN 1)
            clear hH b0 b1 c0
            go_wp2
            go_roundw
            case rel => exact ⟨j + 1, _, by omega, by go_num, rfl, Hd2.out⟩
            case measure => simp [intOf]; omega
        · have hbd := hdr.below w4.heap.size
          have hz5 := hbd.size
          have Hbl5 := Lib.hid (Hbl4.out.under hbd)
          have Hr5 := Lib.hid (Hr4.out.kept (below_grown hbd) (fun _ e => by cases e))
          have Hg5 := Lib.hid (grown_row' Hg4.out (below_grown hbd) (fun _ e => by cases e))
          clear hbd hdr b0 b1
          cases bf with
          | true =>
            go_wp2
            go_roundw
            case rel => exact ⟨k + 1, L, q + 1, by omega, by go_num, by omega, HLi.out, Hbl5.out, Hvb.out, Hr5.out, by omega, Hg5.out⟩
            case measure => simp [intOf]; omega
          | false =>
            go_wp2_with fail
            refine (pick_any R 4 (q + 1) _ (by omega) Hr5.out (by omega)).mono ?_
            rintro e w6 ⟨m2, rfl, hm20, hm21, hr6, hg6⟩
            have Hr6 := Lib.hid hr6
            have hz6 := hg6.size
            have Hg6 := Lib.hid (grownBy_trans Hg5.out hg6)
            have Hbl6 := Lib.hid (Hbl5.out.step hg6 (fun r e => by cases e; omega))
            clear hr6 hg6
            by_cases hm2 : 0 < m2
            · have a0 := Hg6.out.cell A0.out (by simp only [ne_eq, Option.some.injEq]; omega)
              have a1 := Hg6.out.cell A1.out (by simp only [ne_eq, Option.some.injEq]; omega)
              have Hacr6 := Lib.hid (Hacr.out.step (blk' := (Value.slice av8 L.length cv8).ownBlock) Hg6.out (fun r e => by cases e; exact .inl hRlt) (fun g e => .inr (Hvb.out g e)))
              have hB6 : w2.heap.size ≤ w6.heap.size := by omega
              have hLl : (L.map shardD).length ≤ 1048576 := by simp; omega
              have hkz : (kk : Int) < A.length := by omega
              have Hln := Lib.hid (show L.length = (L.map shardD).length by simp)
              have Hex := Lib.hid (show (L ++ [(Sn, Sv)]).map shardD = L.map shardD ++ [shardD (Sn, Sv)] by simp)
              go_wp2_with (at_builtin; refine wpList_push_rowN Try.underlying23 TShs rfl (by decide) (by decide) rfl (.tmp 65) (.tmp 70) rfl w2.heap.size Nf _ (L.map shardD) (shardD (Sn, Sv)) [.int .i64 Sn, .slice av Sv.length cv] _ rfl rfl (by intro u hu; simp at hu; rcases hu with rfl | rfl <;> rfl) rfl Hbl6.out rfl Hacr6.out hLl rfl hB6 ?_; intro v8 w8 hbl8 hg8 hloc8)
              have Hr8 := Lib.hid (Hr6.out.kept hg8 (fun g e => by have := Hvb.out g e; omega))
              have hz8 := hg8.size
              have Hg8 := Lib.hid (grown_row' Hg6.out hg8 (fun g e => by have := Hvb.out g e; omega))
              have Hvb8 := Lib.hid (show ∀ g, v8.ownBlock = some g → w3.heap.size ≤ g from fun g e => by
                rcases hloc8 g e with h | h
                · exact Hvb.out g h
                · omega)
              go_roundw
              case rel => exact ⟨k + 1, L ++ [(Sn, Sv)], q + 2, by omega, by go_num, by simp; omega, (fun s hs => by
                rcases List.mem_append.1 hs with h | h
                · exact HLi.out s h
                · simp at h; subst h; exact HAk.out), by rw [Hex.out]; exact hbl8, Hvb8.out, Hr8.out, by omega, Hg8.out⟩
              case measure => simp [intOf]; omega
            · have hm2' : ¬ (0 : Int) < m2 := hm2
              go_wp2
              go_roundw
              case rel => exact ⟨k + 1, L, q + 2, by omega, by go_num, by omega, HLi.out, Hbl6.out, Hvb.out, Hr6.out, by omega, Hg6.out⟩
              case measure => simp [intOf]; omega
    · obtain ⟨ao, co, hvo, _⟩ := Hbl.out.slice
      rw [List.length_map] at hvo
      subst hvo
      obtain ⟨fo, hro, hfo⟩ := Hbl.out.bld.rd
      have Hro := Lib.hid hro
      have Hfo := Lib.hid hfo
      have hL8 : L.length ≤ 8 := by omega
      have hn1' : 1 ≤ 1 + n0 ∧ 1 + n0 ≤ 6 := by omega
      have HLi' := Lib.hid (show ∀ s ∈ L, s.2.length ≤ 20 from fun s hs => by have := HLi.out s hs; omega)
      clear hro hfo
      by_cases hL0 : L.length = 0
      · have e0 : ((L.length : Int) == 0) = true := by simp [hL0]
        clear hL0
        go_wp2
        go_ret3
        exact ⟨_, _, _, L, fo, rfl, Hro.out, hL8, HLi'.out, by omega, by omega, grownBy_trans Hg3.out Hgr.out⟩
      have e0 : ((L.length : Int) == 0) = false := by simp [hL0]
      go_wp2_with fail
      refine (pick_any R L.length q _ (by omega) Hrd.out (by omega)).mono ?_
      rintro e w4 ⟨k2, rfl, hk20, hk21, hr4, hg4⟩
      obtain ⟨kn, rfl⟩ : ∃ kn : Nat, k2 = kn := ⟨k2.toNat, (Int.toNat_of_nonneg hk20).symm⟩
      have hknl : kn < L.length := by omega
      have Hr4 := Lib.hid hr4
      have Hg4 := Lib.hid (grownBy_trans Hgr.out hg4)
      have Hbl4 := Lib.hid (Hbl.out.step hg4 (fun r e => by cases e; omega))
      have hz4 := hg4.size
      clear hr4 hg4 hk20 hk21
      go_wp2_with fail
      refine (pick_any R 14 (q + 1) w4 (by omega) Hr4.out (by omega)).mono ?_
      rintro e w5 ⟨m, rfl, hm0, hm1, hr5, hg5⟩
      have Hr5 := Lib.hid hr5
      have Hg5 := Lib.hid (grownBy_trans Hg4.out hg5)
      have Hbl5 := Lib.hid (Hbl4.out.step hg5 (fun r e => by cases e; omega))
      have hz5 := hg5.size
      clear hr5 hg5
      obtain ⟨f5, hro5, hfo5⟩ := Hbl5.out.bld.rd
      have Hro5 := Lib.hid hro5
      have Hfo5 := Lib.hid hfo5
      obtain ⟨gO, oO, av, cv, rfl, hgO, hgOf, c0, c1, ci, cs, _⟩ := shard_cells hro5 hknl (B := 0) (blk := none) (fun r _ => ⟨Nat.zero_le _, by simp⟩)
      have hgO2 := hfo5 gO hgOf
      obtain ⟨hoff, hfz⟩ := Hbl5.out.frz
      subst hoff
      rw [Nat.zero_add] at c0 c1
      have Hlist := Lib.hid (fun hne => Hbl5.out.list hknl hne)
      have Hci := Lib.hid ci
      have Hcs := Lib.hid cs
      have hknz : (kn : Int) < L.length := by omega
      have hSl : L[kn].2.length ≤ 12 := HLi.out _ (List.getElem_mem hknl)
      have Htail := Lib.hid (fun (size need : Int) (v : Value) (L' : List (Int × List Int)) (f' : List Nat) W (h1 : Rd W (.l (L'.map shardD)) v f') (h2 : L'.length ≤ 8) (h3 : ∀ s ∈ L', s.2.length ≤ 20) (h4 : -100 ≤ size ∧ size ≤ 100) (h5 : -100 ≤ need ∧ need ≤ 100) (h6 : w.grownBy W (some R)) => (⟨size, need, v, L', f', rfl, h1, h2, h3, h4, h5, h6⟩ : ShPost w R (.returned (.tuple #[.int .i64 size, .int .i64 need, v])) W))
      clear hro5 hfo5 ci cs hL0 hfz
      generalize hS : L[kn] = S at *
      obtain ⟨Sn, Sv⟩ := S
      dsimp only at *
      have HS := Lib.hid hS
      clear hS
      by_cases h0 : m = 0
      · subst h0
        by_cases hSv : 0 < Sv.length
        case neg =>
          have e9 : ¬ (0 : Int) < (Sv.length : Int) := by omega
          clear c0
          go_wp2
          go_ret3
          exact Htail.out _ _ _ L f5 w5 Hro5.out hL8 HLi'.out (by omega) (by omega) (grownBy_trans Hg3.out Hg5.out)
        obtain ⟨bv, ov, cv2, c2, hNb, hbv, hcells⟩ := Hlist.out hSv
        have hcc := Option.some.inj (c1.symm.trans c2)
        simp only [Value.slice.injEq, true_and] at hcc
        obtain ⟨rfl, rfl⟩ := hcc
        obtain ⟨hb1, hb2, hb3', hb4⟩ := HN.out bv hNb
        have Hb4 := Lib.hid hb4
        have Hcells := Lib.hid hcells
        have e9 : (0 : Int) < (Sv.length : Int) := by omega
        clear hb4 hcells c2 c0
        go_wp2_with fail
        refine wp_region_L 16 (fun w' => w'.cell? ⟨gO, kn * 2 + 1, none⟩ = some (.slice (some ⟨bv, ov, none⟩) Sv.length cv)) (by kernel_rfl) c1 (fun hH => ?_)
        refine takeL 0 (v := ?vz0) rfl (by kernel_rfl) (by kernel_rfl) (by kernel_rfl) (by kernel_rfl) (by kernel_rfl) (fun _ _ _ h => h) hH rfl ?yz0 ?rz0
        case yz0 => intro w hSw; go_simp; try with_reducible rfl
        try simp only [Act.put, List.setIfInBounds_toArray, List.set_cons_zero, List.set_cons_succ]
        refine takeL 1 (v := ?vz1) rfl (by kernel_rfl) (by kernel_rfl) (by kernel_rfl) (by kernel_rfl) (by kernel_rfl) (fun _ _ _ h => h) hH rfl ?yz1 ?rz1
        case yz1 => intro w hSw; go_simp; try with_reducible rfl
        try simp only [Act.put, List.setIfInBounds_toArray, List.set_cons_zero, List.set_cons_succ]
        refine takeL 2 (v := ?vz2) rfl (by kernel_rfl) (by kernel_rfl) (by kernel_rfl) (by kernel_rfl) (by kernel_rfl) (fun _ _ _ h => h) hH rfl ?yz2 ?rz2
        case yz2 => intro w hSw; go_simp; try with_reducible rfl
        try simp only [Act.put, List.setIfInBounds_toArray, List.set_cons_zero, List.set_cons_succ]
        refine takeL 3 (v := ?vz3) rfl (by kernel_rfl) (by kernel_rfl) (by kernel_rfl) (by kernel_rfl) (by kernel_rfl) (fun _ _ _ h => h) hH rfl ?yz3 ?rz3
        case yz3 => intro w hSw; go_simp; try with_reducible rfl
        try simp only [Act.put, List.setIfInBounds_toArray, List.set_cons_zero, List.set_cons_succ]
        refine takeL 4 (v := ?vz4) rfl (by kernel_rfl) (by kernel_rfl) (by kernel_rfl) (by kernel_rfl) (by kernel_rfl) (fun _ _ _ h => h) hH rfl ?yz4 ?rz4
        case yz4 => intro w hSw; go_simp; try with_reducible rfl
        try simp only [Act.put, List.setIfInBounds_toArray, List.set_cons_zero, List.set_cons_succ]
        refine takeL 5 (v := ?vz5) rfl (by kernel_rfl) (by kernel_rfl) (by kernel_rfl) (by kernel_rfl) (by kernel_rfl) (fun _ _ _ h => h) hH rfl ?yz5 ?rz5
        case yz5 => intro w hSw; go_simp; try with_reducible rfl
        try simp only [Act.put, List.setIfInBounds_toArray, List.set_cons_zero, List.set_cons_succ]
        refine takeL 6 (v := ?vz6) rfl (by kernel_rfl) (by kernel_rfl) (by kernel_rfl) (by kernel_rfl) (by kernel_rfl) (fun _ _ _ h => h) hH rfl ?yz6 ?rz6
        case yz6 => intro w hSw; go_simp; try with_reducible rfl
        try simp only [Act.put, List.setIfInBounds_toArray, List.set_cons_zero, List.set_cons_succ]
        refine takeL 7 (v := ?vz7) rfl (by kernel_rfl) (by kernel_rfl) (by kernel_rfl) (by kernel_rfl) (by kernel_rfl) (fun _ _ _ h => h) hH rfl ?yz7 ?rz7
        case yz7 => intro w hSw; go_simp; try with_reducible rfl
        try simp only [Act.put, List.setIfInBounds_toArray, List.set_cons_zero, List.set_cons_succ]
        refine takeL 8 (v := ?vz8) rfl (by kernel_rfl) (by kernel_rfl) (by kernel_rfl) (by kernel_rfl) (by kernel_rfl) (fun _ _ _ h => h) hH rfl ?yz8 ?rz8
        case yz8 => intro w hSw; go_simp; try with_reducible rfl
        try simp only [Act.put, List.setIfInBounds_toArray, List.set_cons_zero, List.set_cons_succ]
        refine takeL 9 (v := ?vz9) rfl (by kernel_rfl) (by kernel_rfl) (by kernel_rfl) (by kernel_rfl) (by kernel_rfl) (fun _ _ _ h => h) hH rfl ?yz9 ?rz9
        case yz9 => intro w hSw; go_simp; try with_reducible rfl
        try simp only [Act.put, List.setIfInBounds_toArray, List.set_cons_zero, List.set_cons_succ]
        refine takeL 10 (v := ?vz10) rfl (by kernel_rfl) (by kernel_rfl) (by kernel_rfl) (by kernel_rfl) (by kernel_rfl) (fun _ _ _ h => h) hH rfl ?yz10 ?rz10
        case yz10 => intro w hSw; go_simp; try with_reducible rfl
        try simp only [Act.put, List.setIfInBounds_toArray, List.set_cons_zero, List.set_cons_succ]
        refine takeL 11 (v := ?vz11) rfl (by kernel_rfl) (by kernel_rfl) (by kernel_rfl) (by kernel_rfl) (by kernel_rfl) (fun _ _ _ h => h) hH rfl ?yz11 ?rz11
        case yz11 => intro w hSw; go_simp; try with_reducible rfl
        try simp only [Act.put, List.setIfInBounds_toArray, List.set_cons_zero, List.set_cons_succ]
        refine takeL 13 (v := ?vz12) rfl (by kernel_rfl) (by kernel_rfl) (by kernel_rfl) (by kernel_rfl) (by kernel_rfl) (fun _ _ _ h => h) hH rfl ?yz12 ?rz12
        case yz12 => intro w hSw; go_simp; try with_reducible rfl
        try simp only [Act.put, List.setIfInBounds_toArray, List.set_cons_zero, List.set_cons_succ]
        refine callL 12 rfl (by kernel_rfl) rfl (fun K hK => ?_)
        go_simp
        refine (pick_any R (Sv.length : Int) (q + 1 + 1) _ (by omega) (Hr5.out.drewN 1) (by omega)).mono ?_
        rintro e wx ⟨z1, rfl, hz10, hz11, hrx, hgx⟩
        obtain ⟨zn, rfl⟩ : ∃ zn : Nat, z1 = zn := ⟨z1.toNat, (Int.toNat_of_nonneg hz10).symm⟩
        have hznl : zn < Sv.length := by omega
        have hznz : (zn : Int) < (Sv.length : Int) := by omega
        dsimp only
        have Hrx := Lib.hid hrx
        have Hgx := Lib.hid hgx
        clear hrx
        refine hK.out _ _ (hgx.cell hH (by simp only [ne_eq, Option.some.injEq]; omega)) (fun hH => ?_)
        clear hK K
        try simp only [Act.put, List.setIfInBounds_toArray, List.set_cons_zero, List.set_cons_succ]
        refine callL 14 rfl (by kernel_rfl) rfl (fun K hK => ?_)
        go_simp
        refine (pick_any R 251 (q + 1 + 1 + 1) _ (by omega) Hrx.out (by omega)).mono ?_
        rintro e wy ⟨y, rfl, hy0, hy1, _, hgy⟩
        have Hg5y := Lib.hid (grownBy_trans (show w5.grownBy w5.drew (some R) from grownBy_drewN (World.grownBy.refl _ _) 1) (grownBy_trans Hgx.out hgy))
        have Hgy := Lib.hid (grownBy_trans Hg5.out Hg5y.out)
        have gcell : wy.cell? ⟨bv, ov + zn, none⟩ = some (.int .i64 Sv[zn]) := Hg5y.out.cell (Hcells.out zn hznl) (by simp only [ne_eq, Option.some.injEq]; omega)
        have gfrz : wy.frozen? ⟨bv, ov + zn, none⟩ = false := (grown_frozen Hgy.out hb2 (by simp only [ne_eq, Option.some.injEq]; omega) _).trans (Hb4.out _)
        dsimp only
        refine hK.out _ _ (hgy.cell hH (by simp only [ne_eq, Option.some.injEq]; omega)) (fun hH => ?_)
        clear hK K
        try simp only [Act.put, List.setIfInBounds_toArray, List.set_cons_zero, List.set_cons_succ]
        refine callL 15 rfl (by kernel_rfl) rfl (fun K hK => ?_)
        go_simp
        refine hK.out _ _ hH (fun hH => ?_)
        clear hK K
        try simp only [Act.put, List.setIfInBounds_toArray, List.set_cons_zero, List.set_cons_succ]
        refine lastL rfl (by kernel_rfl) (by kernel_rfl) (by kernel_rfl) rfl (fun K hK => ?_)
        go_simp
        refine hK.out _ _ ?_
        clear hK K
        try simp only [Act.put, List.setIfInBounds_toArray, List.set_cons_zero, List.set_cons_succ]
        have HW := Lib.hid (grownBy_trans Hg3.out Hgy.out)
        have Hbl7 := Lib.hid (Hbl5.out.step (row := some R) Hg5y.out (fun r e => by cases e; omega))
        obtain ⟨f7, hr7, _⟩ := Hbl7.out.bld.rd
        obtain ⟨L', hl', hm', hp'⟩ := shards_poke y gcell hr7 HLi'.out
        have Hp' := Lib.hid hp'
        have Hm' := Lib.hid hm'
        have HWs := Lib.hid (grown_row' HW.out (grownBy_set wy bv (ov + zn) (.int .i64 y)) (fun g e => by cases e; omega))
        clear hr7 hp' hm' gcell gfrz
        go_wp2
        go_ret3
        exact Htail.out _ _ _ L' f7 _ Hp'.out (by omega) Hm'.out (by omega) (by omega) HWs.out
      have m0 : (m == 0) = false := by simpa using h0
      by_cases h1 : m = 1
      · subst h1
        go_wp2_with fail
        refine (pick_any R 10 (q + 2) w5 (by omega) Hr5.out (by omega)).mono ?_
        rintro e w6 ⟨y, rfl, hy0, hy1, hr6, hg6⟩
        have d0 := hg6.cell c0 (by simp only [ne_eq, Option.some.injEq]; omega)
        have hbl6 := Hbl5.out.step hg6 (fun r e => by cases e; omega)
        have g0 := hbl6.frz.2 (kn * 2)
        obtain ⟨f6, hr6', _⟩ := hbl6.bld.rd
        obtain ⟨L', hl', hm', hp'⟩ := shards_poke y d0 hr6' HLi'.out
        have Hp' := Lib.hid hp'
        have Hm' := Lib.hid hm'
        have HWs := Lib.hid (grown_row' (grownBy_trans Hg3.out (grownBy_trans Hg5.out hg6)) (grownBy_set w6 gO (kn * 2) (.int .i64 y)) (fun g e => by cases e; omega))
        clear hr6 hg6 hr6' hbl6 hp' hm' c0 c1
        go_wp2
        go_ret3
        exact Htail.out _ _ _ L' f6 _ Hp'.out (by omega) Hm'.out (by omega) (by omega) HWs.out
      have m1 : (m == 1) = false := by simpa using h1
      by_cases h2 : m = 2
      · subst h2
        go_wp2_with fail
        refine (pick_any R 3 (q + 2) w5 (by omega) Hr5.out (by omega)).mono ?_
        rintro e w6 ⟨y, rfl, hy0, hy1, hr6, hg6⟩
        have Hg6 := Lib.hid (grownBy_trans Hg5.out hg6)
        obtain ⟨f6, hr6', _⟩ := (Hbl5.out.step hg6 (fun r e => by cases e; omega)).bld.rd
        have Hr6 := Lib.hid hr6'
        clear hr6 hg6 hr6' c0 c1
        go_wp2
        all_goals
          go_ret3
          exact Htail.out _ _ _ L f6 w6 Hr6.out hL8 HLi'.out (by first | omega | (split <;> omega)) (by omega) (grownBy_trans Hg3.out Hg6.out)
      have m2 : (m == 2) = false := by simpa using h2
      by_cases h3 : m = 3
      · subst h3
        go_wp2_with fail
        refine (pick_any R 3 (q + 2) w5 (by omega) Hr5.out (by omega)).mono ?_
        rintro e w6 ⟨y, rfl, hy0, hy1, hr6, hg6⟩
        have Hg6 := Lib.hid (grownBy_trans Hg5.out hg6)
        obtain ⟨f6, hr6', _⟩ := (Hbl5.out.step hg6 (fun r e => by cases e; omega)).bld.rd
        have Hr6 := Lib.hid hr6'
        clear hr6 hg6 hr6' c0 c1
        go_wp2
        go_ret3
        exact Htail.out _ _ _ L f6 w6 Hr6.out hL8 HLi'.out (by omega) (by omega) (grownBy_trans Hg3.out Hg6.out)
      have m3 : (m == 3) = false := by simpa using h3
      by_cases h4 : m = 4
      · subst h4
        have hcap := shards_cap Hro5.out (by omega)
        have hkc : kn ≤ co := by omega
        have hkcz : (kn : Int) ≤ (co : Int) := by omega
        obtain ⟨f7, hr7, _⟩ := Rd.take Hro5.out kn (by omega)
        have Hr7 := Lib.hid hr7
        have hkl : (L.take kn).length ≤ 8 := by rw [List.length_take]; omega
        have hki : ∀ s ∈ L.take kn, s.2.length ≤ 20 := fun s hs => HLi'.out s (List.mem_of_mem_take hs)
        have Hki := Lib.hid hki
        clear hr7 hki c0 c1
        go_wp2
        go_ret3
        exact Htail.out _ _ _ (L.take kn) f7 w5 Hr7.out hkl Hki.out (by omega) (by omega) (grownBy_trans Hg3.out Hg5.out)
      have m4 : (m == 4) = false := by simpa using h4
      by_cases h5 : m = 5
      · subst h5
        have hbE : Below w5.heap.size w5 (w5.alloc (.cells #[] 3)) := (Below.refl _ _).alloc (Nat.le_refl _) _
        have HoE := Lib.hid (own_empty 3 w5 (Nat.le_refl w5.heap.size))
        have HsE := Lib.hid (srcAt_under Hcs.out Hci.out hbE)
        have HrE5 := Lib.hid (Hr5.out.kept (below_grown hbE) (fun _ e => by cases e))
        have hzE5 : (w5.alloc (.cells #[] 3)).heap.size = w5.heap.size + 1 := by simp
        have HzE5 := Lib.hid hzE5
        have c1E := (hbE.cell (p := ⟨gO, kn * 2 + 1, none⟩) hgO).trans c1
        have HbE := Lib.hid hbE
        clear hbE hzE5 c0
        go_wp2_with (at_builtin; refine wpList_appI TI3 rfl (.tmp 143) (.tmp 148) rfl w5.heap.size (.slice (some ⟨w5.heap.size, 0, none⟩) 0 0) [] Sv _ _ rfl HoE.out rfl HsE.out (by simp; omega) (by rw [HzE5.out]; omega) ?_; intro v6 w6 hown6 hg6; (rw [List.nil_append] at hown6); (clear c1E))
        have hRg : R < gO := by omega
        have hR5 : R < w5.heap.size := by omega
        have Hr6 := Lib.hid (HrE5.out.kept hg6 (fun g e => by cases e; exact hR5))
        have Hg56 := Lib.hid (grown_row' (show w5.grownBy (w5.alloc (.cells #[] 3)) (some R) from World.grownBy_alloc _ _ _) (row := some w5.heap.size) hg6 (fun g e => by cases e; exact Nat.le_refl _))
        have Hown6 := Lib.hid hown6
        have hz6 := Hg56.out.size
        clear hown6 hg6
        refine (pick_any R 251 (q + 1 + 1) w6 (by omega) Hr6.out (by omega)).mono ?_
        rintro e w7 ⟨y, rfl, hy0, hy1, hr7, hg7⟩
        have Hown7 := Lib.hid (Hown6.out.kept hg7 (.inr (fun e => by have := (Hown6.out.lt R e).1; omega)))
        have Hg57 := Lib.hid (grownBy_trans Hg56.out hg7)
        have hB7 : w5.heap.size ≤ w7.heap.size := by have := hg7.size; omega
        clear hr7 hg7
        go_wp2_with (at_builtin; refine wpList_push TI3 rfl (.tmp 149) (.tmp 152) rfl w5.heap.size _ Sv _ rfl Hown7.out (by omega) rfl hB7 ?_; intro v8 w8 hown8 hg8; (have Hg58 := Lib.hid (grown_row' Hg57.out hg8 (fun g e => (Hown7.out.lt g e).1))); (obtain ⟨a8, n8, c8, rfl⟩ : ∃ a n c, v8 = Value.slice a n c := (by obtain ⟨a, c, e, _⟩ := hown8.ints; exact ⟨a, _, c, e⟩)); (have Hbl8 := Lib.hid (Hbl5.out.step (row := some R) Hg58.out (fun r e => by cases e; omega))); (have c8' := Hg58.out.cell c1 (by simp only [ne_eq, Option.some.injEq]; omega)); (have f8' := Hbl8.out.frz.2 (kn * 2 + 1)); (have Hown8 := Lib.hid hown8); (clear hown8 hg8))
        have hgu : (Value.slice a8 n8 c8).ownBlock ≠ some gO := fun e => by have := (Hown8.out.lt gO e).1; omega
        obtain ⟨f9, hr9, _⟩ := (Bld.setL Hbl8.out.bld rfl hknl Hown8.out (show w2.heap.size ≤ w5.heap.size by omega) hgu).rd
        have HW9 := Lib.hid (grown_row' (grownBy_trans Hg3.out (grownBy_trans Hg5.out Hg58.out)) (grownBy_set w8 gO (kn * 2 + 1) (.slice a8 n8 c8)) (fun g e => by cases e; omega))
        have Hr9 := Lib.hid hr9
        have Hm9 := Lib.hid (show ∀ s ∈ L.set kn ((L[kn]'hknl).1, Sv ++ [y]), s.2.length ≤ 20 from fun s hs => by
          rcases List.mem_or_eq_of_mem_set hs with h | h
          · exact HLi'.out s h
          · subst h; simp; omega)
        go_ret3
        exact Htail.out _ _ _ (L.set kn ((L[kn]'hknl).1, Sv ++ [y])) f9 _ Hr9.out (by simp; omega) Hm9.out (by omega) (by omega) HW9.out
      have m5 : (m == 5) = false := by simpa using h5
      clear c0 c1
      go_wp2
      go_ret3
      exact Htail.out _ _ _ L f5 w5 Hro5.out hL8 HLi'.out (by omega) (by omega) (grownBy_trans Hg3.out Hg5.out)

end Go.Proofs.Ytejpoeejhmgphac
