/- What impl's equation of a shard is, by a walk of its text; conditions: the shard has a number up to eight and one to twelve values. -/
import Derived.Test.YtkndndcjchlpdabA3
namespace Go.Proofs.Ytkndndcjchlpdab
open Go.RowKit

/-- copy of some numbers into a block known whole, as an operation of a region. -/
theorem op_copy {P : Program} {w : World} {o : Oper} {a : Act} {K : Act → World → Prop} {Q : Exit → Act → World → Prop} (d s : Operand) (dT sT : TypeId)
    (ho : o.op = .call { callee := .builtin .copy, args := #[d, s], argTypes := #[dT, sT] }) (elem : TypeId) (hu : P.underlying dT = some (.slice elem)) (hsz : (P.info? elem).map (·.size) = some 1)
    (g off dLen dCap : Nat) (ad : Addr) (sLen sCap : Nat) (hd : a.eval d = .slice (some ⟨g, off, none⟩) dLen dCap) (hs : a.eval s = .slice (some ad) sLen sCap)
    (cur : Array Value) (t : TypeId) (hg : w.heap[g]? = some (.cells cur t (0, 0))) (cs : List Value) (hn : cs.length = Nat.min sLen dLen)
    (hsrc : ∀ j v, cs[j]? = some v → w.cell? (ad.add j) = some v) (hfit : off + cs.length ≤ cur.size) (h1 : ∀ v ∈ cs, v.oneCell' = true)
    (h : K (a.put o.dst (goInt cs.length)) (w.setRow g (cur.toList.take off ++ (cs ++ cur.toList.drop (off + cs.length))).toArray)) : Oper.wp P o a w K Q := by
  have hrun := run_copy_row (P := P) w dT sT o.type elem g off dLen dCap ad sLen sCap cur t cs hu hsz hg hn hsrc hfit h1
  unfold Oper.wp
  simp [execOp, ho, resolve, invoke, builtin, hd, hs, hrun, Result.andThen]
  exact h
theorem eqn_splice {need : Nat} (hn : need ≤ 8) (x : Int) (vs : List Int) (hv : vs.length ≤ 12) :
    ((eqC fun j => if j < need then powF x j else 0).toList.take 8 ++ (vs.map (Value.int .i64) ++ (eqC fun j => if j < need then powF x j else 0).toList.drop (8 + (vs.map (Value.int .i64)).length))).toArray = eqC (eqOf need x vs) := by
  unfold eqC arrC
  congr 1
  apply List.ext_getElem
  · simp; omega
  · intro i h1 h2
    have hi : i < 20 := by simpa using h2
    rw [List.getElem_map, List.getElem_range]
    by_cases h8 : i < 8
    · rw [List.getElem_append_left (by simp; omega)]
      simp only [List.getElem_take, List.getElem_map, List.getElem_range]
      congr 1
      unfold eqOf
      by_cases hh : i < need
      · simp [hh]
      · simp [hh, h8]
    · by_cases hl : i < 8 + vs.length
      · rw [List.getElem_append_right (by simp; omega), List.getElem_append_left (by simp; omega)]
        simp only [List.getElem_map]
        congr 1
        unfold eqOf
        rw [if_neg (by omega), if_neg h8, getD_get (by omega)]
        congr 1
        all_goals simp
      · rw [List.getElem_append_right (by simp; omega), List.getElem_append_right (by simp; omega)]
        simp only [List.getElem_drop, List.getElem_map, List.getElem_range]
        congr 1
        unfold eqOf
        rw [if_neg (by omega), if_neg (by simp; omega), if_neg h8, List.getD_eq_getElem?_getD, List.getElem?_eq_none (by omega)]
        rfl

theorem impl_equationOf (need : Nat) (x : Int) (av : Option Addr) (cv : Nat) (vs : List Int) (w : World) (hn : need ≤ 8) (hx0 : 0 ≤ x) (hx8 : x ≤ 8) (hv1 : 1 ≤ vs.length) (hv12 : vs.length ≤ 12) (hc : IntsAt w av vs) :
    Calls Try.prog 69 #[.int .i64 (need : Int), .agg #[.int .i64 x, .slice av vs.length cv]] w fun r w' => r = .returned (.agg (eqC (eqOf need x vs))) ∧ Below w.heap.size w w' := by
  obtain ⟨b, off, rfl, hb, hcs⟩ := hc.cell (by omega)
  have Hcs := Lib.hid hcs; clear hcs hc
  go_enter Try.func69, Try.ntmps69
  go_wp2_with fail
  rw [← zero20]
  go_loopw [6, 9] (fun f i wr => ∃ k : Nat, k ≤ need ∧ i = .int .i64 k ∧ f = .int .i64 (powF x k) ∧ Str wr w.heap.size 55 #[.int .i64 x, .slice (some ⟨b, off, none⟩) vs.length cv] ∧ Str wr (w.heap.size + 1) 76 (eqC fun _ => 0) ∧ Str wr (w.heap.size + 1 + 1) 76 (eqC fun j => if j < k then powF x j else 0) ∧ Below w.heap.size w wr) (fun _ i _ => need - (intOf i).toNat)
  case atStart =>
    have h0 := ((Str.new w 55 #[.int .i64 x, .slice (some ⟨b, off, none⟩) vs.length cv]).alloc (.cells (eqC fun _ => 0) 76)).alloc (.cells (eqC fun _ => 0) 76)
    have h1 := (Str.new (w.alloc (.cells #[.int .i64 x, .slice (some ⟨b, off, none⟩) vs.length cv] 55)) 76 (eqC fun _ => 0)).alloc (.cells (eqC fun _ => 0) 76)
    have h2 := Str.new ((w.alloc (.cells #[.int .i64 x, .slice (some ⟨b, off, none⟩) vs.length cv] 55)).alloc (.cells (eqC fun _ => 0) 76)) 76 (eqC fun _ => 0)
    simp only [World.size_alloc] at h1 h2
    exact ⟨0, by omega, rfl, rfl, h0, h1, by simpa using h2, (((Below.refl _ w).alloc (Nat.le_refl _) _).alloc (by simp) _).alloc (by simp; omega) _⟩
  case round =>
    obtain ⟨k, hk, rfl, rfl, s0, s1, s2, hbel⟩ := hrel
    by_cases hlt : k < need
    · have hxa := fun w' => run_indexAt_arr (P := Try.prog) (B := w.heap.size + 1 + 1) (o := 0) Try.underlying76 (s := 1) (by kernel_rfl) (show k < 20 by omega) w'
      simp only [Nat.zero_add, Nat.mul_one] at hxa
      have hcell := s2.cell k (v := .int .i64 0) (by rw [eqC_get (by omega)]; simp)
      have hfr := s2.frozen k
      have hc0 := s0.cell 0 (v := .int .i64 x) rfl
      have hbd := powF_bd x k
      have hm := mul_bd hbd.1 hbd.2 hx0 hx8
      have ht := Lib.hid (show powF x (k + 1) = powF x k * x % 251 from rfl)
      have hpk := Lib.hid (show powF x k = powF x k from rfl)
      obtain ⟨p, hp⟩ : ∃ p, p = powF x k := ⟨_, rfl⟩
      rw [← hp] at hbd hm ht
      have Hp := Lib.hid hp
      rw [← hp]
      clear hp
      obtain ⟨q, hq⟩ : ∃ q, p * x = q := ⟨_, rfl⟩
      rw [hq] at hm
      have ht' := Lib.hid (ht.out.trans (by rw [hq]))
      clear ht hpk
      have Hs0 := Lib.hid s0; clear s0
      have Hs1 := Lib.hid s1; clear s1
      have Hs2 := Lib.hid s2; clear s2
      go_wp2
      go_roundw
      case rel =>
        refine ⟨k + 1, by omega, by go_num, int_eq ht'.out.symm, Hs0.out.other (by omega) k _, Hs1.out.other (by omega) k _, ?_, hbel.setCell (p := ⟨w.heap.size + 1 + 1, k, none⟩) (by simp; omega) _⟩
        have := Hs2.out.set k (.int .i64 p)
        rw [eqC_set] at this
        rw [show (eqC fun j => if j < k + 1 then powF x j else 0) = eqC fun i => if i = k then p else if i < k then powF x i else 0 from eqC_congr fun i _ => by
          by_cases h1 : i = k
          · subst h1; simp [Hp.out]
          · by_cases h2 : i < k
            · simp [h1, h2, show i < k + 1 by omega]
            · simp [h1, h2, show ¬ i < k + 1 by omega]]
        exact this
      case measure => simp [intOf]; omega
    · have hke : k = need := by omega
      subst hke
      have h0 := s0.cell 1 (v := .slice (some ⟨b, off, none⟩) vs.length cv) rfl
      go_wp2_with fail
      refine wp_region_L 3 (fun w' => w'.cell? ⟨w.heap.size, 1, none⟩ = some (.slice (some ⟨b, off, none⟩) vs.length cv)) (by kernel_rfl) h0 (fun hH => ?_)
      refine takeL 0 (v := ?v0) rfl (by kernel_rfl) (by kernel_rfl) (by kernel_rfl) (by kernel_rfl) (by kernel_rfl) (fun _ _ _ h => h) hH rfl ?y0 ?r0
      case y0 => intro w hSw; go_simp; try with_reducible rfl
      try simp only [Act.put, List.setIfInBounds_toArray, List.set_cons_zero, List.set_cons_succ]
      refine callL 1 rfl (by kernel_rfl) rfl (fun K hK => ?_)
      go_simp
      refine hK.out _ _ hH (fun hH => ?_)
      clear hK K
      try simp only [Act.put, List.setIfInBounds_toArray, List.set_cons_zero, List.set_cons_succ]
      refine takeL 2 (v := ?v2) rfl (by kernel_rfl) (by kernel_rfl) (by kernel_rfl) (by kernel_rfl) (by kernel_rfl) (fun _ _ _ h => h) hH rfl ?y2 ?r2
      case y2 => intro w hSw; go_simp; try with_reducible rfl
      try simp only [Act.put, List.setIfInBounds_toArray, List.set_cons_zero, List.set_cons_succ]
      refine lastL rfl (by kernel_rfl) (by kernel_rfl) (by kernel_rfl) rfl (fun K hK => ?_)
      refine op_copy (.tmp 21) (.tmp 23) 30 30 rfl 3 Try.underlying30 (by kernel_rfl) (w.heap.size + 1 + 1) 8 12 12 ⟨b, off, none⟩ vs.length cv rfl rfl _ 76 s2 (vs.map (Value.int .i64)) (by rw [List.length_map]; exact (Nat.min_eq_left hv12).symm) ?_ (by rw [eqC_size]; simp; omega) (by intro v hv; obtain ⟨z, _, rfl⟩ := List.mem_map.1 hv; rfl) ?_
      · intro j v hj
        rw [List.getElem?_map] at hj
        obtain ⟨z, hz, rfl⟩ := Option.map_eq_some_iff.1 hj
        obtain ⟨hjl, rfl⟩ := List.getElem?_eq_some_iff.1 hz
        rw [addr_add']
        exact (hbel.drew.cell (p := ⟨b, off + j, none⟩) hb).trans (Hcs.out j hjl)
      rw [eqn_splice hn x vs hv12]
      have sE := setRow_str (W := wr.drew) s2 (eqC (eqOf k x vs))
      have sR : Str (wr.drew.setRow (w.heap.size + 1 + 1) (eqC (eqOf k x vs))) (w.heap.size + 1) 76 (eqC fun _ => 0) := Str.kept (W := wr.drew) s1 (grownBy_setRow _ _ _) (by simp)
      have hbE := hbel.drew.grown (grownBy_setRow wr.drew (w.heap.size + 1 + 1) (eqC (eqOf k x vs))) hbel.size (fun g e => by cases e; omega)
      generalize wr.drew.setRow (w.heap.size + 1 + 1) (eqC (eqOf k x vs)) = W4 at *
      refine hK.out _ _ ?_
      clear hK K
      try simp only [Act.put, List.setIfInBounds_toArray, List.set_cons_zero, List.set_cons_succ]
      go_wp2_with (first
        | refine wpList_load_row rfl 76 _ rfl (w.heap.size + 1 + 1) rfl 76 (eqC (eqOf k x vs)) (0, 0) _ sE Try.underlying76 rfl (by rw [eqC_size]; kernel_rfl) ?_
        | refine wpList_store_row rfl 76 _ _ rfl (w.heap.size + 1) (eqC (eqOf k x vs)) rfl rfl 76 (eqC fun _ => 0) sR (by rw [eqC_size]; kernel_rfl) (by rw [eqC_size, eqC_size]) (eqC_one _) ?_)
      have sF := setRow_str sR (eqC (eqOf k x vs))
      refine bodyPost_ret (results_cell_row rfl _ _ (w.heap.size + 1) 76 (eqC (eqOf k x vs)) (0, 0) _ rfl sF Try.underlying76 rfl (by rw [eqC_size]; kernel_rfl)) rfl ⟨rfl, ?_⟩
      exact hbE.grown (grownBy_setRow W4 _ _) hbE.size (fun g e => by cases e; omega)

end Go.Proofs.Ytkndndcjchlpdab
