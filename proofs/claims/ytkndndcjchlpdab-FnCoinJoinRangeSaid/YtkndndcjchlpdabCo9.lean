/- impl's test of parts of the coin and its join of them, each by a walk of its text; condition: the list is no longer than 2^20. -/
import Derived.Test.YtkndndcjchlpdabRows
import Derived.Test.YtkndndcjchlpdabCo2
import Derived.Test.YtkndndcjchlpdabCo7
import Derived.Test.YtkndndcjchlpdabCo8
import Derived.Test.YtkndndcjchlpdabBe
import Derived.Test.YtkndndcjchlpdabV3
import Derived.Test.YtkndndcjchlpdabRow
import Derived.Test.YtkndndcjchlpdabHeld
import Derived.Deep.QuietTactic
import Derived.BigQuiet
namespace Go.Proofs.Ytkndndcjchlpdab
open Go.RowKit

theorem okCp_prev {l : List Cp} {k : Nat} (hk : k < l.length) (hu : Upto (okCp l) k) : -1 ≤ prevZ (cpM l) k ∧ (prevZ (cpM l) k < 7) ∧ okCp l k = (decide (prevZ (cpM l) k < l[k].1 ∧ l[k].1 < 7) && symB l[k].2) := by
  have hu2 : Upto (okAt 7 (cpM l)) k := fun j hj => by have := hu j hj; unfold okCp at this; rw [Bool.and_eq_true] at this; exact this.1
  have hl := prevZ_lo hu2 (by rw [cpM_len]; omega)
  have hh := prevZ_hi hu2 (by rw [cpM_len]; omega)
  refine ⟨hl, by omega, ?_⟩
  unfold okCp
  rw [cpV_getD hk]
  congr 1
  have hg := cpM_get (l := l) (k := k) (by rw [cpM_len]; exact hk)
  by_cases h : prevZ (cpM l) k < l[k].1 ∧ l[k].1 < 7
  · rw [decide_eq_true h]; exact okAt_prev (by rw [cpM_len]; exact hk) hl (by rw [hg]; exact h.1) (by rw [hg]; omega)
  · rw [decide_eq_false h]; exact okAt_prev_no (by rw [cpM_len]; exact hk) (by rw [hg]; omega)
theorem prevZ_cp {l : List Cp} {k : Nat} (hk : k < l.length) : prevZ (cpM l) (k + 1) = l[k].1 := by
  rw [prevZ_succ (by rw [cpM_len]; exact hk), cpM_get]

set_option maxHeartbeats 2000000 in
theorem impl_areParts (l : List Cp) (v : Value) (fp : List Nat) (w : World) (hbig : l.length ≤ 1099511627776) (hr : Cps w l v fp) :
    Calls Try.prog 34 #[v] w fun e w' => e = .returned (.bool (partsB l)) ∧ Below w.heap.size w w' := by
  obtain ⟨va, vc, rfl⟩ := hr.slice
  have Hr := Lib.hid hr; clear hr
  have Hres := Lib.hid (parts_upto l)
  go_enter Try.func34, Try.ntmps34
  go_wp2
  go_loopw [3, 5, 8] (fun p _ i wr => ∃ k : Nat, k ≤ l.length ∧ i = .int .i64 k ∧ p = .int .i64 (prevZ (cpM l) k) ∧ Upto (okCp l) k ∧ Below w.heap.size w wr) (fun _ _ i _ => l.length - (intOf i).toNat)
  case atStart => exact ⟨0, by omega, rfl, rfl, upto_zero _, Below.refl _ _⟩
  case round =>
    obtain ⟨k, hk, rfl, rfl, hup, hbel⟩ := hrel
    have hB := hbel.size
    by_cases hlt : k < l.length
    · obtain ⟨b, off, rfl, hb1, hat⟩ := Hr.out.at (by omega)
      obtain ⟨d0, d1⟩ := hat k hlt
      have c0 := (hbel.cell (p := ⟨b, off + k * 2, none⟩) hb1).trans d0
      have c1 := (hbel.cell (p := ⟨b, off + k * 2 + 1, none⟩) hb1).trans d1
      clear hat d0 d1
      obtain ⟨hp0, hp1, hok⟩ := okCp_prev hlt hup
      have Hok := Lib.hid hok; clear hok
      have Hup := Lib.hid hup; clear hup
      have Hpz := Lib.hid (prevZ_cp hlt)
      have Hbel := Lib.hid hbel; clear hbel
      generalize prevZ (cpM l) k = p at *
      generalize hx : l[k] = x at *
      obtain ⟨xm, xv⟩ := x
      dsimp only at *
      clear hx
      have hal : Below wr.heap.size wr (wr.alloc (.cells #[.int .i64 xm, .int .i64 xv] 50)) := (Below.refl _ _).alloc (Nat.le_refl _) _
      have sX := Str.new wr 50 #[.int .i64 xm, .int .i64 xv]
      have x0 := sX.cell 0 (v := .int .i64 xm) rfl
      have x1 := sX.cell 1 (v := .int .i64 xv) rfl
      have Hbel := Lib.hid (below_step Hbel.out hB hal)
      have HS := Lib.hid (fun W => impl_isSymbol xv W)
      clear sX hal
      by_cases h1 : xm ≤ p
      · have Hz := Lib.hid (allB_no hlt (show okCp l k = false by rw [Hok.out, decide_eq_false (by omega)]; rfl))
        go_wp2
        go_ret
        exact ⟨ret_bool (by rw [← Hres.out, Hz.out]), Hbel.out⟩
      · by_cases h2 : 7 ≤ xm
        · have Hz := Lib.hid (allB_no hlt (show okCp l k = false by rw [Hok.out, decide_eq_false (by omega)]; rfl))
          go_wp2
          go_ret
          exact ⟨ret_bool (by rw [← Hres.out, Hz.out]), Hbel.out⟩
        · have hok := Hok.out
          rw [decide_eq_true (show p < xm ∧ xm < 7 by omega), Bool.true_and] at hok
          cases h3 : symB xv with
          | false =>
            rw [h3] at HS hok
            have Hz := Lib.hid (allB_no hlt hok); clear hok
            go_wp2_with fail
            refine (HS.out _).mono ?_
            rintro e w' ⟨rfl, rfl⟩
            go_wp2
            go_ret
            exact ⟨ret_bool (by rw [← Hres.out, Hz.out]), Hbel.out⟩
          | true =>
            rw [h3] at HS hok
            have Hs := Lib.hid (upto_step Hup.out hok); clear hok
            go_wp2_with fail
            refine (HS.out _).mono ?_
            rintro e w' ⟨rfl, rfl⟩
            go_wp2
            go_roundw
            case rel => exact ⟨k + 1, by omega, by go_num, by rw [Hpz.out], Hs.out, Hbel.out⟩
            case measure => simp [intOf]; omega
    · have Hz := Lib.hid (allB_yes hup (show l.length ≤ k by omega)); clear hup
      have Hbel := Lib.hid hbel; clear hbel
      go_wp2
      go_ret
      exact ⟨ret_bool (by rw [← Hres.out, Hz.out]), Hbel.out⟩

set_option maxHeartbeats 1000000 in
theorem CoinPart_shard (m v : Int) (w : World) (h0 : 0 ≤ m) (h6 : m ≤ 6) :
    Calls Try.prog 35 #[.agg #[.int .i64 m, .int .i64 v]] w fun e w' => ∃ g, e = .returned (.agg #[.int .i64 (m + 1), .slice (some ⟨g, 0, none⟩) 1 1]) ∧ w.heap.size ≤ g ∧ g < w'.heap.size ∧ w'.cell? ⟨g, 0, none⟩ = some (.int .i64 v) ∧ Below w.heap.size w w' := by
  have hbW : Below w.heap.size w ((w.alloc (.cells #[.int .i64 m, .int .i64 v] 50)).alloc (.cells #[.int .i64 0, .slice none 0 0] 55)) := ((Below.refl _ w).alloc (Nat.le_refl _) _).alloc (by simp) _
  have s0 := (Str.new w 50 #[.int .i64 m, .int .i64 v]).alloc (.cells #[.int .i64 0, .slice none 0 0] 55)
  have s1 := Str.new (w.alloc (.cells #[.int .i64 m, .int .i64 v] 50)) 55 #[.int .i64 0, .slice none 0 0]
  simp only [World.size_alloc] at s1
  have hz : ((w.alloc (.cells #[.int .i64 m, .int .i64 v] 50)).alloc (.cells #[.int .i64 0, .slice none 0 0] 55)).heap.size = w.heap.size + 2 := by simp
  have Hz := Lib.hid hz; clear hz
  have HbW := Lib.hid hbW; clear hbW
  have S0 := Lib.hid s0; have S1 := Lib.hid s1; clear s1
  have k0 := s0.cell 0 (v := .int .i64 m) rfl
  have k1 := s0.cell 1 (v := .int .i64 v) rfl
  have HN := Lib.hid (fun W => impl_numberOf m W (by omega) (by omega))
  clear s0
  go_enter Try.func35, Try.ntmps35
  go_wp2_with fail
  generalize ((w.alloc (.cells #[.int .i64 m, .int .i64 v] 50)).alloc (.cells #[.int .i64 0, .slice none 0 0] 55)) = W0 at *
  refine wp_region_held_drew (S := fun w' => w'.cell? ⟨w.heap.size, 0, none⟩ = some (.int .i64 m) ∧ w'.cell? ⟨w.heap.size, 1, none⟩ = some (.int .i64 v)) (by kernel_rfl) ⟨k0, k1⟩ (fun hH => ?_)
  have S0 := Lib.hid (show Str W0.drew w.heap.size 50 #[.int .i64 m, .int .i64 v] from S0.out)
  have S1 := Lib.hid (show Str W0.drew (w.heap.size + 1) 55 #[.int .i64 0, .slice none 0 0] from S1.out)
  have HbW := Lib.hid HbW.out.drew
  have Hz := Lib.hid (show W0.drew.heap.size = w.heap.size + 2 from Hz.out)
  clear k0 k1
  generalize W0.drew = wd at *
  refine takeH 0 (v := ?vva1) rfl (by kernel_rfl) (by kernel_rfl) (by kernel_rfl) (fun _ _ _ h => h) hH rfl ?yva1 ?rva1
  case yva1 => intro W hSw; go_simp; try with_reducible rfl
  try simp only [Act.put, List.setIfInBounds_toArray, List.set_cons_zero, List.set_cons_succ]
  refine takeH 1 (v := ?vva2) rfl (by kernel_rfl) (by kernel_rfl) (by kernel_rfl) (fun _ _ _ h => h) hH rfl ?yva2 ?rva2
  case yva2 => intro W hSw; go_simp; try with_reducible rfl
  try simp only [Act.put, List.setIfInBounds_toArray, List.set_cons_zero, List.set_cons_succ]
  refine takeH 3 (v := ?vva3) rfl (by kernel_rfl) (by kernel_rfl) (by kernel_rfl) (fun _ _ _ h => h) hH rfl ?yva3 ?rva3
  case yva3 => intro W hSw; go_simp; try with_reducible rfl
  try simp only [Act.put, List.setIfInBounds_toArray, List.set_cons_zero, List.set_cons_succ]
  refine takeH 4 (v := ?vva4) rfl (by kernel_rfl) (by kernel_rfl) (by kernel_rfl) (fun _ _ _ h => h) hH rfl ?yva4 ?rva4
  case yva4 => intro W hSw; go_simp; try with_reducible rfl
  try simp only [Act.put, List.setIfInBounds_toArray, List.set_cons_zero, List.set_cons_succ]
  refine twoH 2 5 rfl rfl (by kernel_rfl) rfl rfl (fun K hK => ?_) (fun K hK => ?_)
  · go_simp
    go_at_call 55
    refine (HN.out _).mono ?_
    rintro e wx ⟨rfl, rfl⟩
    refine hK.out _ _ hH (fun hH => ?_)
    clear hK K
    try simp only [Act.put, List.setIfInBounds_toArray, List.set_cons_zero, List.set_cons_succ]
    refine callH 5 rfl (by kernel_rfl) rfl (fun K hK => ?_)
    go_simp
    refine hK.out _ _ ⟨(World.grownBy_alloc wd _ none).cell hH.1 (by simp), (World.grownBy_alloc wd _ none).cell hH.2 (by simp)⟩ (fun hH => ?_)
    clear hK K
    try simp only [Act.put, List.setIfInBounds_toArray, List.set_cons_zero, List.set_cons_succ]
    have T1 := S1.out.alloc (.cells #[.int .i64 v] 3)
    have T2 := Str.new wd 3 #[.int .i64 v]
    have hzz : (wd.alloc (.cells #[.int .i64 v] 3)).heap.size = wd.heap.size + 1 := by simp
    have HbX := Lib.hid (HbW.out.alloc (by have := Hz.out; omega) (.cells #[.int .i64 v] 3))
    have Hzz := Lib.hid hzz; clear hzz
    generalize (wd.alloc (.cells #[.int .i64 v] 3)) = we at *
    have j0 := T1.cell 0 (v := .int .i64 0) rfl
    have j1 := T1.cell 1 (v := .slice none 0 0) rfl
    have f0 := T1.frozen 0
    have f1 := T1.frozen 1
    refine takeH 6 (v := ?vvb1) rfl (by kernel_rfl) (by kernel_rfl) (by kernel_rfl) (fun _ _ _ h => h) hH rfl ?yvb1 ?rvb1
    case yvb1 => intro W hSw; go_simp; try with_reducible rfl
    try simp only [Act.put, List.setIfInBounds_toArray, List.set_cons_zero, List.set_cons_succ]
    refine callH 7 rfl (by kernel_rfl) rfl (fun K hK => ?_)
    go_simp
    have U := (T1.set 0 (.int .i64 (m + 1))).set 1 (.slice (some ⟨wd.heap.size, 0, none⟩) 1 1)
    have hgd : w.heap.size + 1 < wd.heap.size := by have := Hz.out; omega
    have V := (T2.other (show wd.heap.size ≠ w.heap.size + 1 by omega) 0 (.int .i64 (m + 1))).other (show wd.heap.size ≠ w.heap.size + 1 by omega) 1 (.slice (some ⟨wd.heap.size, 0, none⟩) 1 1)
    have HbY := Lib.hid ((HbX.out.setCell (p := ⟨w.heap.size + 1, 0, none⟩) (by simp) (.int .i64 (m + 1))).setCell (p := ⟨w.heap.size + 1, 1, none⟩) (by simp) (.slice (some ⟨wd.heap.size, 0, none⟩) 1 1))
    have e0 := U.cell 0 (v := .int .i64 (m + 1)) rfl
    have e1 := U.cell 1 (v := .slice (some ⟨wd.heap.size, 0, none⟩) 1 1) rfl
    have v0 := V.cell 0 (v := .int .i64 v) rfl
    have hlt := V.lt
    clear U V j0 j1 f0 f1 T1 T2
    refine hK.out _ _ ⟨(grownBy_set _ (w.heap.size + 1) 1 _).cell ((grownBy_set _ (w.heap.size + 1) 0 _).cell hH.1 (by simp)) (by simp), (grownBy_set _ (w.heap.size + 1) 1 _).cell ((grownBy_set _ (w.heap.size + 1) 0 _).cell hH.2 (by simp)) (by simp)⟩ (fun hH => ?_)
    clear hK K
    generalize ((we.setCell ⟨w.heap.size + 1, 0, none⟩ (.int .i64 (m + 1))).setCell ⟨w.heap.size + 1, 1, none⟩ (.slice (some ⟨wd.heap.size, 0, none⟩) 1 1)) = wf at *
    try simp only [Act.put]
    refine wpAnyH_done (by kernel_rfl) ?_ _
    try simp only [Act.put]
    go_wp2
    refine bodyPost_ret (v := .agg #[.int .i64 (m + 1), .slice (some ⟨wd.heap.size, 0, none⟩) 1 1]) (by simp [results, Try.f35, go_sem, e0, e1]) rfl ?_
    exact ⟨wd.heap.size, rfl, by omega, hlt, v0, HbY.out⟩
  · go_simp
    refine hK.out _ _ ⟨(World.grownBy_alloc wd _ none).cell hH.1 (by simp), (World.grownBy_alloc wd _ none).cell hH.2 (by simp)⟩ (fun hH => ?_)
    clear hK K
    try simp only [Act.put, List.setIfInBounds_toArray, List.set_cons_zero, List.set_cons_succ]
    refine callH 2 rfl (by kernel_rfl) rfl (fun K hK => ?_)
    go_simp
    go_at_call 55
    refine (HN.out _).mono ?_
    rintro e wx ⟨rfl, rfl⟩
    refine hK.out _ _ hH (fun hH => ?_)
    clear hK K
    try simp only [Act.put, List.setIfInBounds_toArray, List.set_cons_zero, List.set_cons_succ]
    have T1 := S1.out.alloc (.cells #[.int .i64 v] 3)
    have T2 := Str.new wd 3 #[.int .i64 v]
    have hzz : (wd.alloc (.cells #[.int .i64 v] 3)).heap.size = wd.heap.size + 1 := by simp
    have HbX := Lib.hid (HbW.out.alloc (by have := Hz.out; omega) (.cells #[.int .i64 v] 3))
    have Hzz := Lib.hid hzz; clear hzz
    generalize (wd.alloc (.cells #[.int .i64 v] 3)) = we at *
    have j0 := T1.cell 0 (v := .int .i64 0) rfl
    have j1 := T1.cell 1 (v := .slice none 0 0) rfl
    have f0 := T1.frozen 0
    have f1 := T1.frozen 1
    refine takeH 6 (v := ?vvc1) rfl (by kernel_rfl) (by kernel_rfl) (by kernel_rfl) (fun _ _ _ h => h) hH rfl ?yvc1 ?rvc1
    case yvc1 => intro W hSw; go_simp; try with_reducible rfl
    try simp only [Act.put, List.setIfInBounds_toArray, List.set_cons_zero, List.set_cons_succ]
    refine callH 7 rfl (by kernel_rfl) rfl (fun K hK => ?_)
    go_simp
    have U := (T1.set 0 (.int .i64 (m + 1))).set 1 (.slice (some ⟨wd.heap.size, 0, none⟩) 1 1)
    have hgd : w.heap.size + 1 < wd.heap.size := by have := Hz.out; omega
    have V := (T2.other (show wd.heap.size ≠ w.heap.size + 1 by omega) 0 (.int .i64 (m + 1))).other (show wd.heap.size ≠ w.heap.size + 1 by omega) 1 (.slice (some ⟨wd.heap.size, 0, none⟩) 1 1)
    have HbY := Lib.hid ((HbX.out.setCell (p := ⟨w.heap.size + 1, 0, none⟩) (by simp) (.int .i64 (m + 1))).setCell (p := ⟨w.heap.size + 1, 1, none⟩) (by simp) (.slice (some ⟨wd.heap.size, 0, none⟩) 1 1))
    have e0 := U.cell 0 (v := .int .i64 (m + 1)) rfl
    have e1 := U.cell 1 (v := .slice (some ⟨wd.heap.size, 0, none⟩) 1 1) rfl
    have v0 := V.cell 0 (v := .int .i64 v) rfl
    have hlt := V.lt
    clear U V j0 j1 f0 f1 T1 T2
    refine hK.out _ _ ⟨(grownBy_set _ (w.heap.size + 1) 1 _).cell ((grownBy_set _ (w.heap.size + 1) 0 _).cell hH.1 (by simp)) (by simp), (grownBy_set _ (w.heap.size + 1) 1 _).cell ((grownBy_set _ (w.heap.size + 1) 0 _).cell hH.2 (by simp)) (by simp)⟩ (fun hH => ?_)
    clear hK K
    generalize ((we.setCell ⟨w.heap.size + 1, 0, none⟩ (.int .i64 (m + 1))).setCell ⟨w.heap.size + 1, 1, none⟩ (.slice (some ⟨wd.heap.size, 0, none⟩) 1 1)) = wf at *
    try simp only [Act.put]
    refine wpAnyH_done (by kernel_rfl) ?_ _
    try simp only [Act.put]
    go_wp2
    refine bodyPost_ret (v := .agg #[.int .i64 (m + 1), .slice (some ⟨wd.heap.size, 0, none⟩) 1 1]) (by simp [results, Try.f35, go_sem, e0, e1]) rfl ?_
    exact ⟨wd.heap.size, rfl, by omega, hlt, v0, HbY.out⟩

set_option maxHeartbeats 1000000 in
set_option maxRecDepth 8000 in
theorem impl_CoinJoin (need : Int) (l : List Cp) (v : Value) (fp : List Nat) (w : World) (hbig : l.length ≤ 1048576) (hr : Cps w l v fp) :
    Calls Try.prog 11 #[.int .i64 need, v] w fun e w' => e = .returned (.tuple #[.int .i64 (cjV need l), .bool (cjB need l)]) ∧ Below w.heap.size w w' := by
  have HT := Lib.hid (impl_isThreshold need w)
  have HP := Lib.hid (impl_areParts l v fp w (by omega) hr)
  obtain ⟨va, vc, rfl⟩ := hr.slice
  have Hr := Lib.hid hr; clear hr
  by_cases hn : 1 ≤ need ∧ need ≤ 7
  case neg =>
    rw [decide_eq_false hn] at HT
    have hz : cjB need l = false := cjB_no (by unfold cjOk; rw [decide_eq_false hn]; rfl)
    have Hz := Lib.hid hz; have Hy := Lib.hid (cj_no hz); clear hz hn
    go_enter Try.func11, Try.ntmps11
    go_wp2_with fail
    refine HT.out.mono ?_
    rintro e w1 ⟨rfl, rfl⟩
    go_wp2
    go_ret2
    exact ⟨by rw [Hz.out, Hy.out]; rfl, Below.refl _ _⟩
  rw [decide_eq_true hn] at HT
  cases hpb : partsB l with
  | false =>
    rw [hpb] at HP
    have hz : cjB need l = false := cjB_no (by unfold cjOk; rw [hpb, Bool.and_false])
    have Hz := Lib.hid hz; have Hy := Lib.hid (cj_no hz); clear hz hpb
    go_enter Try.func11, Try.ntmps11
    go_wp2_with fail
    refine HT.out.mono ?_
    rintro e w1 ⟨rfl, rfl⟩
    go_wp2_with fail
    refine HP.out.mono ?_
    rintro e w1 ⟨rfl, hb1⟩
    go_wp2
    go_ret2
    exact ⟨by rw [Hz.out, Hy.out]; rfl, hb1⟩
  | true =>
  rw [hpb] at HP
  have hok : cjOk need l = true := by unfold cjOk; rw [decide_eq_true hn, hpb]; rfl
  have Hmem := Lib.hid (fun (p : Cp) (hp : p ∈ l) => parts_mem hpb hp)
  have hl7 := parts_len hpb
  have HB := Lib.hid (cjB_ok hok)
  have Hno := Lib.hid (fun h => cj_no (need := need) (l := l) h)
  have Hyes := Lib.hid (fun h => cj_yes (need := need) (l := l) h)
  have Hjl := Lib.hid (fun h => join_len (need := need) (L := shL l) h)
  have Hin := Lib.hid (show ∀ s ∈ shL l, s.2.length ≤ 1048576 from fun s hs => by obtain ⟨p, _, rfl⟩ := List.mem_map.1 hs; simp)
  clear hok hpb
  go_enter Try.func11, Try.ntmps11
  go_wp2_with fail
  refine HT.out.mono ?_
  rintro e w1 ⟨rfl, rfl⟩
  go_wp2_with fail
  refine HP.out.mono ?_
  rintro e w1 ⟨rfl, hb1⟩
  have hz1 := hb1.size
  have Hr1 := Lib.hid (Hr.out.under hb1)
  have Hb1 := Lib.hid hb1; clear hb1
  have hal : Below w1.heap.size w1 (w1.alloc (.cells #[] 55)) := (Below.refl _ _).alloc (Nat.le_refl _) _
  have Hal := Lib.hid hal; clear hal
  have HO := Lib.hid (show Bld 55 2 (w1.alloc (.cells #[] 55)) w1.heap.size (.slice (some ⟨w1.heap.size, 0, none⟩) 0 0) [] from Bld.nil (World.ownsRow_made w1 #[] 0 (Nat.le_refl _) (by simp) (by simp)))
  go_wp2
  go_loopw [6, 8, 22] (fun u _ i wr => ∃ k : Nat, k ≤ l.length ∧ i = .int .i64 k ∧ Bld 55 2 wr w1.heap.size u (((shL l).take k).map shardD) ∧ Below w1.heap.size w1 wr) (fun _ _ i _ => l.length - (intOf i).toNat)
  case atStart => exact ⟨0, by omega, rfl, HO.out, Hal.out⟩
  case round =>
    obtain ⟨k, hk, rfl, hbl, hbel⟩ := hrel
    clear HO Hal
    have hB := hbel.size
    by_cases hlt : k < l.length
    · obtain ⟨b, off, rfl, hb1, hat⟩ := Hr1.out.at (by omega)
      obtain ⟨d0, d1⟩ := hat k hlt
      have c0 := (hbel.cell (p := ⟨b, off + k * 2, none⟩) hb1).trans d0
      have c1 := (hbel.cell (p := ⟨b, off + k * 2 + 1, none⟩) hb1).trans d1
      have hb : b < wr.heap.size := by omega
      clear hat d0 d1
      have hs := shL_succ hlt
      obtain ⟨⟨hm0, hm1⟩, hv0, hv1⟩ := Hmem.out _ (List.getElem_mem hlt)
      have hln : (((shL l).take k).map shardD).length ≤ 7 := by rw [List.length_map, List.length_take]; omega
      have Hsu := Lib.hid (show ((shL l).take (k + 1)).map shardD = ((shL l).take k).map shardD ++ [shardD (l[k].1 + 1, [l[k].2])] by rw [hs, List.map_append]; rfl)
      clear hs
      generalize ((shL l).take k).map shardD = es at *
      generalize hx : l[k] = x at *
      obtain ⟨xm, xv⟩ := x
      dsimp only at *
      clear hx
      obtain ⟨ua, uc, rfl, _⟩ := hbl.slice
      have hal : Below wr.heap.size wr (wr.alloc (.cells #[.int .i64 xm, .int .i64 xv] 50)) := (Below.refl _ _).alloc (Nat.le_refl _) _
      have sX := Str.new wr 50 #[.int .i64 xm, .int .i64 xv]
      have x0 := sX.cell 0 (v := .int .i64 xm) rfl
      have x1 := sX.cell 1 (v := .int .i64 xv) rfl
      have Hbl := Lib.hid (hbl.under hal); clear hbl
      have Hbel := Lib.hid (below_step hbel hB hal)
      have Hln := Lib.hid hln; clear hln
      have HS := Lib.hid (fun W => CoinPart_shard xm xv W hm0 hm1)
      have hB1 : w1.heap.size ≤ (wr.alloc (.cells #[.int .i64 xm, .int .i64 xv] 50)).heap.size := Nat.le_trans hB hal.size
      have HB1 := Lib.hid hB1
      clear sX hal hbel hB1
      go_wp2_with fail
      generalize wr.alloc (.cells #[.int .i64 xm, .int .i64 xv] 50) = wa at *
      refine (HS.out _).mono ?_
      rintro e w2 ⟨g, rfl, hg0, hg1, hcg, hb2⟩
      have hB1 := HB1.out
      have Hbk := Lib.hid (show (Value.slice ua es.length uc).ownBlock ≠ some g from fun e => by have := (Hbl.out.lt _ e).2; omega)
      have Hbl := Lib.hid (Hbl.out.under hb2)
      have hB2 : w1.heap.size ≤ w2.heap.size := by have := hb2.size; omega
      have Hbel := Lib.hid (below_step Hbel.out HB1.out hb2)
      have Hone := Lib.hid (one_cells (w := w2) (B := w1.heap.size) (m := xm + 1) (z := xv) (by omega) Hbk.out hg1 hcg)
      have hbb : ∀ r, (Value.slice ua es.length uc).ownBlock = some r → w1.heap.size ≤ r := fun r e => (Hbl.out.lt r e).1
      have Hbb := Lib.hid hbb
      clear hb2 hcg hbb x0 x1 c0 c1
      go_wp2_with (at_builtin; refine wpList_push_row Try.underlying53 sh_info rfl (by decide) (by decide) rfl (.tmp 26) (.tmp 29) rfl w1.heap.size _ es (shardD (xm + 1, [xv])) [.int .i64 (xm + 1), .slice (some ⟨g, 0, none⟩) 1 1] _ rfl rfl (by intro u hu; simp at hu; rcases hu with rfl | rfl <;> rfl) rfl Hbl.out rfl Hone.out (by have := Hln.out; omega) rfl hB2 ?_; intro v8 w8 hbl8 hg8 hat8)
      go_roundw
      case rel => exact ⟨k + 1, by omega, by go_num, by rw [Hsu.out]; exact hbl8, Hbel.out.grown hg8 hB2 Hbb.out⟩
      case measure => simp [intOf]; omega
    · have hkl : k = l.length := by omega
      have htk : (shL l).take k = shL l := List.take_of_length_le (by rw [shL_len]; omega)
      rw [htk] at hbl
      clear htk
      obtain ⟨fq, hrd, _⟩ := hbl.rd
      obtain ⟨ua, uc, rfl, _⟩ := hbl.slice
      have HJ := Lib.hid (impl_ShardJoin need need (shL l) _ fq wr (by rw [shL_len]; omega) Hin.out hrd)
      clear hbl hrd hkl
      have Hbel := Lib.hid hbel; clear hbel
      generalize hLm : (List.map shardD (shL l)).length = mm at *
      clear hLm
      go_wp2_with fail
      (with_reducible refine HJ.out.mono ?_)
      rintro e w5 ⟨z, rfl, hown, hb5⟩
      have Hb5 := Lib.hid (below_step Hb1.out hz1 (below_step Hbel.out hB hb5)); clear hb5
      obtain ⟨az, cz, rfl, hiz, _⟩ := hown.ints
      clear hown
      cases hj : joinB need need (shL l) with
      | false =>
        have Hj := Lib.hid (HB.out.trans hj); clear hj hiz
        go_wp2
        go_ret2
        exact ⟨by rw [Hj.out, Hno.out Hj.out]; rfl, Hb5.out⟩
      | true =>
        have hjl := Hjl.out hj
        have Hj := Lib.hid (HB.out.trans hj); clear hj
        have hv := Hyes.out Hj.out
        rw [getD_get (by omega)] at hv
        obtain ⟨bz, oz, rfl, hbz, hcz⟩ := hiz.cell (by omega)
        have hc0 := hcz 0 (by omega)
        clear hcz hiz
        rw [← hv, Nat.add_zero] at hc0
        clear hv Hyes Hjl
        generalize hD : (joinD need need (shL l)).length = dl at *
        clear hD
        have hl0 : (0 : Int) < dl := by omega
        have hl1 : 0 < dl := by omega
        go_wp2
        go_ret2
        exact ⟨by rw [Hj.out]; rfl, Hb5.out⟩

end Go.Proofs.Ytkndndcjchlpdab
