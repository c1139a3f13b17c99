/- The draws of certificates: what is drawn is short and lies in new memory; each by a walk of its text; condition: few picks before. -/
import Derived.Test.YtilkiiflcdmnpabCeD
import Derived.Test.YtilkiiflcdmnpabCeM
import Derived.Test.YtilkiiflcdmnpabCeT
import Derived.Test.YtilkiiflcdmnpabDt
import Derived.Test.YtilkiiflcdmnpabSched
import Derived.Deep.RegionWith
namespace Go.Proofs.Ytilkiiflcdmnpab
open Go.RowKit

theorem own_lit (E : TypeId) (w : World) {B : Nat} (xs : List Int) (hB : B ≤ w.heap.size) (hm : xs.length ≤ maxLen) :
    Own E (w.alloc (.cells (xs.map (Value.int .i64)).toArray E)) B (.slice (some ⟨w.heap.size, 0, none⟩) xs.length xs.length) xs :=
  ⟨by simp, .inr ⟨w.heap.size, xs.length, _, rfl, hB, heap_alloc_new w _, Nat.le_refl _, hm, by simp, by simp [List.take_of_length_le]⟩⟩

theorem below_grownR {w w' : World} (h : Below w.heap.size w w') (row : Option Nat) : w.grownBy w' row := ⟨h.os, h.tape, h.output, h.size, fun k hk _ => h.block k hk⟩

theorem drawGood (R p : Nat) (w : World) (hp : p ≤ 1000000) (hr : Rdr w R p) (hR : R < w.heap.size) :
    Calls Try.prog 65 #[.pointer (some ⟨R, 0, none⟩)] w fun e w' => ∃ v xs p', e = .returned v ∧ Own 3 w' w.heap.size v xs ∧ 1 ≤ xs.length ∧ xs.length ≤ 11 ∧ Rdr w' R p' ∧ p' ≤ p + 20 ∧ w.grownBy w' (some R) := by
  go_enter Try.func65, Try.ntmps65
  go_wp2_with fail
  refine (drawCommittee R p _ hp hr hR).mono ?_
  rintro e w2 ⟨v, c, p', rfl, hown, hcl, hsm, hr2, hp', hg2⟩
  obtain ⟨a, cap, rfl, hi, _⟩ := hown.ints
  have hz := hg2.size
  have hv' := spec_CommitteeValid a cap c w2 (by omega) hi
  cases hv : validB c with
  | true =>
    have hl := validB_len hv
    rw [hv] at hv'
    have Hv := Lib.hid hv'; clear hv' hv hi
    have Hown := Lib.hid hown; clear hown
    have Hr2 := Lib.hid hr2; clear hr2
    have Hg2 := Lib.hid hg2; clear hg2
    go_wp2_with fail
    refine Hv.out.mono ?_
    rintro e w3 ⟨rfl, rfl⟩
    go_wp2
    go_ret
    exact ⟨_, c, p', rfl, Hown.out, hl.1, hcl, Hr2.out, hp', Hg2.out⟩
  | false =>
    rw [hv] at hv'
    have Hv := Lib.hid hv'; clear hv' hv hi hown
    have Hr2 := Lib.hid hr2; clear hr2
    have Hg2 := Lib.hid hg2; clear hg2
    go_wp2_with fail
    refine Hv.out.mono ?_
    rintro e w3 ⟨rfl, rfl⟩
    go_wp2
    go_ret
    exact ⟨_, [1, 1, 1, 1], p', rfl, own_lit 3 w2 [1, 1, 1, 1] hz (by unfold maxLen; simp), by simp, by simp, Hr2.out.alloc _, hp', grownBy_trans Hg2.out (World.grownBy_alloc _ _ _)⟩

set_option maxHeartbeats 1000000 in
theorem drawCert (R p : Nat) (w : World) (hp : p ≤ 1000) (hr : Rdr w R p) (hR : R < w.heap.size) :
    Calls Try.prog 49 #[.pointer (some ⟨R, 0, none⟩)] w fun e w' => ∃ vc c vk keys d vs ms s p', e = .returned (.tuple #[vc, vk, .agg #[.int .i64 d, vs, .int .i64 s]]) ∧ Own 3 w' w.heap.size vc c ∧ 1 ≤ c.length ∧ c.length ≤ 11 ∧ Own 3 w' w.heap.size vk keys ∧ keys.length = c.length ∧ Own 3 w' w.heap.size vs ms ∧ ms.length ≤ 12 ∧ (∃ M N, (∀ b, vc.ownBlock = some b → b < M) ∧ (∀ b, vs.ownBlock = some b → M ≤ b ∧ b < N) ∧ (∀ b, vk.ownBlock = some b → N ≤ b) ∧ M ≤ N) ∧ Rdr w' R p' ∧ p' ≤ p + 200 ∧ w.grownBy w' (some R) := by
  have Hr0 := Lib.hid (hr.alloc (.cells #[.int .i64 0, .slice none 0 0, .int .i64 0] 27)); clear hr
  have HR0 := Lib.hid (Str.new w 27 #[.int .i64 0, .slice none 0 0, .int .i64 0])
  have hz0 : (w.alloc (.cells #[.int .i64 0, .slice none 0 0, .int .i64 0] 27)).heap.size = w.heap.size + 1 := by simp
  have Hg0 := Lib.hid (World.grownBy_alloc w (.cells #[.int .i64 0, .slice none 0 0, .int .i64 0] 27) (some R))
  go_enter Try.func49, Try.ntmps49
  go_wp2_with fail
  generalize w.alloc (.cells #[.int .i64 0, .slice none 0 0, .int .i64 0] 27) = w1 at *
  refine (drawGood R p _ (by omega) Hr0.out (by omega)).mono ?_
  rintro e w2 ⟨vc, c, p', rfl, hown, hc1, hcl, hr2, hp', hg2⟩
  have Hr2 := Lib.hid hr2; clear hr2
  obtain ⟨ax, cx, rfl, _, _⟩ := hown.ints
  have Hc := Lib.hid hown; clear hown
  have hs2 := hg2.size
  have HR2 := Lib.hid (HR0.out.kept hg2 (fun e => by injection e with e; omega))
  have Hg2 := Lib.hid (grownBy_trans Hg0.out hg2); clear hg2 HR0 Hg0 Hr0
  go_wp2_with fail
  refine (drawSecrets R p' c.length _ (by omega) (by omega) Hr2.out (by omega)).mono ?_
  rintro e w3 ⟨vx, xs, p3, rfl, hown, hxl, hr3, hp3, hg3⟩
  have Hr3 := Lib.hid hr3; clear hr3
  obtain ⟨aq, cq, rfl, hi3, _⟩ := hown.ints
  have hRl : ∀ b, (Value.slice aq xs.length cq).ownBlock = some b → R < b := fun b e => by have := (hown.lt b e).1; omega
  have Hc3 := Lib.hid (Hc.out.kept hg3 (.inr (fun e => by have := (Hc.out.lt R e).1; omega)))
  have Hs := Lib.hid hi3; clear hi3
  have HRl := Lib.hid hRl; clear hRl
  have HSl := Lib.hid (fun b e => (hown.lt b e).2 : ∀ b, (Value.slice aq xs.length cq).ownBlock = some b → b < w3.heap.size)
  clear hown
  have Hxl := Lib.hid hxl; clear hxl
  have hs3 := hg3.size
  have HR3 := Lib.hid (HR2.out.kept hg3 (fun e => by injection e with e; omega))
  have Hg3 := Lib.hid (grownBy_trans Hg2.out hg3); clear hg3 Hc Hg2 HR2
  go_wp2_with fail
  refine (pick_any R 99 p3 _ (by omega) Hr3.out (by omega)).mono ?_
  rintro e w4 ⟨x, rfl, hx0, hx1, hr4, hg4⟩
  have Hr4 := Lib.hid hr4; clear hr4
  have hs4 := hg4.size
  go_wp2_with fail
  refine (pick_any R 10 (p3 + 1) _ (by omega) Hr4.out (by omega)).mono ?_
  rintro e w5 ⟨y, rfl, hy0, hy1, hr5, hg5⟩
  have Hr5 := Lib.hid (hr5.alloc (.cells #[] 3)); clear hr5
  have hg45 := grownBy_trans hg4 hg5
  have hs5 := hg5.size
  have Hc5 := Lib.hid (Hc3.out.kept hg45 (.inr (fun e => by have := (Hc3.out.lt R e).1; omega)))
  have Hs5 := Lib.hid (Hs.out.grown hg45 (fun b e h => by have := HRl.out _ (ownBlock_slice b e); injection h with h; omega))
  have HR5 := Lib.hid (HR3.out.kept hg45 (fun e => by injection e with e; omega))
  have Hg5 := Lib.hid (grownBy_trans Hg3.out hg45); clear hg4 hg5 hg45 Hg3 Hc3 Hs HR3
  obtain ⟨d, hd⟩ : ∃ d : Int, 10 * x + y = d := ⟨_, rfl⟩
  go_wp2_with fail
  go_loopw [8, 9] (fun v i wr => ∃ (sg : List Int) (q : Nat), sg.length ≤ c.length ∧ i = .int .i64 (List.length sg) ∧ Own 3 wr w5.heap.size v sg ∧ Rdr wr R q ∧ q ≤ p3 + 2 + sg.length ∧ w5.grownBy wr (some R)) (fun _ i _ => c.length - (intOf i).toNat)
  case atStart => exact ⟨[], p3 + 2, by simp, rfl, own_empty _ _ (Nat.le_refl _), Hr5.out, by simp, World.grownBy_alloc _ _ _⟩
  case round =>
    obtain ⟨sg, q, hsl, rfl, hown, hrd, hq, hgr⟩ := hrel
    have Hrd := Lib.hid hrd; clear hrd
    have Hown := Lib.hid hown; clear hown
    have hB := hgr.size
    by_cases hlt : sg.length < c.length
    · obtain ⟨b, off, has, hb, hcs⟩ := (Hs5.out.grown hgr (fun b e h => by have := HRl.out _ (ownBlock_slice b e); injection h with h; omega)).cell (by have := Hxl.out; omega)
      have hcell := hcs sg.length (by have := Hxl.out; omega)
      have hlx : sg.length < xs.length := by have := Hxl.out; omega
      have Hgr := Lib.hid hgr; clear hgr hcs
      subst has
      generalize xs[sg.length] = x at *
      have Hx := Lib.hid (fun W => spec_SignMake x d W)
      generalize smZ x d = z at *
      clear hd
      go_wp2_with fail
      refine (Hx.out _).mono ?_
      rintro e w6 ⟨rfl, rfl⟩
      go_wp2_with fail
      refine (pick_any R 7 q _ (by omega) Hrd.out (by omega)).mono ?_
      rintro e w6 ⟨k, rfl, hk0, hk1, hr6, hg6⟩
      have Hr6 := Lib.hid hr6; clear hr6
      have Hg6 := Lib.hid (grownBy_trans Hgr.out hg6)
      have Ho6 := Lib.hid (Hown.out.kept hg6 (.inr (fun e => by have := (Hown.out.lt R e).1; omega)))
      have hB6 := Hg6.out.size
      clear hg6
      by_cases k0 : k = 0
      · subst k0
        go_wp2_with (at_builtin; refine wpList_push TI' rfl (.tmp 41) (.tmp 43) rfl w5.heap.size _ sg _ rfl Ho6.out (by omega) rfl hB6 ?_; intro v' w8 hown8 hg8)
        have Hr8 := Lib.hid (Hr6.out.kept hg8 (fun g e => by have := (Ho6.out.lt g e).1; omega))
        have Hg8 := Lib.hid (grown_row Hg6.out hg8 (fun g e => (Ho6.out.lt g e).1))
        clear hg8
        go_roundw
        case rel => exact ⟨_, q + 1, by simp; omega, by simp, hown8, Hr8.out, by simp; omega, Hg8.out⟩
        case measure => simp [intOf]; omega
      · have k0' : (k == 0) = false := by rw [beq_eq_false_iff_ne]; exact k0
        go_wp2_with (at_builtin; refine wpList_push TI' rfl (.tmp 41) (.tmp 43) rfl w5.heap.size _ sg _ rfl Ho6.out (by omega) rfl hB6 ?_; intro v' w8 hown8 hg8)
        have Hr8 := Lib.hid (Hr6.out.kept hg8 (fun g e => by have := (Ho6.out.lt g e).1; omega))
        have Hg8 := Lib.hid (grown_row Hg6.out hg8 (fun g e => (Ho6.out.lt g e).1))
        clear hg8
        go_roundw
        case rel => exact ⟨_, q + 1, by simp; omega, by simp, hown8, Hr8.out, by simp; omega, Hg8.out⟩
        case measure => simp [intOf]; omega
    · clear hd
      have Hs6 := Lib.hid (Hs5.out.grown hgr (fun b e h => by have := HRl.out _ (ownBlock_slice b e); injection h with h; omega))
      have Hc6 := Lib.hid (Hc5.out.kept hgr (.inr (fun e => by have := (Hc5.out.lt R e).1; omega)))
      have HR6 := Lib.hid (HR5.out.kept hgr (fun e => by injection e with e; omega))
      have Hgr := Lib.hid (grownBy_trans Hg5.out hgr); clear hgr
      have hxb : xs.length ≤ 1000 := by have := Hxl.out; omega
      go_wp2_with fail
      refine (drawKeys aq cq xs _ hxb Hs6.out).mono ?_
      rintro e w7 ⟨vk, keys, rfl, ho7, hkl, hb7⟩
      obtain ⟨ak, ck, rfl, hik, _⟩ := ho7.ints
      obtain ⟨as', cs', rfl, his, _⟩ := Hown.out.ints
      have Hkl := Lib.hid (hkl.trans Hxl.out)
      have hkb : keys.length ≤ 11 := by have := hkl.trans Hxl.out; omega
      have hz7 := hb7.size
      have Hs7 := Lib.hid (Hs6.out.below hb7)
      have Hc7 := Lib.hid (Hc6.out.below hb7)
      have HR7 := Lib.hid (show Str w7 w.heap.size 27 #[.int .i64 0, .slice none 0 0, .int .i64 0] from (hb7.block _ HR6.out.lt).trans HR6.out)
      have Hrd7 := Lib.hid (Hrd.out.kept (below_grown hb7) (by simp))
      have Hg7 := Lib.hid (grownBy_trans Hgr.out (below_grownR hb7 (some R)))
      have hcm := spec_CertMake ax cx c ak ck keys d as' cs' sg w7 (by omega) (by omega) (by omega) (IntsAt_own Hc7.out) hik (his.below hb7)
      have hcl2 := cmL_len c keys d sg
      generalize cmD c keys d sg = D at *
      generalize cmL c keys d sg = L at *
      generalize cmS c keys d sg = S at *
      generalize cmB c keys d sg = ok at *
      have Hcm := Lib.hid hcm; clear hcm
      clear hkl ho7 hik his hb7 Hs6 Hc6 HR6 Hgr
      go_wp2_with fail
      refine Hcm.out.mono ?_
      rintro e w8 ⟨v8, rfl, ho8, hb8⟩
      obtain ⟨al, cl, rfl, _, _⟩ := ho8.ints
      have hz8 := hb8.size
      have Hs8 := Lib.hid ((Hs7.out.below hb8).below ((Below.refl _ _).alloc (Nat.le_refl _) (.cells #[.int .i64 D, .slice al L.length cl, .int .i64 S] 27)))
      have Hc8 := Lib.hid ((Hc7.out.below hb8).alloc (.cells #[.int .i64 D, .slice al L.length cl, .int .i64 S] 27))
      have HR8 := Lib.hid ((show Str w8 w.heap.size 27 #[.int .i64 0, .slice none 0 0, .int .i64 0] from (hb8.block _ HR7.out.lt).trans HR7.out).alloc (.cells #[.int .i64 D, .slice al L.length cl, .int .i64 S] 27))
      have HX8 := Lib.hid (Str.new w8 27 #[.int .i64 D, .slice al L.length cl, .int .i64 S])
      have Ho8 := Lib.hid (ho8.alloc (.cells #[.int .i64 D, .slice al L.length cl, .int .i64 S] 27))
      have Hrd8 := Lib.hid ((Hrd7.out.kept (below_grown hb8) (by simp)).alloc (.cells #[.int .i64 D, .slice al L.length cl, .int .i64 S] 27))
      have Hg8 := Lib.hid (grownBy_trans (grownBy_trans Hg7.out (below_grownR hb8 (some R))) (World.grownBy_alloc _ (.cells #[.int .i64 D, .slice al L.length cl, .int .i64 S] 27) _))
      have hz8' : (w8.alloc (.cells #[.int .i64 D, .slice al L.length cl, .int .i64 S] 27)).heap.size = w8.heap.size + 1 := by simp
      clear ho8 hb8 Hs7 Hc7 HR7 Hrd7 Hg7
      cases ok with
      | true =>
        go_wp2_with fail
        generalize w8.alloc (.cells #[.int .i64 D, .slice al L.length cl, .int .i64 S] 27) = w9 at *
        have lX : w8.heap.size < w9.drew.heap.size := HX8.out.lt
        have lR : w.heap.size < w9.drew.heap.size := HR8.out.lt
        have k0 : w9.drew.cell? ⟨w8.heap.size, 0, none⟩ = some (.int .i64 D) := HX8.out.cell 0 (v := .int .i64 D) rfl
        have k1 : w9.drew.cell? ⟨w8.heap.size, 1, none⟩ = some (.slice al L.length cl) := HX8.out.cell 1 (v := .slice al L.length cl) rfl
        have k2 : w9.drew.cell? ⟨w8.heap.size, 2, none⟩ = some (.int .i64 S) := HX8.out.cell 2 (v := .int .i64 S) rfl
        refine wp_region_L 6 (fun w' => w'.cell? ⟨w8.heap.size, 0, none⟩ = some (.int .i64 D) ∧ w'.cell? ⟨w8.heap.size, 1, none⟩ = some (.slice al L.length cl) ∧ w'.cell? ⟨w8.heap.size, 2, none⟩ = some (.int .i64 S)) (by kernel_rfl) ⟨k0, k1, k2⟩ (fun hH => ?_)
        refine takeL 0 (v := ?va0) rfl (by kernel_rfl) (by kernel_rfl) (by kernel_rfl) (by kernel_rfl) (by kernel_rfl) (fun _ _ _ h => h) hH rfl ?ya0 ?ra0
        case ya0 => intro w hSw; obtain ⟨q0, q1, q2⟩ := hSw; go_simp; try with_reducible rfl
        try simp only [Act.put, List.setIfInBounds_toArray, List.set_cons_zero, List.set_cons_succ]
        refine takeL 1 (v := ?va1) rfl (by kernel_rfl) (by kernel_rfl) (by kernel_rfl) (by kernel_rfl) (by kernel_rfl) (fun _ _ _ h => h) hH rfl ?ya1 ?ra1
        case ya1 => intro w hSw; obtain ⟨q0, q1, q2⟩ := hSw; go_simp; try with_reducible rfl
        try simp only [Act.put, List.setIfInBounds_toArray, List.set_cons_zero, List.set_cons_succ]
        refine takeL 3 (v := ?va3) rfl (by kernel_rfl) (by kernel_rfl) (by kernel_rfl) (by kernel_rfl) (by kernel_rfl) (fun _ _ _ h => h) hH rfl ?ya3 ?ra3
        case ya3 => intro w hSw; obtain ⟨q0, q1, q2⟩ := hSw; go_simp; try with_reducible rfl
        try simp only [Act.put, List.setIfInBounds_toArray, List.set_cons_zero, List.set_cons_succ]
        refine callL 2 rfl (by kernel_rfl) rfl (fun K hK => ?_)
        go_simp
        refine (drawKeys aq cq xs w9.drew hxb (show IntsAt w9.drew aq xs from Hs8.out)).mono ?_
        rintro e wk ⟨vk2, keys2, rfl, hok2, hkl2, hbk⟩
        obtain ⟨ak2, ck2, rfl, _, _⟩ := hok2.ints
        dsimp only
        refine hK.out _ _ ⟨(hbk.cell (p := ⟨_, 0, none⟩) lX).trans k0, (hbk.cell (p := ⟨_, 1, none⟩) lX).trans k1, (hbk.cell (p := ⟨_, 2, none⟩) lX).trans k2⟩ (fun hH => ?_)
        clear hK K
        try simp only [Act.put, List.setIfInBounds_toArray, List.set_cons_zero, List.set_cons_succ]
        have HRk := Lib.hid (show Str wk w.heap.size 27 #[.int .i64 0, .slice none 0 0, .int .i64 0] from (hbk.block _ lR).trans HR8.out)
        have f0 := HRk.out.frozen 0
        have f1 := HRk.out.frozen 1
        have f2 := HRk.out.frozen 2
        have j0 := HRk.out.cell 0 rfl
        have j1 := HRk.out.cell 1 rfl
        have j2 := HRk.out.cell 2 rfl
        refine takeL 4 (v := ?va4) rfl (by kernel_rfl) (by kernel_rfl) (by kernel_rfl) (by kernel_rfl) (by kernel_rfl) (fun _ _ _ h => h) hH rfl ?ya4 ?ra4
        case ya4 => intro w hSw; obtain ⟨q0, q1, q2⟩ := hSw; go_simp; try with_reducible rfl
        try simp only [Act.put, List.setIfInBounds_toArray, List.set_cons_zero, List.set_cons_succ]
        refine takeL 5 (v := ?va5) rfl (by kernel_rfl) (by kernel_rfl) (by kernel_rfl) (by kernel_rfl) (by kernel_rfl) (fun _ _ _ h => h) hH rfl ?ya5 ?ra5
        case ya5 => intro w hSw; obtain ⟨q0, q1, q2⟩ := hSw; go_simp; try with_reducible rfl
        try simp only [Act.put, List.setIfInBounds_toArray, List.set_cons_zero, List.set_cons_succ]
        refine lastL rfl (by kernel_rfl) (by kernel_rfl) (by kernel_rfl) rfl (fun K hK => ?_)
        go_simp
        refine hK.out _ _ ?_
        clear hK K
        try simp only [Act.put, List.setIfInBounds_toArray, List.set_cons_zero, List.set_cons_succ]
        have sF := ((HRk.out.set 0 (.int .i64 D)).set 1 (.slice al L.length cl)).set 2 (.int .i64 S)
        have e0 := sF.cell 0 (v := .int .i64 D) rfl
        have e1 := sF.cell 1 (v := .slice al L.length cl) rfl
        have e2 := sF.cell 2 (v := .int .i64 S) rfl
        clear sF
        have hzk : w9.heap.size ≤ wk.heap.size := hbk.size
        have hgk : w9.grownBy wk (some R) := grownBy_trans (show w9.grownBy w9.drew (some R) from grownBy_drewN (World.grownBy.refl _ _) 1) (below_grownR hbk (some R))
        have Hck := Lib.hid (Hc8.out.kept hgk (.inr (fun e => by have := (Hc8.out.lt R e).1; omega)))
        have Hok := Lib.hid (Ho8.out.kept hgk (.inr (fun e => by have := (Ho8.out.lt R e).1; omega)))
        have Hrk := Lib.hid ((show Rdr w9.drew R q from Hrd8.out.drewN 1).kept (below_grown hbk) (by simp))
        have Hgk := Lib.hid (grownBy_trans Hg8.out hgk)
        have Hkk := Lib.hid hok2
        have hl2 : keys2.length = c.length := hkl2.trans Hxl.out
        have Hl2 := Lib.hid hl2; clear hl2 hkl2 hok2 hgk
        have hcM : ∀ b, (Value.slice ax c.length cx).ownBlock = some b → w1.heap.size ≤ b ∧ b < w5.heap.size := fun b e => Hc5.out.lt b e
        go_wp2
        refine bodyPost_ret (v := .tuple #[.slice ax c.length cx, .slice ak2 keys2.length ck2, .agg #[.int .i64 D, .slice al L.length cl, .int .i64 S]]) (by simp [results, Try.f49, go_sem, e0, e1, e2, Hl2.out, Hxl.out]) rfl ?_
        have hN1 : ∀ b, (Value.slice al L.length cl).ownBlock = some b → w5.heap.size ≤ b ∧ b < w9.heap.size := fun b e => by have := Ho8.out.lt b e; omega
        have hN2 : ∀ b, (Value.slice ak2 keys2.length ck2).ownBlock = some b → w9.heap.size ≤ b ∧ b < wk.heap.size := fun b e => Hkk.out.lt b e
        have n1 : (Value.slice ax c.length cx).ownBlock ≠ some w.heap.size := fun e => by have := hcM _ e; omega
        have n2 : (Value.slice al L.length cl).ownBlock ≠ some w.heap.size := fun e => by have := hN1 _ e; omega
        have n3 : (Value.slice ak2 keys2.length ck2).ownBlock ≠ some w.heap.size := fun e => by have := hN2 _ e; omega
        refine ⟨_, c, _, keys2, _, _, L, _, q, rfl, (((Hck.out.mono (by omega)).set_other n1 0 _).set_other n1 1 _).set_other n1 2 _, hc1, hcl, (((Hkk.out.mono (by omega)).set_other n3 0 _).set_other n3 1 _).set_other n3 2 _, Hl2.out, (((Hok.out.mono (by omega)).set_other n2 0 _).set_other n2 1 _).set_other n2 2 _, by omega, ⟨w5.heap.size, w9.heap.size, fun b e => (hcM b e).2, hN1, fun b e => (hN2 b e).1, by omega⟩, ?_, by omega, ?_⟩
        · exact ((Hrk.out.kept (grownBy_set _ w.heap.size 0 _) (fun g e => by injection e with e; omega)).kept (grownBy_set _ w.heap.size 1 _) (fun g e => by injection e with e; omega)).kept (grownBy_set _ w.heap.size 2 _) (fun g e => by injection e with e; omega)
        · exact grown_row (grown_row (grown_row Hgk.out (grownBy_set _ w.heap.size 0 _) (fun g e => by injection e with e; omega)) (grownBy_set _ w.heap.size 1 _) (fun g e => by injection e with e; omega)) (grownBy_set _ w.heap.size 2 _) (fun g e => by injection e with e; omega)
      | false =>
        go_wp2_with fail
        generalize w8.alloc (.cells #[.int .i64 D, .slice al L.length cl, .int .i64 S] 27) = w9 at *
        refine (drawMembers R q c.length _ (by omega) (by omega) Hrd8.out (by omega)).mono ?_
        rintro e w10 ⟨vm, ms, p10, rfl, ho10, hml, hr10, hp10, hg10⟩
        obtain ⟨am, cm, rfl, _, _⟩ := ho10.ints
        have hz10 := hg10.size
        have Hr10 := Lib.hid hr10; clear hr10
        go_wp2_with fail
        refine (pick_any R 250 p10 _ (by omega) Hr10.out (by omega)).mono ?_
        rintro e w11 ⟨y2, rfl, _, _, hr11, hg11⟩
        have hz11 := hg11.size
        have hg911 := grownBy_trans hg10 hg11
        have sX := HX8.out.kept hg911 (fun e => by injection e with e; omega)
        have f0 := sX.frozen 0
        have f1 := sX.frozen 1
        have f2 := sX.frozen 2
        have k0 := sX.cell 0 rfl
        have k1 := sX.cell 1 rfl
        have k2 := sX.cell 2 rfl
        have sX' := ((sX.set 0 (.int .i64 d)).set 1 (.slice am ms.length cm)).set 2 (.int .i64 y2)
        have hneR : w.heap.size ≠ w8.heap.size := by omega
        have HR11 := Lib.hid ((((HR8.out.kept hg911 (fun e => by injection e with e; omega)).other hneR 0 (.int .i64 d)).other hneR 1 (.slice am ms.length cm)).other hneR 2 (.int .i64 y2))
        have hgs : ∀ (v0 v1 v2 : Value), w11.grownBy (((w11.setCell ⟨w8.heap.size, 0, none⟩ v0).setCell ⟨w8.heap.size, 1, none⟩ v1).setCell ⟨w8.heap.size, 2, none⟩ v2) (some w8.heap.size) := fun v0 v1 v2 => grownBy_trans (grownBy_trans (grownBy_set _ _ 0 _) (grownBy_set _ _ 1 _)) (grownBy_set _ _ 2 _)
        have hgs' := hgs (.int .i64 d) (.slice am ms.length cm) (.int .i64 y2)
        have Hc11 := Lib.hid ((Hc8.out.kept hg911 (.inr (fun e => by have := (Hc8.out.lt R e).1; omega))).kept hgs' (.inr (fun e => by have := (Hc5.out.lt _ e).2; omega)))
        have Ho11 := Lib.hid ((ho10.kept hg11 (.inr (fun e => by have := (ho10.lt R e).1; omega))).kept hgs' (.inr (fun e => by have := (ho10.lt _ e).1; omega)))
        have Hs11 := Lib.hid ((Hs8.out.grown hg911 (fun b e h => by have := HRl.out _ (ownBlock_slice b e); injection h with h; omega)).grown hgs' (fun b e h => by have := HSl.out _ (ownBlock_slice b e); injection h with h; omega))
        have Hrd11 := Lib.hid (hr11.kept hgs' (fun g e => by injection e with e; omega))
        have Hg11 := Lib.hid (grown_row (grownBy_trans Hg8.out hg911) hgs' (fun g e => by injection e with e; omega))
        have hzs : (((w11.setCell ⟨w8.heap.size, 0, none⟩ (.int .i64 d)).setCell ⟨w8.heap.size, 1, none⟩ (.slice am ms.length cm)).setCell ⟨w8.heap.size, 2, none⟩ (.int .i64 y2)).heap.size = w11.heap.size := by simp
        have HX11 := Lib.hid sX'; clear sX sX' hgs hgs' hg10 hg11 hg911 ho10 hr11
        go_wp2_with fail
        generalize (((w11.setCell ⟨w8.heap.size, 0, none⟩ (.int .i64 d)).setCell ⟨w8.heap.size, 1, none⟩ (.slice am ms.length cm)).setCell ⟨w8.heap.size, 2, none⟩ (.int .i64 y2)) = w12 at *
        clear f0 f1 f2 k0 k1 k2
        have lX : w8.heap.size < w12.drew.heap.size := HX11.out.lt
        have lR : w.heap.size < w12.drew.heap.size := HR11.out.lt
        have k0 : w12.drew.cell? ⟨w8.heap.size, 0, none⟩ = some (.int .i64 d) := HX11.out.cell 0 (v := .int .i64 d) rfl
        have k1 : w12.drew.cell? ⟨w8.heap.size, 1, none⟩ = some (.slice am ms.length cm) := HX11.out.cell 1 (v := .slice am ms.length cm) rfl
        have k2 : w12.drew.cell? ⟨w8.heap.size, 2, none⟩ = some (.int .i64 y2) := HX11.out.cell 2 (v := .int .i64 y2) rfl
        refine wp_region_L 6 (fun w' => w'.cell? ⟨w8.heap.size, 0, none⟩ = some (.int .i64 d) ∧ w'.cell? ⟨w8.heap.size, 1, none⟩ = some (.slice am ms.length cm) ∧ w'.cell? ⟨w8.heap.size, 2, none⟩ = some (.int .i64 y2)) (by kernel_rfl) ⟨k0, k1, k2⟩ (fun hH => ?_)
        refine takeL 0 (v := ?vb0) rfl (by kernel_rfl) (by kernel_rfl) (by kernel_rfl) (by kernel_rfl) (by kernel_rfl) (fun _ _ _ h => h) hH rfl ?yb0 ?rb0
        case yb0 => intro w hSw; obtain ⟨q0, q1, q2⟩ := hSw; go_simp; try with_reducible rfl
        try simp only [Act.put, List.setIfInBounds_toArray, List.set_cons_zero, List.set_cons_succ]
        refine takeL 1 (v := ?vb1) rfl (by kernel_rfl) (by kernel_rfl) (by kernel_rfl) (by kernel_rfl) (by kernel_rfl) (fun _ _ _ h => h) hH rfl ?yb1 ?rb1
        case yb1 => intro w hSw; obtain ⟨q0, q1, q2⟩ := hSw; go_simp; try with_reducible rfl
        try simp only [Act.put, List.setIfInBounds_toArray, List.set_cons_zero, List.set_cons_succ]
        refine takeL 3 (v := ?vb3) rfl (by kernel_rfl) (by kernel_rfl) (by kernel_rfl) (by kernel_rfl) (by kernel_rfl) (fun _ _ _ h => h) hH rfl ?yb3 ?rb3
        case yb3 => intro w hSw; obtain ⟨q0, q1, q2⟩ := hSw; go_simp; try with_reducible rfl
        try simp only [Act.put, List.setIfInBounds_toArray, List.set_cons_zero, List.set_cons_succ]
        refine callL 2 rfl (by kernel_rfl) rfl (fun K hK => ?_)
        go_simp
        refine (drawKeys aq cq xs w12.drew hxb (show IntsAt w12.drew aq xs from Hs11.out)).mono ?_
        rintro e wk ⟨vk2, keys2, rfl, hok2, hkl2, hbk⟩
        obtain ⟨ak2, ck2, rfl, _, _⟩ := hok2.ints
        dsimp only
        refine hK.out _ _ ⟨(hbk.cell (p := ⟨_, 0, none⟩) lX).trans k0, (hbk.cell (p := ⟨_, 1, none⟩) lX).trans k1, (hbk.cell (p := ⟨_, 2, none⟩) lX).trans k2⟩ (fun hH => ?_)
        clear hK K
        try simp only [Act.put, List.setIfInBounds_toArray, List.set_cons_zero, List.set_cons_succ]
        have HRk := Lib.hid (show Str wk w.heap.size 27 #[.int .i64 0, .slice none 0 0, .int .i64 0] from (hbk.block _ lR).trans HR11.out)
        have f0 := HRk.out.frozen 0
        have f1 := HRk.out.frozen 1
        have f2 := HRk.out.frozen 2
        have j0 := HRk.out.cell 0 rfl
        have j1 := HRk.out.cell 1 rfl
        have j2 := HRk.out.cell 2 rfl
        refine takeL 4 (v := ?vb4) rfl (by kernel_rfl) (by kernel_rfl) (by kernel_rfl) (by kernel_rfl) (by kernel_rfl) (fun _ _ _ h => h) hH rfl ?yb4 ?rb4
        case yb4 => intro w hSw; obtain ⟨q0, q1, q2⟩ := hSw; go_simp; try with_reducible rfl
        try simp only [Act.put, List.setIfInBounds_toArray, List.set_cons_zero, List.set_cons_succ]
        refine takeL 5 (v := ?vb5) rfl (by kernel_rfl) (by kernel_rfl) (by kernel_rfl) (by kernel_rfl) (by kernel_rfl) (fun _ _ _ h => h) hH rfl ?yb5 ?rb5
        case yb5 => intro w hSw; obtain ⟨q0, q1, q2⟩ := hSw; go_simp; try with_reducible rfl
        try simp only [Act.put, List.setIfInBounds_toArray, List.set_cons_zero, List.set_cons_succ]
        refine lastL rfl (by kernel_rfl) (by kernel_rfl) (by kernel_rfl) rfl (fun K hK => ?_)
        go_simp
        refine hK.out _ _ ?_
        clear hK K
        try simp only [Act.put, List.setIfInBounds_toArray, List.set_cons_zero, List.set_cons_succ]
        have sF := ((HRk.out.set 0 (.int .i64 d)).set 1 (.slice am ms.length cm)).set 2 (.int .i64 y2)
        have e0 := sF.cell 0 (v := .int .i64 d) rfl
        have e1 := sF.cell 1 (v := .slice am ms.length cm) rfl
        have e2 := sF.cell 2 (v := .int .i64 y2) rfl
        clear sF
        have hzk : w12.heap.size ≤ wk.heap.size := hbk.size
        have hgk : w12.grownBy wk (some R) := grownBy_trans (show w12.grownBy w12.drew (some R) from grownBy_drewN (World.grownBy.refl _ _) 1) (below_grownR hbk (some R))
        have Hck := Lib.hid (Hc11.out.kept hgk (.inr (fun e => by have := (Hc11.out.lt R e).1; omega)))
        have Hok := Lib.hid (Ho11.out.kept hgk (.inr (fun e => by have := (Ho11.out.lt R e).1; omega)))
        have Hrk := Lib.hid ((show Rdr w12.drew R (p10 + 1) from Hrd11.out.drewN 1).kept (below_grown hbk) (by simp))
        have Hgk := Lib.hid (grownBy_trans Hg11.out hgk)
        have Hkk := Lib.hid hok2
        have hl2 : keys2.length = c.length := hkl2.trans Hxl.out
        have Hl2 := Lib.hid hl2; clear hl2 hkl2 hok2 hgk
        have hcM : ∀ b, (Value.slice ax c.length cx).ownBlock = some b → w1.heap.size ≤ b ∧ b < w5.heap.size := fun b e => Hc5.out.lt b e
        go_wp2
        refine bodyPost_ret (v := .tuple #[.slice ax c.length cx, .slice ak2 keys2.length ck2, .agg #[.int .i64 d, .slice am ms.length cm, .int .i64 y2]]) (by simp [results, Try.f49, go_sem, e0, e1, e2, Hl2.out, Hxl.out]) rfl ?_
        have hN1 : ∀ b, (Value.slice am ms.length cm).ownBlock = some b → w5.heap.size ≤ b ∧ b < w12.heap.size := fun b e => by have := Ho11.out.lt b e; omega
        have hN2 : ∀ b, (Value.slice ak2 keys2.length ck2).ownBlock = some b → w12.heap.size ≤ b ∧ b < wk.heap.size := fun b e => Hkk.out.lt b e
        have n1 : (Value.slice ax c.length cx).ownBlock ≠ some w.heap.size := fun e => by have := hcM _ e; omega
        have n2 : (Value.slice am ms.length cm).ownBlock ≠ some w.heap.size := fun e => by have := hN1 _ e; omega
        have n3 : (Value.slice ak2 keys2.length ck2).ownBlock ≠ some w.heap.size := fun e => by have := hN2 _ e; omega
        refine ⟨_, c, _, keys2, _, _, ms, _, (p10 + 1), rfl, (((Hck.out.mono (by omega)).set_other n1 0 _).set_other n1 1 _).set_other n1 2 _, hc1, hcl, (((Hkk.out.mono (by omega)).set_other n3 0 _).set_other n3 1 _).set_other n3 2 _, Hl2.out, (((Hok.out.mono (by omega)).set_other n2 0 _).set_other n2 1 _).set_other n2 2 _, by omega, ⟨w5.heap.size, w12.heap.size, fun b e => (hcM b e).2, hN1, fun b e => (hN2 b e).1, by omega⟩, ?_, by omega, ?_⟩
        · exact ((Hrk.out.kept (grownBy_set _ w.heap.size 0 _) (fun g e => by injection e with e; omega)).kept (grownBy_set _ w.heap.size 1 _) (fun g e => by injection e with e; omega)).kept (grownBy_set _ w.heap.size 2 _) (fun g e => by injection e with e; omega)
        · exact grown_row (grown_row (grown_row Hgk.out (grownBy_set _ w.heap.size 0 _) (fun g e => by injection e with e; omega)) (grownBy_set _ w.heap.size 1 _) (fun g e => by injection e with e; omega)) (grownBy_set _ w.heap.size 2 _) (fun g e => by injection e with e; omega)

end Go.Proofs.Ytilkiiflcdmnpab
