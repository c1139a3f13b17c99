/- impl's GraphPast, by a walk of its text; conditions: lists are shorter than 2^40 (a graph: 2^20). -/
import Derived.Test.YtejpoeejhmgphaaRows
import Derived.Test.YtejpoeejhmgphaaGpa
import Derived.Test.YtejpoeejhmgphaaGp9
import Derived.Test.YtejpoeejhmgphaaGvy
namespace Go.Proofs.Ytejpoeejhmgphaa
open Go.RowKit

theorem own_ne_str {E t : TypeId} {w : World} {B M : Nat} {v : Value} {xs : List Int} {vs : Array Value} (h : Own E w B v xs) (s : Str w M t vs) (hne : E ≠ t) : v.ownBlock ≠ some M := by
  intro e
  rcases h.2 with ⟨rfl, _⟩ | ⟨g, cap, cur, rfl, _, hg, _⟩
  · cases e
  · cases e
    have := hg.symm.trans s
    simp at this
    exact hne this.2
theorem pair_uni {g : List Vx} (h : Srt g) {i j : Nat} (hi : i < g.length) (hj : j < g.length) (hr : g[i].r = g[j].r) (ha : g[i].a = g[j].a) : i = j := by
  have hs := List.pairwise_iff_getElem.1 h
  rcases Nat.lt_trichotomy i j with h1 | h1 | h1
  · have := befB_iff.1 (hs i j hi hj h1); omega
  · exact h1
  · have := befB_iff.1 (hs j i hj hi h1); omega
/-- The marks are the past, as the reference reckons it. -/
theorem marks_past {c : List Int} {g : List Vx} (h : graphB c g = true) {a : Nat} (ha : a < g.length) {bs : Nat → Bool} (hm : Mkd g g[a] (fun _ => false) bs) (hr : ∀ z ∈ g, z.r ≤ g[a].r ∨ True) : ∀ j (hj : j < g.length), bs (plM g[j].r g[j].a) = (pastB g a).getD j false := by
  have hs := graph_sorted h
  obtain ⟨hcl, hca, hcb⟩ := past_closed h ha
  have hfind : ∀ j (hj : j < g.length), findZ g g[j].r g[j].a = j := fun j hj => by
    obtain ⟨k, hk, e, e2⟩ := findZ_mem hs (List.getElem_mem hj)
    rw [e, pair_uni hs hk hj (by rw [e2]) (by rw [e2])]
  have h1 : ∀ j (hj : j < g.length), bs (plM g[j].r g[j].a) = true → (pastB g a).getD j false = true := by
    intro j hj hb
    rcases hm.only (fun z => ∃ i, ∃ hi : i < g.length, g[i] = z ∧ (pastB g a).getD i false = true) (fun y hy hP p hp z hz er ea => by
      obtain ⟨i, hi, rfl, hb⟩ := hP
      obtain ⟨k, hk, rfl⟩ := List.mem_iff_getElem.1 hp
      obtain ⟨j, hj, e, e2⟩ := findZ_mem hs hz
      rw [er, ea] at e
      have := hcl i hi (Nat.zero_le _) hb k hk
      rw [e, Int.toNat_natCast] at this
      exact ⟨j, hj, e2, this⟩) ⟨a, ha, rfl, hca⟩ g[j] (List.getElem_mem hj) hb with h0 | ⟨i, hi, e, hb⟩
    · cases h0
    · rwa [pair_uni hs hi hj (by rw [e]) (by rw [e])] at hb
  have h2 : ∀ n j, (hj : j < g.length) → g.length - j ≤ n → (pastB g a).getD j false = true → bs (plM g[j].r g[j].a) = true ∧ g[j].r ≤ g[a].r := by
    intro n
    induction n with
    | zero => intro j hj hn; omega
    | succ n ih =>
      intro j hj hn hb
      by_cases e : j = a
      · subst e; exact ⟨hm.it, Int.le_refl _⟩
      · obtain ⟨i, hi, hji, hbi, _, er, ep⟩ := past_least h ha j hb e
        obtain ⟨i1, i2⟩ := ih i hi (by omega) hbi
        have := hm.cls g[i] (List.getElem_mem hi) i2 i1 g[j].a ep
        rw [show g[i].r - 1 = g[j].r by omega] at this
        exact ⟨this, by omega⟩
  intro j hj
  cases hb : (pastB g a).getD j false with
  | true => exact (h2 (g.length - j) j hj (Nat.le_refl _) hb).1
  | false =>
    cases hb2 : bs (plM g[j].r g[j].a) with
    | false => rfl
    | true => rw [h1 j hj hb2] at hb; cases hb
theorem pastB_none (g : List Vx) : idxTo (pastB g (-1)) g.length = [] := by
  unfold idxTo pastB
  rw [if_pos (by omega)]
  rw [List.map_eq_nil_iff, List.filter_eq_nil_iff]
  intro i hi
  have hi' := List.mem_range.1 hi
  simp [List.getD, hi']

set_option maxRecDepth 8000 in
set_option maxHeartbeats 4000000 in
theorem impl_GraphPast' (ac : Option Addr) (capc : Nat) (c : List Int) (g : List Vx) (v : Value) (fp : List Nat) (r a : Int) (w : World) (hn : c.length ≤ 1099511627776) (hbig : g.length ≤ 1048576) (hps : ∀ x ∈ g, x.ps.length ≤ 1099511627776) (hc : IntsAt w ac c) (hg : Gr w g v fp) :
    Calls Try.prog 21 #[.slice ac c.length capc, v, .int .i64 r, .int .i64 a] w fun e w' => ∃ u, e = .returned u ∧ Own 3 w' w.heap.size u (gpZ c g r a) ∧ Below w.heap.size w w' := by
  have hb0 : Below w.heap.size w (w.alloc (.cells #[] 3)) := (Below.refl _ _).alloc (Nat.le_refl _) _
  have ho0 := own_empty 3 w (Nat.le_refl w.heap.size)
  have Ho0 := Lib.hid ho0; clear ho0
  have Hb0 := Lib.hid hb0
  have hc0 := hc.below hb0
  have hg0 := hg.under hb0
  cases hgb : graphB c g with
  | false =>
    have Hz := Lib.hid (show gpZ c g r a = [] by unfold gpZ; rw [hgb]; rfl)
    have H := Lib.hid (graphOf_no ac capc c g v fp _ hn hbig hps hc0 hg0 hgb)
    clear hc hg hc0 hg0 hb0 hps hgb
    go_enter Try.func21, Try.ntmps21
    go_wp2_with fail
    generalize w.alloc (.cells #[] 3) = W0 at *
    refine H.out.mono ?_
    rintro e w1 ⟨rfl, hb1⟩
    have Hb1 := Lib.hid (below_step Hb0.out Hb0.out.size hb1)
    have Ho1 := Lib.hid (Ho0.out.below hb1)
    clear hb1
    go_wp2
    go_ret
    exact ⟨_, rfl, by rw [Hz.out]; exact Ho1.out, Hb1.out⟩
  | true =>
  have hv : validB c = true := by have h := hgb; unfold graphB at h; simp only [Bool.and_eq_true] at h; exact h.1
  have hc7 := (validB_len hv).2
  have hsrt := graph_sorted hgb
  have hvx := graph_vtx hgb
  have H := Lib.hid (graphOf_yes ac capc c g v fp _ hn hbig hps hc0 hg0 hgb)
  have Hz := Lib.hid (show gpZ c g r a = idxTo (pastB g (findZ g r a)) g.length by unfold gpZ; rw [hgb]; rfl)
  have Hzn := Lib.hid (show (∀ y ∈ g, ¬ (y.r = r ∧ y.a = a)) → gpZ c g r a = [] from fun h => by rw [Hz.out, findZ_none h, pastB_none])
  have hpl : ∀ y ∈ g, inPl y := fun y hy => vtx_pl hv (hvx y hy)
  have haut : ∀ y ∈ g, 0 ≤ y.a ∧ y.a < (c.length : Int) := fun y hy => by have := vtx_author (hvx y hy); exact this
  have hpar : Par g := fun y hy p hp => by
    obtain ⟨i, hi, rfl⟩ := List.mem_iff_getElem.1 hy
    obtain ⟨k, hk, rfl⟩ := List.mem_iff_getElem.1 hp
    obtain ⟨j, hj, e⟩ := graph_parents hgb i hi k hk
    rcases findZ_cases g (g[i].r - 1) g[i].ps[k] with ⟨e', _⟩ | ⟨j', hj', e', hs, _⟩
    · omega
    · exact ⟨g[j'], List.getElem_mem hj', (of_decide_eq_true hs).1, (of_decide_eq_true hs).2⟩
  have hr00 : ∀ y ∈ g, y.r = 0 → y.ps.length = 0 := fun y hy e => vtx_r0 (hvx y hy) e
  have HMk := Lib.hid (fun (wl : World) (hi G : Nat) (h : Nat → Value) (M : Nat) hL hM => mark_past (w.alloc (.cells #[] 3)) wl hi G (.slice ac c.length capc) h g M hL hM hsrt hpl hpar hr00 hps)
  have Hmp := Lib.hid (fun (k : Nat) (hk : k < g.length) (bs : Nat → Bool) => marks_past (bs := bs) hgb hk)
  have Hpl := Lib.hid hpl
  have Haut := Lib.hid haut
  have Hsrt := Lib.hid hsrt
  have Hg := Lib.hid hg
  have HP := Lib.hid hps
  clear hpl haut hpar hr00 hsrt hvx hc hc0 hg0 hb0 hg hps hgb hv
  obtain ⟨va, vc, rfl⟩ := Hg.out.slice
  go_enter Try.func21, Try.ntmps21
  go_wp2_with fail
  generalize w.alloc (.cells #[] 3) = W0 at *
  refine H.out.mono ?_
  rintro e w1 ⟨G, rfl, hb1, hG, hi, h, hL⟩
  have HL := Lib.hid hL
  have HB1 := Lib.hid hb1
  have Hb1 := Lib.hid (below_step Hb0.out Hb0.out.size hb1)
  have Ho1 := Lib.hid (Ho0.out.below hb1)
  clear hb1 hL
  go_wp2_with fail
  refine (impl_isRound r w1).mono ?_
  rintro e w2 ⟨rfl, rfl⟩
  cases hr : rngB r with
  | false =>
    have Hzz := Lib.hid (Hzn.out fun y hy e => by
      have := Hpl.out y hy
      unfold inPl at this
      rw [← e.1] at hr
      rw [show rngB y.r = true from decide_eq_true ⟨this.1, this.2.1⟩] at hr; cases hr)
    clear hr
    go_wp2
    go_ret
    exact ⟨_, rfl, by rw [Hzz.out]; exact Ho1.out, Hb1.out⟩
  | true =>
  have hrr : 0 ≤ r ∧ r ≤ 30 := of_decide_eq_true hr
  obtain ⟨hr0, hr1⟩ := hrr
  by_cases ha0 : 0 ≤ a
  case neg =>
    have Hzz := Lib.hid (Hzn.out fun y hy e => by have := Haut.out y hy; omega)
    have ha0' : a < 0 := by omega
    go_wp2
    go_ret
    exact ⟨_, rfl, by rw [Hzz.out]; exact Ho1.out, Hb1.out⟩
  by_cases ha1 : a < (c.length : Int)
  case neg =>
    have Hzz := Lib.hid (Hzn.out fun y hy e => by have := Haut.out y hy; omega)
    have ha1' : (c.length : Int) ≤ a := by omega
    go_wp2
    go_ret
    exact ⟨_, rfl, by rw [Hzz.out]; exact Ho1.out, Hb1.out⟩
  have ha1' : ¬ (c.length : Int) ≤ a := by omega
  have hA0 : decide (a < 0) = false := decide_eq_false (by omega)
  have hA1 : decide ((c.length : Int) ≤ a) = false := decide_eq_false (by omega)
  have ha6 : a ≤ 6 := by omega
  obtain ⟨o1, ho1, ho2⟩ := run_place G r a hr0 hr1 ha0 ha6
  have gp := HL.out.cell (plN_bd hr1 ha6).2
  by_cases hfound : ∃ y ∈ g, y.r = r ∧ y.a = a
  case neg =>
    have hno : ∀ y ∈ g, ¬ (y.r = r ∧ y.a = a) := fun y hy e => hfound ⟨y, hy, e⟩
    have Hzz := Lib.hid (Hzn.out hno)
    rw [HL.out.non r a hr0 hr1 ha0 ha6 hno] at gp
    clear hfound hno
    go_wp2
    go_ret
    exact ⟨_, rfl, by rw [Hzz.out]; exact Ho1.out, Hb1.out⟩
  obtain ⟨y, hy, er, ea⟩ := hfound
  obtain ⟨kk, hkk, ek, eg⟩ := findZ_mem Hsrt.out hy
  obtain ⟨q, hq, nd⟩ := HL.out.has y hy
  have Hhq := Lib.hid hq
  rw [er, ea] at hq ek
  rw [hq] at gp
  unfold ptrV at gp
  have Hek := Lib.hid ek
  have Heg := Lib.hid eg
  have hz72 : Try.zeroCells72 = marksV fun _ => false := by kernel_rfl
  have hbM : Below w1.heap.size w1 (w1.alloc (.cells Try.zeroCells72 72)) := (Below.refl _ _).alloc (Nat.le_refl _) _
  have gpM : (w1.alloc (.cells Try.zeroCells72 72)).cell? ⟨G, plN r a, none⟩ = some (.pointer (some ⟨q, 0, none⟩)) := (hbM.cell (p := ⟨G, plN r a, none⟩) (Nat.lt_of_lt_of_le HL.out.lt HL.out.le)).trans gp
  have sM := Str.new w1 72 Try.zeroCells72
  rw [hz72] at sM
  have HMc := Lib.hid (HMk.out w1 hi G h w1.heap.size HL.out HL.out.le y.r.toNat y q (w1.alloc (.cells Try.zeroCells72 72)) (fun _ => false) hy rfl Hhq.out (below_rowP hbM _) (by rw [hz72]; exact sM) (fun z _ _ hb => by cases hb))
  have HbM := Lib.hid (below_step Hb1.out Hb1.out.size hbM)
  have HoM := Lib.hid (Ho1.out.below hbM)
  have hlM : w.heap.size < w1.heap.size := by
    have := Hb0.out.size
    have h2 := HB1.out.size
    have h3 := (Ho0.out.lt w.heap.size rfl).2
    omega
  have Hgy := Lib.hid (fun bs (h : Mkd g y (fun _ => false) bs) => Hmp.out kk hkk bs (by rw [Heg.out]; exact h) (fun _ _ => .inr trivial))
  clear nd hq ek eg er ea hz72 hbM sM Hmp
  go_wp2_with fail
  refine HMc.out.mono ?_
  rintro e w3 ⟨rfl, hg3, bs, hs3, hmk⟩
  have Hp := Lib.hid (Hgy.out bs hmk)
  have Hb3 := Lib.hid (HbM.out.grown hg3 HbM.out.size (fun g e => by cases e; omega))
  have Ho3 := Lib.hid (HoM.out.kept hg3 (.inr (by intro e; simp [Value.ownBlock] at e; omega)))
  have Hs3 := Lib.hid hs3
  clear hg3 hs3 hmk gp gpM
  go_wp2_with fail
  go_loopw [9, 62] (fun v i wr => ∃ k : Nat, k ≤ g.length ∧ i = .int .i64 k ∧ Own 3 wr w.heap.size v (idxTo (pastB g kk) k) ∧ Str wr w1.heap.size 72 (marksV bs) ∧ Below w.heap.size w wr) (fun _ i _ => g.length - (intOf i).toNat)
  case atStart => exact ⟨0, Nat.zero_le _, rfl, Ho3.out, Hs3.out, Hb3.out⟩
  case round =>
    obtain ⟨k, hk, rfl, hown, hsm, hbel⟩ := hrel
    have Hown := Lib.hid hown; clear hown
    have Hbel := Lib.hid hbel; clear hbel
    by_cases hlt : k < g.length
    · obtain ⟨b, off, rfl, hb, hat⟩ := (Hg.out.under Hbel.out).at (by omega)
      obtain ⟨c0, c1, ⟨pa, pc, c2, _⟩, c3⟩ := hat k hlt
      have ip := Hpl.out _ (List.getElem_mem hlt)
      unfold inPl at ip
      obtain ⟨o3, hm1, hm2⟩ := run_mark w1.heap.size g[k].r g[k].a ip.1 ip.2.1 ip.2.2.1 ip.2.2.2
      have hpk := Hp.out k hlt
      have hbA : Below wr.heap.size wr (wr.alloc (.cells #[.int .i64 g[k].r, .int .i64 g[k].a, .slice pa g[k].ps.length pc, .int .i64 g[k].d] 30)) := (Below.refl _ _).alloc (Nat.le_refl _) _
      have s0 := Str.new wr 30 #[.int .i64 g[k].r, .int .i64 g[k].a, .slice pa g[k].ps.length pc, .int .i64 g[k].d]
      have k0 := s0.cell 0 (v := .int .i64 g[k].r) rfl
      have k1 := s0.cell 1 (v := .int .i64 g[k].a) rfl
      have hsA := hsm.alloc (.cells #[.int .i64 g[k].r, .int .i64 g[k].a, .slice pa g[k].ps.length pc, .int .i64 g[k].d] 30)
      have em := hsA.cell (plM g[k].r g[k].a) (v := .bool (bs (plM g[k].r g[k].a))) (arrP_get (plM_bd ip.2.1 ip.2.2.2))
      rw [hpk] at em
      have HbA := Lib.hid (below_step Hbel.out Hbel.out.size hbA)
      have HoA := Lib.hid (Hown.out.below hbA)
      have HsA := Lib.hid hsA
      clear hat hbA s0 hsA hsm ip hpk
      generalize g[k] = x at *
      obtain ⟨xr, xa, xp, xd⟩ := x
      dsimp only at *
      cases hbv : (pastB g kk).getD k false with
      | true =>
        rw [hbv] at em
        have Hs := Lib.hid (idxTo_yes hbv)
        have hl := idxTo_len (pastB g kk) k
        clear hbv
        generalize idxTo (pastB g kk) k = out at *
        go_wp2_with fail
        generalize wr.alloc (.cells #[.int .i64 xr, .int .i64 xa, .slice pa xp.length pc, .int .i64 xd] 30) = wB at *
        clear c0 c1 c2 c3
        refine wp_region_held_drew (S := fun w' => w'.cell? ⟨wr.heap.size, 0, none⟩ = some (.int .i64 xr) ∧ w'.cell? ⟨wr.heap.size, 1, none⟩ = some (.int .i64 xa) ∧ w'.cell? ⟨w1.heap.size, plM xr xa, none⟩ = some (.bool true)) (by kernel_rfl) ⟨k0, k1, em⟩ (fun hH => ?_)
        refine takeH 0 (v := ?va0) rfl (by kernel_rfl) (by kernel_rfl) (by kernel_rfl) (fun _ _ _ h => h) hH rfl ?ya0 ?ra0
        case ya0 => intro W hSw; go_simp; try with_reducible rfl
        try simp only [Act.put, List.setIfInBounds_toArray, List.set_cons_zero, List.set_cons_succ]
        refine takeH 1 (v := ?va1) rfl (by kernel_rfl) (by kernel_rfl) (by kernel_rfl) (fun _ _ _ h => h) hH rfl ?ya1 ?ra1
        case ya1 => intro W hSw; go_simp; try with_reducible rfl
        try simp only [Act.put, List.setIfInBounds_toArray, List.set_cons_zero, List.set_cons_succ]
        refine takeH 2 (v := ?va2) rfl (by kernel_rfl) (by kernel_rfl) (by kernel_rfl) (fun _ _ _ h => h) hH rfl ?ya2 ?ra2
        case ya2 => intro W hSw; go_simp; try with_reducible rfl
        try simp only [Act.put, List.setIfInBounds_toArray, List.set_cons_zero, List.set_cons_succ]
        refine takeH 3 (v := ?va3) rfl (by kernel_rfl) (by kernel_rfl) (by kernel_rfl) (fun _ _ _ h => h) hH rfl ?ya3 ?ra3
        case ya3 => intro W hSw; go_simp; try with_reducible rfl
        try simp only [Act.put, List.setIfInBounds_toArray, List.set_cons_zero, List.set_cons_succ]
        refine takeH 4 (v := ?va4) rfl (by kernel_rfl) (by kernel_rfl) (by kernel_rfl) (fun _ _ _ h => h) hH rfl ?ya4 ?ra4
        case ya4 => intro W hSw; go_simp; try with_reducible rfl
        try simp only [Act.put, List.setIfInBounds_toArray, List.set_cons_zero, List.set_cons_succ]
        refine takeH 5 (v := ?va5) rfl (by kernel_rfl) (by kernel_rfl) (by kernel_rfl) (fun _ _ _ h => h) hH rfl ?ya5 ?ra5
        case ya5 => intro W hSw; go_simp; try with_reducible rfl
        try simp only [Act.put, List.setIfInBounds_toArray, List.set_cons_zero, List.set_cons_succ]
        refine takeH 6 (v := ?va6) rfl (by kernel_rfl) (by kernel_rfl) (by kernel_rfl) (fun _ _ _ h => h) hH rfl ?ya6 ?ra6
        case ya6 => intro W hSw; go_simp; try with_reducible rfl
        try simp only [Act.put, List.setIfInBounds_toArray, List.set_cons_zero, List.set_cons_succ]
        refine wpAnyH_done (by kernel_rfl) ?_ _
        try simp only [Act.put]
        have hBd : w.heap.size ≤ wB.drew.heap.size := HbA.out.size
        have HoD := Lib.hid (show Own 3 wB.drew w.heap.size _ out from HoA.out)
        have HbD := Lib.hid HbA.out.drew
        have HsD := Lib.hid (show Str wB.drew w1.heap.size 72 (marksV bs) from HsA.out)
        generalize wB.drew = wC at *
        clear hH k0 k1 em
        go_wp2_with (at_builtin; refine wpList_push TIg rfl (.tmp 74) (.tmp 76) rfl w.heap.size _ out _ rfl HoD.out (by omega) rfl hBd ?_; intro v8 w8 hown8 hg8)
        go_roundw
        case rel => exact ⟨k + 1, by omega, by go_num, by rw [Hs.out]; exact hown8, HsD.out.kept hg8 (fun e => own_ne_str HoD.out HsD.out (by decide) e.symm), HbD.out.grown hg8 hBd (fun g e => (HoD.out.lt g e).1)⟩
        case measure => simp [intOf]; omega
      | false =>
        rw [hbv] at em
        have Hs := Lib.hid (idxTo_no hbv)
        clear hbv
        go_wp2_with fail
        generalize wr.alloc (.cells #[.int .i64 xr, .int .i64 xa, .slice pa xp.length pc, .int .i64 xd] 30) = wB at *
        clear c0 c1 c2 c3
        refine wp_region_held_drew (S := fun w' => w'.cell? ⟨wr.heap.size, 0, none⟩ = some (.int .i64 xr) ∧ w'.cell? ⟨wr.heap.size, 1, none⟩ = some (.int .i64 xa) ∧ w'.cell? ⟨w1.heap.size, plM xr xa, none⟩ = some (.bool false)) (by kernel_rfl) ⟨k0, k1, em⟩ (fun hH => ?_)
        refine takeH 0 (v := ?vb0) rfl (by kernel_rfl) (by kernel_rfl) (by kernel_rfl) (fun _ _ _ h => h) hH rfl ?yb0 ?rb0
        case yb0 => intro W hSw; go_simp; try with_reducible rfl
        try simp only [Act.put, List.setIfInBounds_toArray, List.set_cons_zero, List.set_cons_succ]
        refine takeH 1 (v := ?vb1) rfl (by kernel_rfl) (by kernel_rfl) (by kernel_rfl) (fun _ _ _ h => h) hH rfl ?yb1 ?rb1
        case yb1 => intro W hSw; go_simp; try with_reducible rfl
        try simp only [Act.put, List.setIfInBounds_toArray, List.set_cons_zero, List.set_cons_succ]
        refine takeH 2 (v := ?vb2) rfl (by kernel_rfl) (by kernel_rfl) (by kernel_rfl) (fun _ _ _ h => h) hH rfl ?yb2 ?rb2
        case yb2 => intro W hSw; go_simp; try with_reducible rfl
        try simp only [Act.put, List.setIfInBounds_toArray, List.set_cons_zero, List.set_cons_succ]
        refine takeH 3 (v := ?vb3) rfl (by kernel_rfl) (by kernel_rfl) (by kernel_rfl) (fun _ _ _ h => h) hH rfl ?yb3 ?rb3
        case yb3 => intro W hSw; go_simp; try with_reducible rfl
        try simp only [Act.put, List.setIfInBounds_toArray, List.set_cons_zero, List.set_cons_succ]
        refine takeH 4 (v := ?vb4) rfl (by kernel_rfl) (by kernel_rfl) (by kernel_rfl) (fun _ _ _ h => h) hH rfl ?yb4 ?rb4
        case yb4 => intro W hSw; go_simp; try with_reducible rfl
        try simp only [Act.put, List.setIfInBounds_toArray, List.set_cons_zero, List.set_cons_succ]
        refine takeH 5 (v := ?vb5) rfl (by kernel_rfl) (by kernel_rfl) (by kernel_rfl) (fun _ _ _ h => h) hH rfl ?yb5 ?rb5
        case yb5 => intro W hSw; go_simp; try with_reducible rfl
        try simp only [Act.put, List.setIfInBounds_toArray, List.set_cons_zero, List.set_cons_succ]
        refine takeH 6 (v := ?vb6) rfl (by kernel_rfl) (by kernel_rfl) (by kernel_rfl) (fun _ _ _ h => h) hH rfl ?yb6 ?rb6
        case yb6 => intro W hSw; go_simp; try with_reducible rfl
        try simp only [Act.put, List.setIfInBounds_toArray, List.set_cons_zero, List.set_cons_succ]
        refine wpAnyH_done (by kernel_rfl) ?_ _
        try simp only [Act.put]
        have HoD := Lib.hid (show Own 3 wB.drew w.heap.size _ (idxTo (pastB g kk) k) from HoA.out)
        have HbD := Lib.hid HbA.out.drew
        have HsD := Lib.hid (show Str wB.drew w1.heap.size 72 (marksV bs) from HsA.out)
        generalize wB.drew = wC at *
        clear hH k0 k1 em
        go_wp2
        go_roundw
        case rel => exact ⟨k + 1, by omega, by go_num, by rw [Hs.out]; exact HoD.out, HsD.out, HbD.out⟩
        case measure => simp [intOf]; omega
    · have hke : k = g.length := by omega
      subst hke
      go_wp2
      go_ret
      exact ⟨_, rfl, by rw [Hz.out, Hek.out]; exact Hown.out, Hbel.out⟩

end Go.Proofs.Ytejpoeejhmgphaa
