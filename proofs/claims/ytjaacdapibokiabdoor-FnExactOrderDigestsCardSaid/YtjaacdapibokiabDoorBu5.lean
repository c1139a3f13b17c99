/- Texts that the laws of this folder share, one behind another; no conditions. -/
import Derived.Test.YtjaacdapibokiabDoorRows
import Derived.Test.YtjaacdapibokiabDoorBu4
import Derived.Test.YtjaacdapibokiabDoorBu3
import Derived.Test.YtjaacdapibokiabDoorBu1
import Derived.Deep.QuietTactic
import Derived.BigQuiet
import Derived.Test.YtjaacdapibokiabDoorBu0

/- impl's OrderSlots, OrderDigests and OrderWave, each by a walk of its text; conditions: lists are shorter than 2^40 (a graph: 2^20). -/
namespace Go.Proofs.YtjaacdapibokiabDoor
open Go.RowKit

def slN (v : Vx) : List Int := [v.r, v.a]
theorem OwnN.ne_str {E t : TypeId} {sz : Nat} {w : World} {B M : Nat} {v : Value} {es : List (List Int)} {vs : Array Value} (h : OwnN E sz w B v es) (s : Str w M t vs) (hne : E ≠ t) : v.ownBlock ≠ some M := by
  intro e
  rcases h.row.2 with ⟨rfl, _⟩ | ⟨g, cap, cur, rfl, _, hg, _⟩
  · cases e
  · have : g = M := by simpa [Value.ownBlock] using e
    subst this
    rw [show w.heap[g]? = _ from s] at hg
    simp only [Option.some.injEq, Obj.cells.injEq] at hg
    exact hne hg.2.1.symm
theorem OwnN.apartP {E E' : TypeId} {sz : Nat} {w : World} {B B' : Nat} {v u : Value} {es : List (List Int)} {qs : List Nat} (h : OwnN E sz w B v es) (h' : OwnP E' w B' u qs) (hE : E ≠ E') : u.ownBlock = none ∨ u.ownBlock ≠ v.ownBlock := by
  rcases h'.2 with ⟨rfl, _⟩ | ⟨g, cap, cur, rfl, _, hg, _⟩
  · exact .inl rfl
  · refine .inr fun e => ?_
    exact h.ne_str (t := E') (vs := cur) (M := g) hg hE (by rw [← e]; rfl)
/-- The ordered vertices in memory, while another list is built. -/
structure Ovs (w : World) (lo hi : Nat) (h : Nat → Value) (v : Value) (M : List Vx) : Prop where
  row : OwnP 57 w hi v (M.map (qV h))
  vs : ∀ y ∈ M, Vs w lo h y
theorem Ovs.below {w w' : World} {lo hi : Nat} {h : Nat → Value} {v : Value} {M : List Vx} (o : Ovs w lo hi h v M) (hb : Below w.heap.size w w') : Ovs w' lo hi h v M :=
  ⟨o.row.below hb, fun y hy => by obtain ⟨pa, pc, pv, s, hl⟩ := o.vs y hy; exact ⟨pa, pc, pv, (hb.block _ s.lt).trans s, hl⟩⟩
theorem Ovs.step {w w' : World} {lo hi : Nat} {h : Nat → Value} {v : Value} {M : List Vx} {row : Option Nat} (o : Ovs w lo hi h v M) (hg : w.grownBy w' row) (h1 : v.ownBlock = none ∨ v.ownBlock ≠ row) (h2 : ∀ y ∈ M, row ≠ some (qV h y)) : Ovs w' lo hi h v M :=
  ⟨o.row.kept hg h1, fun y hy => by obtain ⟨pa, pc, pv, s, hl⟩ := o.vs y hy; exact ⟨pa, pc, pv, s.kept hg (fun e => h2 y hy e.symm), hl⟩⟩
theorem ord_mem_g {c : List Int} {g : List Vx} {ls : List Int} {O : List Nat} (ok : CwOk c g ls O) : ∀ y ∈ ordV g ls O, y ∈ g := fun y hy => by
  obtain ⟨k, hk, rfl⟩ := List.mem_map.1 hy
  have := ((ord_mem fun v hv => (ok.mem v hv).1).1 hk).1
  rw [getV this]; exact List.getElem_mem this
theorem ordV_len {c : List Int} {g : List Vx} {ls : List Int} {O : List Nat} (ok : CwOk c g ls O) : (ordV g ls O).length ≤ g.length := by
  have := ordK_len ok O.length
  rwa [ordK_end] at this
/-- What OrderSlots answers. -/
def SlotsPost (w : World) (c : List Int) (g : List Vx) (ls : List Int) (e : Ending) (w' : World) : Prop := ∃ u, e = .returned u ∧ OwnN 37 2 w' w.heap.size u ((osS c g ls).map fun s => [s.1, s.2]) ∧ Below w.heap.size w w'

def slD (v : Vx) : Int := v.d
/-- What OrderDigests answers. -/
def DigPost (w : World) (c : List Int) (g : List Vx) (ls : List Int) (e : Ending) (w' : World) : Prop := ∃ u, e = .returned u ∧ Own 3 w' w.heap.size u (osD c g ls) ∧ Below w.heap.size w w'

set_option maxRecDepth 8000 in
set_option maxHeartbeats 2000000 in
theorem impl_OrderDigests (ac : Option Addr) (capc : Nat) (c : List Int) (g : List Vx) (v : Value) (fp : List Nat) (al : Option Addr) (cap : Nat) (ls : List Int) (eN eI : Addr) (w : World) (hn : c.length ≤ 1099511627776) (hbig : g.length ≤ 1048576) (hps : ∀ x ∈ g, x.ps.length ≤ 1099511627776) (hl : ls.length ≤ 1099511627776) (hc : IntsAt w ac c) (hg : Gr w g v fp) (hi : IntsAt w al ls) (hs : Sen w eN eI) :
    Calls Tryd.prog 9 #[.slice ac c.length capc, v, .slice al ls.length cap] w (DigPost w c g ls) := by
  have hal : Below w.heap.size w (w.alloc (.cells #[] 3)) := (Below.refl _ _).alloc (Nat.le_refl _) _
  have Ho := Lib.hid (own_empty 3 w (Nat.le_refl w.heap.size))
  cases hw : waB c g ls with
  | false =>
    have hres := Lib.hid (show osD c g ls = [] by unfold osD; rw [osI_no hw]; rfl)
    have H := Lib.hid (orderOf_no ac capc c g v fp al cap ls eN eI _ hn hbig hps hl (hc.below hal) (hg.under hal) (hi.below hal) (hs.below hal) hw)
    have Hal := Lib.hid hal
    clear hc hg hi hps hs hw
    unfold DigPost
    go_enter Tryd.func9, Tryd.ntmps9
    go_wp2_with fail
    refine H.out.mono ?_
    rintro e w1 ⟨rfl, hb1⟩
    have Hb1 := Lib.hid (below_step Hal.out Hal.out.size hb1)
    have Ho1 := Lib.hid (Ho.out.below hb1)
    clear hb1
    go_wp2
    go_ret
    exact ⟨_, rfl, by rw [hres.out]; exact Ho1.out, Hb1.out⟩
  | true =>
    have hbig := wa_small hw hps
    have hres := Lib.hid (show osD c g ls = (ordV g ls (cwN c g ls)).map slD by rw [osD_ordV hw]; rfl)
    have H := Lib.hid (orderOf_yes ac capc c g v fp al cap ls eN eI _ hn hbig hps hl (hc.below hal) (hg.under hal) (hi.below hal) (hs.below hal) hw)
    have hcok := (cwN_ok hw hps).2
    have hml := Nat.le_trans (ordV_len hcok) hbig
    have Hmem := Lib.hid (ord_mem_g hcok)
    have Hal := Lib.hid hal
    unfold DigPost
    rw [hres.out]
    clear hc hg hi hps hs hw hcok hres
    unfold OrdPost at H
    generalize ordV g ls (cwN c g ls) = M at *
    go_enter Tryd.func9, Tryd.ntmps9
    go_wp2_with fail
    refine H.out.mono ?_
    rintro e w1 ⟨B, lo, hi, h, vs, wt, wv, rfl, o, _, hvs, hb1⟩
    have Hb1 := Lib.hid (below_step Hal.out Hal.out.size hb1)
    have Ho1 := Lib.hid (Ho.out.below hb1)
    have hz1 := hb1.size
    rw [World.size_alloc] at hz1
    have c0 := o.cvs
    obtain ⟨av, cv, rfl, _⟩ := o.ov.slice
    have Hvs := Lib.hid (⟨o.ov, fun y hy => hvs y (Hmem.out y hy)⟩ : Ovs w1 lo hi h _ M)
    rw [List.length_map] at *
    clear hb1 o hvs hal
    go_wp2_with fail
    go_loopw [7, 28] (fun u i wr => ∃ k : Nat, k ≤ M.length ∧ i = .int .i64 k ∧ Own 3 wr w.heap.size u (((M.take k).map slD)) ∧ Ovs wr lo hi h (.slice av M.length cv) M ∧ Below w.heap.size w wr) (fun _ i _ => M.length - (intOf i).toNat)
    case atStart => exact ⟨0, by omega, rfl, Ho1.out, Hvs.out, Hb1.out⟩
    case round =>
      obtain ⟨k, hk, rfl, hu, ho, hb⟩ := hrel
      have Hu := Lib.hid hu; have Hb := Lib.hid hb; have Hvo := Lib.hid ho
      have hzr := hb.size
      by_cases hlt : k < M.length
      · obtain ⟨gv, cap', ep, _, hgl, _, hcell, _⟩ := ho.row.row (by rw [List.length_map]; omega)
        simp only [Value.slice.injEq, List.length_map, true_and] at ep
        obtain ⟨rfl, rfl⟩ := ep
        have ck := hcell k (by rw [List.length_map]; exact hlt)
        rw [List.getElem_map] at ck
        obtain ⟨pa, pc, pv, sr, _⟩ := ho.vs M[k] (List.getElem_mem hlt)
        have hnx : (M.take (k + 1)).map slD = (M.take k).map slD ++ [slD M[k]] := by rw [List.take_succ_eq_append_getElem hlt, List.map_append, List.map_singleton]
        have Hnx := Lib.hid hnx
        have hlk : ((M.take k).map slD).length ≤ k := by rw [List.length_map, List.length_take]; omega
        have hql := sr.lt
        have c1 := sr.cell 0 (v := .int .i64 M[k].r) rfl
        have c2 := sr.cell 1 (v := .int .i64 M[k].a) rfl
        have c3 := sr.cell 3 (v := .int .i64 M[k].d) rfl
        have Hsr := Lib.hid sr
        unfold ptrV at ck
        generalize (M.take k).map slD = es at *
        generalize qV h M[k] = q at *
        generalize M[k] = x at *
        obtain ⟨xr, xa, xp, xd⟩ := x
        dsimp only at *
        clear hcell sr hu hb hnx ho
        have hwz : w.heap.size ≤ wr.heap.size := Hb.out.size
        have hlk2 : es.length ≤ 1099511627776 := by omega
        go_wp2_with (at_builtin; refine wpList_push_at TIw rfl (.tmp 32) (.tmp 38) rfl w.heap.size u7 es _ rfl Hu.out hlk2 rfl hwz ?_; intro v5 w5 hown5 hg5 hloc5)
        have Ho5 := Lib.hid hown5
        have hapr : (Value.slice (some ⟨gv, 0, none⟩) M.length cv).ownBlock ≠ u7.ownBlock := fun e => by rcases Hvo.out.row.2 with ⟨h, _⟩ | ⟨g', cap', cur, h, _, hg', _⟩; (· cases h); simp only [Value.slice.injEq, Option.some.injEq, Addr.mk.injEq, and_true] at h; obtain ⟨rfl, _⟩ := h; exact own_ne_str Hu.out (M := gv) (vs := cur) hg' (by decide) (by rw [← e]; rfl)
        have Hv5 := Lib.hid (Hvo.out.step hg5 (.inr hapr) (fun y hy => by obtain ⟨_, _, _, sy, _⟩ := Hvo.out.vs y hy; exact own_ne_str Hu.out sy (by decide)))
        have Hb5 := Lib.hid (Hb.out.grown hg5 hwz (fun p e => (Hu.out.lt p e).1))
        clear hown5 hg5 hloc5 hapr c1 c2 c3 ck
        go_roundw
        case rel => exact ⟨k + 1, by omega, by go_num, by rw [Hnx.out]; exact Ho5.out, Hv5.out, Hb5.out⟩
        case measure => simp [intOf]; omega
      · have hkl : M.take k = M := List.take_of_length_le (by omega)
        rw [hkl] at Hu
        clear hkl hu hb ho
        go_wp2
        go_ret
        exact ⟨_, rfl, Hu.out, Hb.out⟩

theorem run_wave2 (B : Nat) (r a : Int) (hr : 0 ≤ r) (hr2 : r ≤ 30) (ha : 0 ≤ a) (ha2 : a ≤ 6) : ∃ o1, (∀ w, (Instr.indexAt 53 (.pointer (some ⟨B, 1, none⟩)) (.int .i64 r)).run Tryd.prog w = .ok (.pointer (some ⟨B, o1, none⟩)) w) ∧
    ∀ w, (Instr.indexAt 52 (.pointer (some ⟨B, o1, none⟩)) (.int .i64 a)).run Tryd.prog w = .ok (.pointer (some ⟨B, plN r a, none⟩)) w := by
  refine ⟨1 + r.toNat * 7, fun w => ?_, fun w => ?_⟩
  · exact run_index_z (s := 7) Tryd.underlying53 (by kernel_rfl) (by omega) (by omega) w
  · have := run_index_z (P := Tryd.prog) (B := B) (o := 1 + r.toNat * 7) (s := 1) (k := a.toNat) (z := a) Tryd.underlying52 (by kernel_rfl) (by omega) (by omega) w
    rw [this]
    unfold plN
    rw [Nat.mul_one, Nat.add_assoc]
theorem owZ_no {c : List Int} {g : List Vx} {ls : List Int} (r a : Int) (h : waB c g ls = false) : owZ c g ls r a = -1 := by unfold owZ; rw [if_neg (by rw [h]; simp)]
set_option maxRecDepth 8000 in
set_option maxHeartbeats 2000000 in
theorem impl_OrderWave (ac : Option Addr) (capc : Nat) (c : List Int) (g : List Vx) (v : Value) (fp : List Nat) (al : Option Addr) (cap : Nat) (ls : List Int) (sr sa : Int) (eN eI : Addr) (w : World) (hn : c.length ≤ 1099511627776) (hbig : g.length ≤ 1048576) (hps : ∀ x ∈ g, x.ps.length ≤ 1099511627776) (hl : ls.length ≤ 1099511627776) (hc : IntsAt w ac c) (hg : Gr w g v fp) (hi : IntsAt w al ls) (hs : Sen w eN eI) :
    Calls Tryd.prog 17 #[.slice ac c.length capc, v, .slice al ls.length cap, .agg #[.int .i64 sr, .int .i64 sa]] w fun e w' => e = .returned (.int .i64 (owZ c g ls sr sa)) ∧ Below w.heap.size w w' := by
  have hal : Below w.heap.size w (w.alloc (.cells #[.int .i64 sr, .int .i64 sa] 37)) := (Below.refl _ _).alloc (Nat.le_refl _) _
  have Hbox := Lib.hid (Str.new w 37 #[.int .i64 sr, .int .i64 sa])
  have Hal := Lib.hid hal
  cases hw : waB c g ls with
  | false =>
    have hres := Lib.hid (owZ_no sr sa hw)
    have H := Lib.hid (orderOf_no ac capc c g v fp al cap ls eN eI _ hn hbig hps hl (hc.below hal) (hg.under hal) (hi.below hal) (hs.below hal) hw)
    clear hc hg hi hps hs hw hal
    go_enter Tryd.func17, Tryd.ntmps17
    go_wp2_with fail
    refine H.out.mono ?_
    rintro e w1 ⟨rfl, hb1⟩
    have Hb1 := Lib.hid (below_step Hal.out Hal.out.size hb1)
    clear hb1
    go_wp2
    go_ret
    exact ⟨by rw [hres.out]; rfl, Hb1.out⟩
  | true =>
    have hbig := wa_small hw hps
    have hgb : graphB c g = true := by unfold waB at hw; simp only [Bool.and_eq_true] at hw; exact hw.1
    have ok := good21 hw hps
    have H := Lib.hid (orderOf_yes ac capc c g v fp al cap ls eN eI _ hn hbig hps hl (hc.below hal) (hg.under hal) (hi.below hal) (hs.below hal) hw)
    have HF := Lib.hid (fun W (hb : Below w.heap.size w W) => impl_GraphFind' ac capc c g v fp sr sa W hn (by omega) hps (hc.below hb) (hg.under hb))
    rw [show gfZ c g sr sa = findZ g sr sa by unfold gfZ; rw [if_pos hgb]] at HF
    have hres := Lib.hid (show owZ c g ls sr sa = if 0 ≤ findZ g sr sa then (owN g ls (cwN c g ls) (findZ g sr sa).toNat : Int) else -1 by unfold owZ; simp [hw])
    have hfc := findZ_cases g sr sa
    have Hpl := Lib.hid ok.pl
    unfold OrdPost at H
    generalize cwN c g ls = O at *
    generalize findZ g sr sa = Z at *
    clear hc hg hi hps hs hw hgb ok hal
    go_enter Tryd.func17, Tryd.ntmps17
    go_wp2_with fail
    generalize w.alloc (.cells #[.int .i64 sr, .int .i64 sa] 37) = w0 at *
    refine H.out.mono ?_
    rintro e w1 ⟨B, lo, hi, h, vs, wt, wv, rfl, o, hwv, _, hb1⟩
    have Hb1 := Lib.hid (below_step Hal.out Hal.out.size hb1)
    have hs1 : Str w1 w.heap.size 37 #[.int .i64 sr, .int .i64 sa] := (hb1.block _ Hbox.out.lt).trans Hbox.out
    have k0 := hs1.cell 0 (v := .int .i64 sr) rfl
    have k1 := hs1.cell 1 (v := .int .i64 sa) rfl
    have Hs1 := Lib.hid hs1
    have Ho := Lib.hid o
    have Hwv := Lib.hid hwv
    clear hb1 hs1 o hwv
    go_wp2_with fail
    refine (HF.out w1 Hb1.out).mono ?_
    rintro e w2 ⟨rfl, hb2⟩
    have hs2 : Str w2 w.heap.size 37 #[.int .i64 sr, .int .i64 sa] := (hb2.block _ Hs1.out.lt).trans Hs1.out
    have k0 := hs2.cell 0 (v := .int .i64 sr) rfl
    have k1 := hs2.cell 1 (v := .int .i64 sa) rfl
    have Ho2 := Lib.hid (Ho.out.below hb2)
    have Hb2 := Lib.hid (below_step Hb1.out Hb1.out.size hb2)
    clear hb2 hs2
    by_cases hz : 0 ≤ Z
    case neg =>
      have hz' : Z < 0 := by omega
      have hr2 := Lib.hid (show owZ c g ls sr sa = -1 by rw [hres.out, if_neg hz])
      clear hfc hz
      go_wp2
      go_ret
      exact ⟨by rw [hr2.out]; rfl, Hb2.out⟩
    have hz' : ¬ Z < 0 := by omega
    obtain ⟨j, hj, ej, hsame, _⟩ : ∃ j : Nat, ∃ hj : j < g.length, Z = j ∧ sameRA sr sa g[j] = true ∧ True := by
      rcases hfc with ⟨e, _⟩ | ⟨j, hj, e, h1, _⟩
      · omega
      · exact ⟨j, hj, e, h1, trivial⟩
    have hra : g[j].r = sr ∧ g[j].a = sa := of_decide_eq_true hsame
    have hip := Hpl.out _ (List.getElem_mem hj)
    unfold inPl at hip
    rw [hra.1, hra.2] at hip
    obtain ⟨i0, i1, i2, i3⟩ := hip
    have hr2 := Lib.hid (show owZ c g ls sr sa = (wv (plN sr sa) : Int) by
      rw [hres.out, if_pos hz, ej, Int.toNat_natCast, ← Hwv.out j hj]; unfold plV; rw [hra.1, hra.2])
    have hpb := plN_bd i1 i3
    have cw := Ho2.out.cwv hpb.1 hpb.2
    obtain ⟨o1, ho1, ho2⟩ := run_wave2 B sr sa i0 i1 i2 i3
    clear hfc hra hsame hz ej
    go_wp2_with fail
    go_quiet (fail)
    go_wp2
    go_ret
    exact ⟨by rw [hr2.out]; rfl, below_drewN Hb2.out _⟩

end Go.Proofs.YtjaacdapibokiabDoor

/- The reference's order, OrderSlots, OrderDigests and OrderWave, each by a walk of its text; conditions: lists are shorter than 2^40 (a graph: 2^20). -/
namespace Go.Proofs.YtjaacdapibokiabDoor
open Go.RowKit

theorem OwnN.apartI {E E' : TypeId} {sz : Nat} {w : World} {B B' : Nat} {v u : Value} {es : List (List Int)} {xs : List Int} (h : OwnN E sz w B v es) (h' : Own E' w B' u xs) (hE : E ≠ E') : u.ownBlock = none ∨ u.ownBlock ≠ v.ownBlock := by
  rcases h'.2 with ⟨rfl, _⟩ | ⟨g, cap, cur, rfl, _, hg, _⟩
  · exact .inl rfl
  · refine .inr fun e => ?_
    exact h.ne_str (t := E') (vs := cur) (M := g) hg hE (by rw [← e]; rfl)
theorem waA {c : List Int} {g : List Vx} {ls : List Int} (h : waB c g ls = true) : graphB c g = true ∧ ls.length ≤ 15 := by
  unfold waB at h; simp only [Bool.and_eq_true] at h; exact ⟨h.1, (ldAt h.2).1⟩

set_option maxHeartbeats 4000000 in
set_option maxRecDepth 8000 in
theorem spec_l22Order (ac : Option Addr) (capc : Nat) (c : List Int) (g : List Vx) (v : Value) (fp : List Nat) (al : Option Addr) (cap : Nat) (ls : List Int) (w : World) (hwa : waB c g ls = true) (hbig : g.length ≤ 1048575) (hps : ∀ x ∈ g, x.ps.length ≤ 1099511627776) (hc : IntsAt w ac c) (hg : Gr w g v fp) (hi : IntsAt w al ls) :
    Calls Tryd.prog 20 #[.slice ac c.length capc, v, .slice al ls.length cap] w fun e w' => ∃ u, e = .returned u ∧ Own 3 w' w.heap.size u ((osI c g ls).map Int.ofNat) ∧ Below w.heap.size w w' := by
  have h15 := (waA hwa).2
  have hcok := (cwN_ok hwa hps).2
  have hb1 : Below w.heap.size w (w.alloc (.cells #[] 3)) := (Below.refl _ _).alloc (Nat.le_refl _) _
  have ho1 := own_empty 3 w (Nat.le_refl w.heap.size)
  have hz1 : (w.alloc (.cells #[] 3)).heap.size = w.heap.size + 1 := by simp
  obtain ⟨va, vc, rfl⟩ := hg.slice
  have HW := Lib.hid (spec_l22Waves ac capc c g (.slice va g.length vc) fp al cap ls _ hwa (by omega) hps (hc.below hb1) (hg.under hb1) (hi.below hb1))
  have Hend := Lib.hid (show orK g ls (cwN c g ls) (ls.length + 1) 0 = osI c g ls by rw [osI_yes hwa]; exact orK_end hcok.asc fun v hv => ⟨(hcok.mem v hv).1, (hcok.mem v hv).2.1⟩)
  have Hlen := Lib.hid (fun w k => orK_len (g := g) (ls := ls) (O := cwN c g ls) w k)
  have HB15 := Lib.hid (show ∀ v ∈ cwN c g ls, v ≤ 15 from fun v hv => by have := (hcok.mem v hv).2.1; omega)
  have Ho1 := Lib.hid ho1; have Hb1 := Lib.hid hb1
  have Hyes := Lib.hid (fun w k => orK_yes (g := g) (ls := ls) (O := cwN c g ls) (w := w) (k := k))
  have Hno := Lib.hid (fun w k => orK_no (g := g) (ls := ls) (O := cwN c g ls) (w := w) (k := k))
  have Hrow := Lib.hid (fun w => orK_row (g := g) (ls := ls) (O := cwN c g ls) (w := w))
  have H0 := Lib.hid (orK_zero g ls (cwN c g ls))
  generalize osI c g ls = OI at *
  generalize hO : cwN c g ls = O at *
  clear hc hg hi hps hwa hcok ho1 hO
  go_enter Tryd.func20, Tryd.ntmps20
  go_wp2_with fail
  generalize w.alloc (.cells #[] 3) = w1 at *
  refine HW.out.mono ?_
  rintro e w2 ⟨uw, rfl, how, hb2⟩
  have hs2 := hb2.size
  have Ho2 := Lib.hid (Ho1.out.below hb2)
  have Hb2 := Lib.hid (below_step Hb1.out Hb1.out.size hb2)
  obtain ⟨aw, cw, rfl, _, _⟩ := how.ints
  rw [owL_len] at *
  have Hw2 := Lib.hid how
  clear hb1 hb2 how HW Ho1 Hb1
  generalize hLO : w.heap.size = LO at *
  rw [hz1] at Hw2
  go_wp2_with fail
  go_loopw [7, 9, 10] (fun u ww _ wr => ∃ m : Nat, 1 ≤ m ∧ m ≤ ls.length + 1 ∧ ww = .int .i64 m ∧ Own 3 wr LO u ((orK g ls O m 0).map Int.ofNat) ∧ (∀ q, u.ownBlock = some q → q = LO ∨ w2.heap.size ≤ q) ∧ Own 3 wr (LO + 1) (.slice aw g.length cw) (owL g ls O) ∧ w2.heap.size ≤ wr.heap.size ∧ Below LO w wr) (fun _ ww _ _ => ls.length + 1 - (intOf ww).toNat)
  case atStart => exact ⟨1, by omega, by omega, rfl, by rw [H0.out]; exact Ho2.out, fun q e => by simp [Value.ownBlock] at e; omega, Hw2.out, Nat.le_refl _, Hb2.out⟩
  case round =>
    obtain ⟨m, hm1, hm2, rfl, ho, hq, hw, hz, hb⟩ := hrel
    have Ho := Lib.hid ho; have Hq := Lib.hid hq; have Hw := Lib.hid hw; have Hb := Lib.hid hb
    clear ho hq hw hb
    by_cases hlt : m ≤ ls.length
    · have hlt' : (m : Int) ≤ (ls.length : Int) := by omega
      go_wp2
      go_loopw [7, 10] (fun u kk wr => ∃ k : Nat, k ≤ g.length ∧ kk = .int .i64 k ∧ Own 3 wr LO u ((orK g ls O m k).map Int.ofNat) ∧ (∀ q, u.ownBlock = some q → q = LO ∨ w2.heap.size ≤ q) ∧ Own 3 wr (LO + 1) (.slice aw g.length cw) (owL g ls O) ∧ w2.heap.size ≤ wr.heap.size ∧ Below LO w wr) (fun _ kk _ => g.length - (intOf kk).toNat)
      case atStart => exact ⟨0, by omega, rfl, Ho.out, Hq.out, Hw.out, hz, Hb.out⟩
      case round =>
        obtain ⟨k, hk, rfl, ho, hq, hw, hzr, hb⟩ := hrel
        have Ho3 := Lib.hid ho; have Hq3 := Lib.hid hq; have Hw3 := Lib.hid hw; have Hb3 := Lib.hid hb
        have hkl := Hlen.out m k hk
        clear ho hq hw hb
        by_cases hlk : k < g.length
        · have hlk' : (k : Int) < (g.length : Int) := by omega
          obtain ⟨gw, cw', ep, hgw, hgl, _, hcell, _⟩ := Own.row Hw3.out (by rw [owL_len]; omega)
          have hg2 : gw < w2.heap.size := (Hw2.out.lt gw (by rw [ep]; rfl)).2
          simp only [Value.slice.injEq, owL_len, true_and] at ep
          obtain ⟨rfl, rfl⟩ := ep
          have ck := hcell k (by rw [owL_len]; exact hlk)
          rw [show (owL g ls O)[k]'(by rw [owL_len]; exact hlk) = ((owN g ls O k : Nat) : Int) from fnL_get _] at ck
          have hxb := ow_bd (g := g) (ls := ls) HB15.out k
          have Hy := Lib.hid (Hyes.out m k); have Hn := Lib.hid (Hno.out m k)
          have hol : ((orK g ls O m k).map Int.ofNat).length ≤ 1099511627776 := by
            rw [List.length_map]
            have : (m - 1) * g.length ≤ 15 * 1048575 := Nat.mul_le_mul (by omega) hbig
            omega
          generalize owN g ls O k = X at *
          clear hcell
          by_cases hX : X = m
          · have hX' : ((X : Int) == (m : Int)) = true := by rw [beq_iff_eq]; omega
            have Hy2 := Lib.hid (show (orK g ls O m (k + 1)).map Int.ofNat = (orK g ls O m k).map Int.ofNat ++ [(k : Int)] by rw [Hy.out hX, List.map_append]; rfl)
            clear hX Hy Hn
            generalize (orK g ls O m k).map Int.ofNat = es at *
            have hwz : LO ≤ wr.heap.size := by omega
            have hq3 := Hq3.out
            go_wp2_with (at_builtin; refine wpList_push_at TIw rfl (.tmp 34) (.tmp 36) rfl LO u7 es _ rfl Ho3.out hol rfl hwz ?_; intro v5 w5 hown5 hg5 hloc5)
            have Ho5 := Lib.hid hown5
            have Hb5 := Lib.hid (Hb3.out.grown hg5 hwz (fun p e => (Ho3.out.lt p e).1))
            have Hq5 := Lib.hid (show ∀ q, v5.ownBlock = some q → q = LO ∨ w2.heap.size ≤ q from fun q e => by
              rcases hloc5 with h5 | ⟨p, h5, h6⟩
              · exact hq3 q (by rw [← h5]; exact e)
              · rw [h5] at e; cases e; exact .inr (by omega))
            have Hw5 := Lib.hid (Hw3.out.kept hg5 (.inr (fun e => by have e' : u7.ownBlock = some gw := e.symm; rcases hq3 gw e' with h | h <;> omega)))
            have hs5 := hg5.size
            clear hown5 hloc5 ck
            go_roundw
            case rel => exact ⟨k + 1, by omega, by go_num, by rw [Hy2.out]; exact Ho5.out, Hq5.out, Hw5.out, by omega, Hb5.out⟩
            case measure => simp [intOf]; omega
          · have hX' : ((X : Int) == (m : Int)) = false := by rw [beq_eq_false_iff_ne]; omega
            have Hn2 := Lib.hid (Hn.out hX)
            clear hX Hy Hn
            go_wp2
            go_roundw
            case rel => exact ⟨k + 1, by omega, by go_num, by rw [Hn2.out]; exact Ho3.out, Hq3.out, Hw3.out, hzr, Hb3.out⟩
            case measure => simp [intOf]; omega
        · have hkl : k = g.length := by omega
          subst hkl
          have Hr := Lib.hid (Hrow.out m hm1)
          go_wp2
          go_roundw
          case rel => exact ⟨m + 1, by omega, by omega, by go_num, by rw [← Hr.out]; exact Ho3.out, Hq3.out, Hw3.out, hzr, Hb3.out⟩
          case measure => simp [intOf]; omega
    · have hml : m = ls.length + 1 := by omega
      subst hml
      rw [Hend.out] at Ho
      go_wp2
      go_ret
      exact ⟨_, rfl, by rw [hLO]; exact Ho.out, by rw [hLO]; exact Hb.out⟩


set_option maxRecDepth 8000 in
set_option maxHeartbeats 2000000 in
theorem spec_OrderDigests (ac : Option Addr) (capc : Nat) (c : List Int) (g : List Vx) (v : Value) (fp : List Nat) (al : Option Addr) (cap : Nat) (ls : List Int) (w : World) (hn : c.length ≤ 1099511627776) (hbig : g.length ≤ 1048576) (hps : ∀ x ∈ g, x.ps.length ≤ 1099511627776) (hl : ls.length ≤ 1099511627776) (hc : IntsAt w ac c) (hg : Gr w g v fp) (hi : IntsAt w al ls) :
    Calls Tryd.prog 6 #[.slice ac c.length capc, v, .slice al ls.length cap] w (DigPost w c g ls) := by
  have hal : Below w.heap.size w (w.alloc (.cells #[] 3)) := (Below.refl _ _).alloc (Nat.le_refl _) _
  have Ho := Lib.hid (own_empty 3 w (Nat.le_refl w.heap.size))
  have hz0 : (w.alloc (.cells #[] 3)).heap.size = w.heap.size + 1 := by simp
  have HV := Lib.hid (spec_l21Ok ac capc c g v fp al cap ls _ hn (by omega) hps hl (hc.below hal) (hg.under hal) (hi.below hal))
  have Hal := Lib.hid hal
  unfold DigPost
  cases hw : waB c g ls with
  | false =>
    have hres := Lib.hid (show osD c g ls = [] by unfold osD; rw [osI_no hw]; rfl)
    rw [hw] at HV
    clear hc hg hi hps hw hal hz0
    go_enter Tryd.func6, Tryd.ntmps6
    go_wp2_with fail
    refine HV.out.mono ?_
    rintro e w1 ⟨rfl, hb1⟩
    have Hb1 := Lib.hid (below_step Hal.out Hal.out.size hb1)
    have Ho1 := Lib.hid (Ho.out.below hb1)
    clear hb1
    go_wp2
    go_ret
    exact ⟨_, rfl, by rw [hres.out]; exact Ho1.out, Hb1.out⟩
  | true =>
    have hbig := wa_small hw hps
    have hres := Lib.hid (show osD c g ls = (osI c g ls).map (fun j => slD (g.getD j vx0)) by unfold osD; rfl)
    rw [hw] at HV
    have HO := Lib.hid (fun W (hb : Below w.heap.size w W) => spec_l22Order ac capc c g v fp al cap ls W hw hbig hps (hc.below hb) (hg.under hb) (hi.below hb))
    have hml := Nat.le_trans (osI_len (c := c) (ls := ls) hps) hbig
    have Hlt := Lib.hid (osI_lt (c := c) (ls := ls) hps)
    obtain ⟨va, vc, rfl⟩ := hg.slice
    have Hgr := Lib.hid (fun W (hb : Below w.heap.size w W) => hg.under hb)
    rw [hres.out]
    generalize osI c g ls = OI at *
    clear hc hg hi hps hw hres hal
    go_enter Tryd.func6, Tryd.ntmps6
    go_wp2_with fail
    generalize w.alloc (.cells #[] 3) = w0 at *
    refine HV.out.mono ?_
    rintro e w1 ⟨rfl, hb1⟩
    have hs1 := hb1.size
    have Hb1 := Lib.hid (below_step Hal.out Hal.out.size hb1)
    have Ho1 := Lib.hid (Ho.out.below hb1)
    clear hb1
    go_wp2_with fail
    refine (HO.out w1 Hb1.out).mono ?_
    rintro e w2 ⟨ul, rfl, hol, hb2⟩
    have hs2 := hb2.size
    have Hb2 := Lib.hid (below_step Hb1.out (by omega) hb2)
    have Ho2 := Lib.hid (Ho1.out.below hb2)
    have Hl2 := Lib.hid (hol.mono (show w.heap.size + 1 ≤ w1.heap.size by omega))
    obtain ⟨la, lc, rfl, _, _⟩ := hol.ints
    rw [List.length_map] at *
    have Hl0 := Lib.hid (show ∀ q, (Value.slice la OI.length lc).ownBlock = some q → q < w2.heap.size from fun q e => (hol.lt q e).2)
    clear hol hb2
    generalize hLO : w.heap.size = LO at *
    go_wp2_with fail
    go_loopw [7, 9] (fun u i wr => ∃ k : Nat, k ≤ OI.length ∧ i = .int .i64 k ∧ Own 3 wr LO u (((OI.take k).map (fun j => slD (g.getD j vx0)))) ∧ Own 3 wr (LO + 1) (.slice la OI.length lc) (OI.map Int.ofNat) ∧ (∀ q, u.ownBlock = some q → q = LO ∨ w2.heap.size ≤ q) ∧ w2.heap.size ≤ wr.heap.size ∧ Below LO w wr) (fun _ i _ => OI.length - (intOf i).toNat)
    case atStart => exact ⟨0, by omega, rfl, Ho2.out, Hl2.out, fun q e => by simp [Value.ownBlock] at e; omega, Nat.le_refl _, Hb2.out⟩
    case round =>
      obtain ⟨k, hk, rfl, hu, hl', hq, hzw, hb⟩ := hrel
      have Hq := Lib.hid hq; have Hu := Lib.hid hu; have Hb := Lib.hid hb; have Hl := Lib.hid hl'
      have hzr := hb.size
      by_cases hlt : k < OI.length
      · obtain ⟨gl, cl', ep, hgl0, hgl, _, hcell, _⟩ := Own.row hl' (by rw [List.length_map]; omega)
        simp only [Value.slice.injEq, List.length_map, true_and] at ep
        obtain ⟨rfl, rfl⟩ := ep
        have ck := hcell k (by rw [List.length_map]; exact hlt)
        rw [List.getElem_map] at ck
        have hj := Hlt.out _ (List.getElem_mem hlt)
        have hnx : (OI.take (k + 1)).map (fun j => slD (g.getD j vx0)) = (OI.take k).map (fun j => slD (g.getD j vx0)) ++ [slD (g.getD OI[k] vx0)] := by rw [List.take_succ_eq_append_getElem hlt, List.map_append, List.map_singleton]
        have hlk : ((OI.take k).map (fun j => slD (g.getD j vx0))).length ≤ k := by rw [List.length_map, List.length_take]; omega
        generalize (OI.take k).map (fun j => slD (g.getD j vx0)) = es at *
        generalize OI[k] = j at *
        rw [getV hj] at hnx
        have Hnx := Lib.hid hnx
        have ck : wr.cell? ⟨gl, k, none⟩ = some (.int .i64 (j : Int)) := ck
        obtain ⟨b, off, hag, hbl, hat⟩ := (Hgr.out wr hb).at (by omega)
        have hbLO : b < LO := by
          obtain ⟨b', off', e', hb', _⟩ := (Hgr.out w (Below.refl _ _)).at (by omega)
          rw [hag] at e'; simp at e'; omega
        subst hag
        obtain ⟨c0, c1, _, c3⟩ := hat j hj
        have hjl : (j : Int) < (g.length : Int) := by omega
        have hkl' : (k : Int) < (OI.length : Int) := by omega
        generalize g[j] = x at *
        obtain ⟨xr, xa, xp, xd⟩ := x
        dsimp only at *
        clear hcell hat hu hl' hb hnx hq
        have hwz : LO ≤ wr.heap.size := by omega
        have hlk2 : es.length ≤ 1099511627776 := by omega
        have hg2 : gl < w2.heap.size := Hl0.out gl rfl
        go_wp2_with (at_builtin; refine wpList_push_at TIw rfl (.tmp 27) (.tmp 36) rfl LO u7 es _ rfl Hu.out hlk2 rfl hwz ?_; intro v5 w5 hown5 hg5 hloc5)
        have Ho5 := Lib.hid hown5
        have hq3 := Hq.out
        have Hb5 := Lib.hid (Hb.out.grown hg5 hwz (fun p e => (Hu.out.lt p e).1))
        have Hq5 := Lib.hid (show ∀ q, v5.ownBlock = some q → q = LO ∨ w2.heap.size ≤ q from fun q e => by
          rcases hloc5 with h5 | ⟨p, h5, h6⟩
          · exact hq3 q (by rw [← h5]; exact e)
          · rw [h5] at e; cases e; exact .inr (by omega))
        have Hl5 := Lib.hid (Hl.out.kept hg5 (.inr (fun e => by have e' : u7.ownBlock = some gl := e.symm; rcases hq3 gl e' with h | h <;> omega)))
        have hs5 := hg5.size
        clear hown5 hg5 hloc5 c0 c1 c3 ck
        go_roundw
        case rel => exact ⟨k + 1, by omega, by go_num, by rw [Hnx.out]; exact Ho5.out, Hl5.out, Hq5.out, by omega, Hb5.out⟩
        case measure => simp [intOf]; omega
      · have hkl : OI.take k = OI := List.take_of_length_le (by omega)
        rw [hkl] at Hu
        clear hkl hu hl' hb hq
        go_wp2
        go_ret
        exact ⟨_, rfl, by rw [hLO]; exact Hu.out, by rw [hLO]; exact Hb.out⟩

set_option maxRecDepth 8000 in
set_option maxHeartbeats 2000000 in
theorem spec_OrderWave (ac : Option Addr) (capc : Nat) (c : List Int) (g : List Vx) (v : Value) (fp : List Nat) (al : Option Addr) (cap : Nat) (ls : List Int) (sr sa : Int) (w : World) (hn : c.length ≤ 1099511627776) (hbig : g.length ≤ 1048576) (hps : ∀ x ∈ g, x.ps.length ≤ 1099511627776) (hl : ls.length ≤ 1099511627776) (hc : IntsAt w ac c) (hg : Gr w g v fp) (hi : IntsAt w al ls) :
    Calls Tryd.prog 15 #[.slice ac c.length capc, v, .slice al ls.length cap, .agg #[.int .i64 sr, .int .i64 sa]] w fun e w' => e = .returned (.int .i64 (owZ c g ls sr sa)) ∧ Below w.heap.size w w' := by
  have hal : Below w.heap.size w (w.alloc (.cells #[.int .i64 sr, .int .i64 sa] 37)) := (Below.refl _ _).alloc (Nat.le_refl _) _
  have Hbox := Lib.hid (Str.new w 37 #[.int .i64 sr, .int .i64 sa])
  have hz0 : (w.alloc (.cells #[.int .i64 sr, .int .i64 sa] 37)).heap.size = w.heap.size + 1 := by simp
  have HV := Lib.hid (spec_l21Ok ac capc c g v fp al cap ls _ hn (by omega) hps hl (hc.below hal) (hg.under hal) (hi.below hal))
  have Hal := Lib.hid hal
  cases hw : waB c g ls with
  | false =>
    have hres := Lib.hid (owZ_no sr sa hw)
    rw [hw] at HV
    clear hc hg hi hps hw hal hz0
    go_enter Tryd.func15, Tryd.ntmps15
    go_wp2_with fail
    refine HV.out.mono ?_
    rintro e w1 ⟨rfl, hb1⟩
    have Hb1 := Lib.hid (below_step Hal.out Hal.out.size hb1)
    clear hb1
    go_wp2
    go_ret
    exact ⟨by rw [hres.out]; rfl, Hb1.out⟩
  | true =>
    have hbig := wa_small hw hps
    have hres := Lib.hid (show owZ c g ls sr sa = if 0 ≤ findZ g sr sa then (owN g ls (cwN c g ls) (findZ g sr sa).toNat : Int) else -1 by unfold owZ; simp [hw])
    rw [hw] at HV
    have HF := Lib.hid (fun W (hb : Below w.heap.size w W) => spec_l11Find g v fp sr sa W (by omega) (hg.under hb))
    have HW := Lib.hid (fun W (hb : Below w.heap.size w W) => spec_l22Waves ac capc c g v fp al cap ls W hw (by omega) hps (hc.below hb) (hg.under hb) (hi.below hb))
    have hfc := findZ_cases g sr sa
    obtain ⟨va, vc, rfl⟩ := hg.slice
    have hgl : (owL g ls (cwN c g ls)).length = g.length := owL_len _ _ _
    have hge := Lib.hid (show ∀ j (h : j < g.length), (owL g ls (cwN c g ls)).getD j 0 = (owN g ls (cwN c g ls) j : Int) from fun j h => by unfold owL fnL; simp [List.getD, h])
    generalize owL g ls (cwN c g ls) = WL at *
    generalize cwN c g ls = O at *
    generalize findZ g sr sa = Z at *
    clear hc hg hi hps hw hal
    go_enter Tryd.func15, Tryd.ntmps15
    go_wp2_with fail
    generalize w.alloc (.cells #[.int .i64 sr, .int .i64 sa] 37) = w0 at *
    refine HV.out.mono ?_
    rintro e w1 ⟨rfl, hb1⟩
    have Hb1 := Lib.hid (below_step Hal.out Hal.out.size hb1)
    have hs1 : Str w1 w.heap.size 37 #[.int .i64 sr, .int .i64 sa] := (hb1.block _ Hbox.out.lt).trans Hbox.out
    have k0 := hs1.cell 0 (v := .int .i64 sr) rfl
    have k1 := hs1.cell 1 (v := .int .i64 sa) rfl
    have hbl := hs1.lt
    clear hb1 hs1
    go_wp2_with fail
    refine (HF.out w1 Hb1.out).mono ?_
    rintro e w2 ⟨rfl, rfl⟩
    by_cases hz : 0 ≤ Z
    case neg =>
      have hz' : Z < 0 := by omega
      have hr2 := Lib.hid (show owZ c g ls sr sa = -1 by rw [hres.out, if_neg hz])
      clear hfc hz
      go_wp2
      go_ret
      exact ⟨by rw [hr2.out]; rfl, Hb1.out⟩
    have hz' : ¬ Z < 0 := by omega
    obtain ⟨j, hj, ej⟩ : ∃ j : Nat, ∃ hj : j < g.length, Z = j := by
      rcases hfc with ⟨e, _⟩ | ⟨j, hj, e, _, _⟩
      · omega
      · exact ⟨j, hj, e⟩
    have hr2 := Lib.hid (show owZ c g ls sr sa = WL.getD j 0 by rw [hres.out, if_pos hz, ej, Int.toNat_natCast, hge.out j hj])
    subst ej
    have hjl : (j : Int) < (WL.length : Int) := by omega
    have hjl' : (j : Int) < (g.length : Int) := by omega
    clear hfc hz
    go_wp2_with fail
    refine wp_region_held_drew (S := fun W => Below w.heap.size w W ∧ W.cell? ⟨w.heap.size, 0, none⟩ = some (.int .i64 sr) ∧ W.cell? ⟨w.heap.size, 1, none⟩ = some (.int .i64 sa) ∧ w.heap.size < W.heap.size) (by kernel_rfl) ⟨Hb1.out.drew, k0, k1, hbl⟩ (fun hH => ?_)
    refine takeH 0 (v := ?vsw1) rfl (by kernel_rfl) (by kernel_rfl) (by kernel_rfl) (fun _ _ _ h => h) hH rfl ?ysw1 ?rsw1
    case ysw1 => intro W hSw; go_simp; try with_reducible rfl
    try simp only [Act.put, List.setIfInBounds_toArray, List.set_cons_zero, List.set_cons_succ]
    refine takeH 1 (v := ?vsw2) rfl (by kernel_rfl) (by kernel_rfl) (by kernel_rfl) (fun _ _ _ h => h) hH rfl ?ysw2 ?rsw2
    case ysw2 => intro W hSw; go_simp; try with_reducible rfl
    try simp only [Act.put, List.setIfInBounds_toArray, List.set_cons_zero, List.set_cons_succ]
    refine takeH 2 (v := ?vsw3) rfl (by kernel_rfl) (by kernel_rfl) (by kernel_rfl) (fun _ _ _ h => h) hH rfl ?ysw3 ?rsw3
    case ysw3 => intro W hSw; go_simp; try with_reducible rfl
    try simp only [Act.put, List.setIfInBounds_toArray, List.set_cons_zero, List.set_cons_succ]
    refine takeH 4 (v := ?vsw4) rfl (by kernel_rfl) (by kernel_rfl) (by kernel_rfl) (fun _ _ _ h => h) hH rfl ?ysw4 ?rsw4
    case ysw4 => intro W hSw; go_simp; try with_reducible rfl
    try simp only [Act.put, List.setIfInBounds_toArray, List.set_cons_zero, List.set_cons_succ]
    refine takeH 5 (v := ?vsw5) rfl (by kernel_rfl) (by kernel_rfl) (by kernel_rfl) (fun _ _ _ h => h) hH rfl ?ysw5 ?rsw5
    case ysw5 => intro W hSw; go_simp; try with_reducible rfl
    try simp only [Act.put, List.setIfInBounds_toArray, List.set_cons_zero, List.set_cons_succ]
    refine takeH 6 (v := ?vsw6) rfl (by kernel_rfl) (by kernel_rfl) (by kernel_rfl) (fun _ _ _ h => h) hH rfl ?ysw6 ?rsw6
    case ysw6 => intro W hSw; go_simp; try with_reducible rfl
    try simp only [Act.put, List.setIfInBounds_toArray, List.set_cons_zero, List.set_cons_succ]
    refine takeH 7 (v := ?vsw7) rfl (by kernel_rfl) (by kernel_rfl) (by kernel_rfl) (fun _ _ _ h => h) hH rfl ?ysw7 ?rsw7
    case ysw7 => intro W hSw; go_simp; try with_reducible rfl
    try simp only [Act.put, List.setIfInBounds_toArray, List.set_cons_zero, List.set_cons_succ]
    refine takeH 8 (v := ?vsw8) rfl (by kernel_rfl) (by kernel_rfl) (by kernel_rfl) (fun _ _ _ h => h) hH rfl ?ysw8 ?rsw8
    case ysw8 => intro W hSw; go_simp; try with_reducible rfl
    try simp only [Act.put, List.setIfInBounds_toArray, List.set_cons_zero, List.set_cons_succ]
    refine callH 3 rfl (by kernel_rfl) rfl (fun K hK => ?_)
    go_simp
    go_at_call 25
    refine (HW.out _ hH.1).mono ?_
    rintro e wz ⟨uw, rfl, how, hbz⟩
    obtain ⟨aw, cw, rfl, _, _⟩ := how.ints
    rw [hgl] at how
    rw [hgl]
    have How := Lib.hid how
    have hbz2 := below_step hH.1 hH.1.size hbz
    refine hK.out _ _ ⟨hbz2, (hbz.cell (p := ⟨w.heap.size, 0, none⟩) hH.2.2.2).trans hH.2.1, (hbz.cell (p := ⟨w.heap.size, 1, none⟩) hH.2.2.2).trans hH.2.2.1, Nat.lt_of_lt_of_le hH.2.2.2 hbz.size⟩ (fun hH => ?_)
    clear hK K
    try simp only [Act.put, List.setIfInBounds_toArray, List.set_cons_zero, List.set_cons_succ]
    clear how hbz hbz2
    refine callH 9 rfl (by kernel_rfl) rfl (fun K hK => ?_)
    go_simp
    go_at_call 24
    refine (HF.out _ hH.1).mono ?_
    rintro e wy ⟨rfl, rfl⟩
    refine hK.out _ _ hH (fun hH => ?_)
    clear hK K
    try simp only [Act.put, List.setIfInBounds_toArray, List.set_cons_zero, List.set_cons_succ]
    have HwG := Lib.hid hgl
    obtain ⟨gw, cw', ep, _, hgwl, _, hcell, _⟩ := Own.row How.out (by rw [HwG.out]; omega)
    simp only [Value.slice.injEq, HwG.out, true_and] at ep
    obtain ⟨rfl, rfl⟩ := ep
    have cj := hcell j (by rw [HwG.out]; exact hj)
    rw [← getD_get (by rw [HwG.out]; exact hj)] at cj
    clear hcell
    generalize WL.getD j 0 = X at *
    refine callH 10 rfl (by kernel_rfl) rfl (fun K hK => ?_)
    go_simp
    refine hK.out _ _ hH (fun hH => ?_)
    clear hK K
    try simp only [Act.put, List.setIfInBounds_toArray, List.set_cons_zero, List.set_cons_succ]
    refine callH 11 rfl (by kernel_rfl) rfl (fun K hK => ?_)
    go_simp
    refine hK.out _ _ hH (fun hH => ?_)
    clear hK K
    try simp only [Act.put, List.setIfInBounds_toArray, List.set_cons_zero, List.set_cons_succ]
    refine takeH 12 (v := ?vsw9) rfl (by kernel_rfl) (by kernel_rfl) (by kernel_rfl) (fun _ _ _ h => h) hH rfl ?ysw9 ?rsw9
    case ysw9 => intro W hSw; go_simp; try with_reducible rfl
    try simp only [Act.put, List.setIfInBounds_toArray, List.set_cons_zero, List.set_cons_succ]
    refine wpAnyH_done (by kernel_rfl) ?_ _
    try simp only [Act.put]
    have Hbe := Lib.hid hH.1
    clear hH
    go_wp2
    go_ret
    exact ⟨by rw [hr2.out]; rfl, Hbe.out⟩

end Go.Proofs.YtjaacdapibokiabDoor

/- The exact laws' functions on values and lists of Slot: sameness, copies, sizes, marks, each by a walk of its text; conditions: the lists are no longer than the laws' bound. -/
namespace Go.Proofs.YtjaacdapibokiabDoor
open Go.RowKit

def slotP (e : List Fd) : Prop := ∃ (x0 : Int) (x1 : Int), e = [.i x0, .i x1]
theorem slotP_len {es : List (List Fd)} (h : ∀ e ∈ es, slotP e) : ∀ e ∈ es, e.length = 2 := by
  intro e he
  obtain ⟨_, _, rfl⟩ := h e he
  rfl

theorem slot_inf : (Tryd.prog.info? 37).map (fun i => (i.zero, i.size, i.bytes)) = some (some (.agg #[.int .i64 0, .int .i64 0]), 2, 16) := by kernel_rfl

set_option maxRecDepth 8000 in
/-- A Slot that came in by value. -/
theorem open_Slot {H : Type} {enc : TypeId × Value → H} {W : World} {base : Nat} {v : Value} {d : DataW H} {p : List MemPlace} (hv : Value.okWide Tryd.prog W .any base 35 v) (h : DataW.Trod enc Tryd.prog W 0 (fun _ => true) true 35 v d p) :
    ∃ x0 x1, v = .agg #[.int .i64 x0, .int .i64 x1] ∧ (-9223372036854775808 ≤ x0 ∧ x0 ≤ 9223372036854775807) ∧ (-9223372036854775808 ≤ x1 ∧ x1 ≤ 9223372036854775807) := by
  obtain ⟨cs, rfl, hl, hf⟩ := open_struct (Gs := [IntG, IntG]) Tryd.underlying35 (by kernel_rfl) rfl (fun j h h' => by
    match j, h, h' with
    | 0, _, _ => exact ⟨rfl, opens_int Tryd.underlying3 (by kernel_rfl)⟩
    | 1, _, _ => exact ⟨rfl, opens_int Tryd.underlying3 (by kernel_rfl)⟩) hv h
  match cs, hl with
  | [u0, u1], _ =>
    obtain ⟨d0, f0, r0, x0, rfl, b0⟩ := hf 0 (by simp) (by simp)
    obtain ⟨rfl, _⟩ := Rd.int (show Rd W (.i x0) u0 f0 from r0)
    obtain ⟨d1, f1, r1, x1, rfl, b1⟩ := hf 1 (by simp) (by simp)
    obtain ⟨rfl, _⟩ := Rd.int (show Rd W (.i x1) u1 f1 from r1)
    exact ⟨x0, x1, rfl, b0, b1⟩

theorem laws_toSlotR (x0 : Int) (x1 : Int) (w : World) :
    Calls Tryd.prog 16 #[.agg #[.int .i64 x0, .int .i64 x1]] w fun e w' => e = .returned (.agg #[.int .i64 x0, .int .i64 x1]) ∧ Below w.heap.size w w' := by
  have hbW : Below w.heap.size w (((w.alloc (.cells #[.int .i64 x0, .int .i64 x1] 35)).alloc (.cells #[.int .i64 0, .int .i64 0] 37)).alloc (.cells #[.int .i64 x0, .int .i64 x1] 37)) := (((Below.refl _ w).alloc (Nat.le_refl _) _).alloc (by simp) _).alloc (by simp; omega) _
  have s0 := ((Str.new w 35 #[.int .i64 x0, .int .i64 x1]).alloc (.cells #[.int .i64 0, .int .i64 0] 37)).alloc (.cells #[.int .i64 x0, .int .i64 x1] 37)
  have s1 := (Str.new (w.alloc (.cells #[.int .i64 x0, .int .i64 x1] 35)) 37 #[.int .i64 0, .int .i64 0]).alloc (.cells #[.int .i64 x0, .int .i64 x1] 37)
  have s2 := Str.new ((w.alloc (.cells #[.int .i64 x0, .int .i64 x1] 35)).alloc (.cells #[.int .i64 0, .int .i64 0] 37)) 37 #[.int .i64 x0, .int .i64 x1]
  have hzW : (((w.alloc (.cells #[.int .i64 x0, .int .i64 x1] 35)).alloc (.cells #[.int .i64 0, .int .i64 0] 37)).alloc (.cells #[.int .i64 x0, .int .i64 x1] 37)).heap.size = w.heap.size + 3 := by simp
  simp only [World.size_alloc] at s1 s2
  have Hb := Lib.hid hbW
  have Hs0 := Lib.hid s0
  have Hs1 := Lib.hid s1
  have Hs2 := Lib.hid s2
  have Hz := Lib.hid hzW
  clear hbW s0 s1 s2 hzW
  have t0 := Hs0.out
  have t1 := Hs1.out
  have t2 := Hs2.out
  clear Hs0 Hs1 Hs2 Hz
  have k0 := t1.cell 0 (v := .int .i64 0) rfl
  have k1 := t1.cell 1 (v := .int .i64 0) rfl
  have f0 := t1.frozen 0
  have f1 := t1.frozen 1
  have j0 := t2.cell 0 (v := .int .i64 x0) rfl
  have j1 := t2.cell 1 (v := .int .i64 x1) rfl
  have hne : w.heap.size + 1 ≠ w.heap.size + 1 + 1 := by omega
  have u := ((t1.set 0 (.int .i64 x0)).set 1 (.int .i64 x1))
  have e0 := u.cell 0 (v := .int .i64 x0) rfl
  have e1 := u.cell 1 (v := .int .i64 x1) rfl
  clear u t0 t1 t2
  go_enter Tryd.func16, Tryd.ntmps16
  go_wp2
  refine bodyPost_ret (v := .agg #[.int .i64 x0, .int .i64 x1]) (by simp [results, Tryd.f16, go_sem]) rfl ?_
  exact ⟨rfl, (((Below.refl _ w).alloc (Nat.le_refl _) _).alloc (by simp) _).alloc (by simp; omega) _⟩

theorem slot_info : (Tryd.prog.info? 37).map (fun i => (i.zero, i.size, i.bytes)) = some (some (.agg #[.int .i64 0, .int .i64 0]), 2, 16) := by kernel_rfl

end Go.Proofs.YtjaacdapibokiabDoor
