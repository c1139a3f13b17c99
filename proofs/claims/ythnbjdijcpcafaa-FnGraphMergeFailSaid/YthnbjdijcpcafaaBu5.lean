/- Texts that the laws of this folder share, one behind another; no conditions. -/
import Derived.Test.YthnbjdijcpcafaaRows
import Derived.Test.YthnbjdijcpcafaaBu2
import Derived.Test.YthnbjdijcpcafaaBu4
import Derived.Test.YthnbjdijcpcafaaBu0
import Derived.Test.YthnbjdijcpcafaaBu3
import Derived.Test.YthnbjdijcpcafaaBu1
import Derived.Deep.MidRow
import Derived.Laws.Rows
import Derived.Laws.CopyRow

/- The draw of a graph: what is drawn is a valid one; by a walk of its text; condition: at most 10^5 picks before. -/
namespace Go.Proofs.Ythnbjdijcpcafaa
open Go.RowKit

/-- Valid vertices in order, each with its parents. -/
def GOp (c : List Int) (g : List Vx) : Prop := GOk c g ∧ ∀ x ∈ g, ∀ m ∈ x.ps, ∃ z ∈ g, z.r = x.r - 1 ∧ z.a = m
theorem gOp_nil (c : List Int) : GOp c [] := ⟨gOk_nil c, by simp⟩
theorem gOp_push {c : List Int} {g : List Vx} {x : Vx} (h : GOp c g) (hx : vtxB c x = true) (hb : ∀ y ∈ g, y.r < x.r ∨ y.r = x.r ∧ y.a < x.a) (hp : ∀ m ∈ x.ps, ∃ z ∈ g, z.r = x.r - 1 ∧ z.a = m) : GOp c (g ++ [x]) := by
  refine ⟨gOk_push h.1 hx hb, fun y hy m hm => ?_⟩
  rcases List.mem_append.1 hy with hy | hy
  · obtain ⟨z, hz, h1⟩ := h.2 y hy m hm
    exact ⟨z, List.mem_append_left _ hz, h1⟩
  · rw [List.mem_singleton] at hy
    subst hy
    obtain ⟨z, hz, h1⟩ := hp m hm
    exact ⟨z, List.mem_append_left _ hz, h1⟩
theorem findZ_has {g : List Vx} {r a : Int} (h : ∃ z ∈ g, z.r = r ∧ z.a = a) : 0 ≤ findZ g r a := by
  obtain ⟨z, hz, h1, h2⟩ := h
  unfold findZ
  cases hf : g.findIdx? (sameRA r a) with
  | none =>
    have := List.findIdx?_eq_none_iff.1 hf z hz
    unfold sameRA at this
    rw [decide_eq_false_iff_not] at this
    exact absurd ⟨h1, h2⟩ this
  | some k => simp
theorem gOp_graph {c : List Int} {g : List Vx} (hv : validB c = true) (h : GOp c g) : graphB c g = true := by
  unfold graphB
  rw [hv, Bool.true_and]
  refine allB_yes (k := g.length) (fun i hi => ?_) (Nat.le_refl _)
  unfold okV
  rw [getV hi]
  have h1 := h.1.1 g[i] (List.getElem_mem hi)
  have h2 : (i == 0 || befB (g.getD (i - 1) vx0) g[i]) = true := by
    by_cases h0 : i = 0
    · subst h0; rfl
    · rw [getV (by omega), List.pairwise_iff_getElem.1 h.1.2 (i - 1) i (by omega) hi (by omega)]; simp
  have h3 : parB g g[i] = true := by
    unfold parB
    refine allB_yes (k := g[i].ps.length) (fun k hk => ?_) (Nat.le_refl _)
    unfold hasP
    rw [getD_get hk, decide_eq_true_eq]
    exact findZ_has (h.2 _ (List.getElem_mem hi) _ (List.getElem_mem hk))
  rw [h1, h2, h3]; rfl

set_option maxRecDepth 8000 in
set_option maxHeartbeats 4000000 in
theorem drawGraphV (R p : Nat) (rounds : Int) (w : World) (ac : Option Addr) (capc : Nat) (c : List Int) (hp : p ≤ 100000) (hn0 : 0 ≤ rounds) (hn1 : rounds ≤ 40) (hv : validB c = true) (hr : Rdr w R p) (hR : R < w.heap.size) (hc : ∀ W, w.grownBy W (some R) → IntsAt W ac c) :
    Calls Try.prog 25 #[.pointer (some ⟨R, 0, none⟩), .slice ac c.length capc, .int .i64 rounds] w fun e w' => ∃ v g p', e = .returned v ∧ OwnR 25 3 4 w' w.heap.size w'.heap.size v (g.map Vx.fd) ∧ GOp c g ∧ g.length ≤ 280 ∧ Rdr w' R p' ∧ p' ≤ p + 80000 ∧ w.grownBy w' (some R) := by
  obtain ⟨hc1, hc7⟩ := validB_len hv
  have Hr0 := Lib.hid (hr.alloc (.cells #[] 25)); clear hr
  have Hg0 := Lib.hid (World.grownBy_alloc w (.cells #[] 25) (some R))
  have hv0 : OwnR 25 3 4 (w.alloc (.cells #[] 25)) w.heap.size (w.alloc (.cells #[] 25)).heap.size (.slice (some ⟨w.heap.size, 0, none⟩) 0 0) [] := .nil (World.ownsRow_made w #[] 0 (Nat.le_refl _) (by simp) (by simp)) (fun g e => by cases e; simp)
  have Hv0 := Lib.hid hv0; clear hv0
  have Hc := Lib.hid hc; clear hc
  obtain ⟨rounds, rfl⟩ := Int.eq_ofNat_of_zero_le hn0
  have HWt := Lib.hid (fun ps am cap W (hm : membersB c.length ps = true) (hl : ps.length ≤ 1099511627776) h h' => spec_l1Weight ac capc c am cap ps W hv hm hl h h')
  have HQt := Lib.hid (fun W h => spec_l1Quorum ac capc c W hv h)
  have HVx := Lib.hid (fun r a d pa pc ps W (hl : ps.length ≤ 1099511627776) h h' => spec_l11Vertex ac capc c r a d pa pc ps W hv hl h h')
  go_enter Try.func25, Try.ntmps25
  go_wp2_with fail
  go_loopw [7, 8] (fun v i wr => ∃ (n : Nat) (g : List Vx) (q : Nat), n ≤ rounds ∧ i = .int .i64 n ∧ OwnR 25 3 4 wr w.heap.size wr.heap.size v (g.map Vx.fd) ∧ GOp c g ∧ (∀ x ∈ g, x.r < n) ∧ g.length ≤ 7 * n ∧ Rdr wr R q ∧ q ≤ p + 2000 * n ∧ w.grownBy wr (some R)) (fun _ i _ => rounds - (intOf i).toNat)
  case atStart => exact ⟨0, [], p, Nat.zero_le _, rfl, Hv0.out, gOp_nil c, by simp, by simp, Hr0.out, by omega, Hg0.out⟩
  case round =>
    obtain ⟨n, g0, q0, hn, rfl, hown, hok, hlt0, hgl, hrd, hq, hgr⟩ := hrel
    have Hown := Lib.hid hown; clear hown
    have Hrd := Lib.hid hrd; clear hrd
    have Hgr := Lib.hid hgr; clear hgr
    have Hok := Lib.hid hok; clear hok
    have Hlt0 := Lib.hid hlt0; clear hlt0
    by_cases hlt : n < rounds
    case neg =>
      have hn40 : n ≤ 40 := by omega
      go_wp2
      go_ret
      exact ⟨_, g0, q0, rfl, Hown.out, Hok.out, by omega, Hrd.out, by omega, Hgr.out⟩
    case pos =>
    obtain ⟨fo, hro⟩ := Hown.out.reads
    have hwn : IntKind.i64.wrap ((n : Int) - 1) = n - 1 := IntWalk.i64_in _ (by omega)
    have Hau := Lib.hid (spec_l11Authors g0 _ fo ((n : Int) - 1) wr (by omega) hro); clear hro
    have Hasc := Lib.hid (gOk_auth Hok.out.1 ((n : Int) - 1))
    have hHl := authZ_len g0 ((n : Int) - 1)
    have Hin0 := Lib.hid (show ∀ m ∈ authZ g0 ((n : Int) - 1), ∃ z ∈ g0, z.r = (n : Int) - 1 ∧ z.a = m from fun m hm => mem_authZ.1 hm)
    generalize authZ g0 ((n : Int) - 1) = H at *
    go_wp2_with fail
    refine Hau.out.mono ?_
    rintro e w2 ⟨uh, rfl, hoh, hb2⟩
    have hs2 := hb2.size
    have Hown2 := Lib.hid (Hown.out.below hb2 (Nat.le_refl _))
    have Hrd2 := Lib.hid (Hrd.out.kept (below_grown hb2) (fun g e => by cases e))
    have Hgr2 := Lib.hid (grown_row Hgr.out (below_grown hb2) (fun g e => by cases e))
    have hRw := Hgr.out.size
    have Hoh := Lib.hid (hoh.mono hRw)
    obtain ⟨ah, ch, rfl, hih, hsh, _⟩ := hoh.src
    clear hb2 hoh hih hsh
    go_wp2
    go_loopw [7, 10] (fun v i wr => ∃ (a : Nat) (g : List Vx) (q : Nat), a ≤ c.length ∧ i = .int .i64 a ∧ OwnR 25 3 4 wr w.heap.size wr.heap.size v (g.map Vx.fd) ∧ GOp c g ∧ (∀ x ∈ g, x.r < n ∨ x.r = n ∧ x.a < a) ∧ (∀ m ∈ H, ∃ z ∈ g, z.r = (n : Int) - 1 ∧ z.a = m) ∧ g.length ≤ 7 * n + a ∧ Rdr wr R q ∧ q ≤ p + 2000 * n + 283 * a ∧ w.grownBy wr (some R) ∧ Own 3 wr w.heap.size (.slice ah H.length ch) H ∧ w2.heap.size ≤ wr.heap.size) (fun _ i _ => c.length - (intOf i).toNat)
    case atStart => exact ⟨0, g0, q0, Nat.zero_le _, rfl, Hown2.out.mono hs2, Hok.out, fun x hx => .inl (Hlt0.out x hx), Hin0.out, by omega, Hrd2.out, by omega, Hgr2.out, Hoh.out, Nat.le_refl _⟩
    case round =>
      obtain ⟨a, g, q, ha, rfl, hown, hok, hord, hin, hgl, hrd, hq, hgr, hoh, hsz⟩ := hrel
      have Hown := Lib.hid hown; clear hown
      have Hrd := Lib.hid hrd; clear hrd
      have Hgr := Lib.hid hgr; clear hgr
      have Hok := Lib.hid hok; clear hok
      have Hord := Lib.hid hord; clear hord
      have Hin := Lib.hid hin; clear hin
      have Hoh := Lib.hid hoh; clear hoh
      by_cases hal : a < c.length
      case neg =>
        have hac : a = c.length := by omega
        subst hac
        go_wp2
        go_roundw
        case rel => exact ⟨n + 1, g, q, by omega, by go_num, Hown.out, Hok.out, fun x hx => by have := Hord.out x hx; omega, by omega, Hrd.out, by omega, Hgr.out⟩
        case measure => simp [intOf]; omega
      case pos =>
      go_wp2_with fail
      refine (pick_any R 6 q _ (by omega) Hrd.out (by omega)).mono ?_
      rintro e w3 ⟨z, rfl, hz0, hz1, hr3, hg3⟩
      have hs3 := hg3.size
      have Hrd3 := Lib.hid hr3; clear hr3
      have Hgr3 := Lib.hid (grownBy_trans Hgr.out hg3)
      have Hown3 := Lib.hid ((Hown.out.same fun b h1 h2 => hg3.block b (by omega) (fun e => by cases e; omega)).mono hs3)
      have Hoh3 := Lib.hid (Hoh.out.kept hg3 (.inr fun e => by have := (Hoh.out.lt R e).1; omega))
      clear hg3
      by_cases hz : z = 0
      · subst hz
        go_wp2
        go_roundw
        case rel => exact ⟨a + 1, g, q + 1, by omega, by go_num, Hown3.out, Hok.out, fun x hx => by have := Hord.out x hx; omega, Hin.out, by omega, Hrd3.out, by omega, Hgr3.out, Hoh3.out, by omega⟩
        case measure => simp [intOf]; omega
      have hz' : (z == 0) = false := by simpa using hz
      clear hz hz0 hz1 Hrd Hgr Hown Hoh
      have hwa : IntKind.i64.wrap (31 * (n : Int)) = 31 * n := IntWalk.i64_in _ (by omega)
      have hwb : IntKind.i64.wrap (7 * (a : Int)) = 7 * a := IntWalk.i64_in _ (by omega)
      have hwc : IntKind.i64.wrap (31 * (n : Int) + 7 * (a : Int)) = 31 * n + 7 * a := IntWalk.i64_in _ (by omega)
      go_wp2_with fail
      refine (pick_any R 90 (q + 1) _ (by omega) (Hrd3.out.alloc _) (by omega)).mono ?_
      rintro e w5 ⟨y, rfl, hy0, hy1, hr5, hg5⟩
      have ho5 := (own_empty 3 w3 (Nat.le_refl _)).kept hg5 (.inr fun e => by have := Hrd3.out.lt; simp [Value.ownBlock] at e; omega)
      have hg5' := grownBy_trans (World.grownBy_alloc w3 (.cells #[] 3) (some R)) hg5
      have hs5 : w3.heap.size + 1 ≤ w5.heap.size := by have := hg5.size; simpa using this
      have Hrd5 := Lib.hid hr5; clear hr5
      have Ho5 := Lib.hid ho5; clear ho5
      have Hg5 := Lib.hid hg5'; clear hg5' hg5
      have hwd : IntKind.i64.wrap (31 * (n : Int) + 7 * (a : Int) + y) = 31 * n + 7 * a + y := IntWalk.i64_in _ (by omega)
      obtain ⟨D, hD⟩ : ∃ D, (31 * (n : Int) + 7 * (a : Int) + y).tmod 991 = D := ⟨_, rfl⟩
      have hDb : -9223372036854775808 ≤ D ∧ D ≤ 9223372036854775807 := by
        rw [← hD, Int.tmod_eq_emod_of_nonneg (by omega)]; omega
      have hs0 := Str.new w5 25 #[.int .i64 n, .int .i64 a, .slice (some ⟨w3.heap.size, 0, none⟩) 0 0, .int .i64 D]
      have hgA := grownBy_trans Hg5.out (World.grownBy_alloc w5 (.cells #[.int .i64 n, .int .i64 a, .slice (some ⟨w3.heap.size, 0, none⟩) 0 0, .int .i64 D] 25) (some R))
      have hoA := Ho5.out.alloc (.cells #[.int .i64 n, .int .i64 a, .slice (some ⟨w3.heap.size, 0, none⟩) 0 0, .int .i64 D] 25)
      have hrA := Hrd5.out.alloc (.cells #[.int .i64 n, .int .i64 a, .slice (some ⟨w3.heap.size, 0, none⟩) 0 0, .int .i64 D] 25)
      have HsA := Lib.hid hs0; clear hs0
      have HgA := Lib.hid hgA; clear hgA
      have HoA := Lib.hid hoA; clear hoA
      have HrA := Lib.hid hrA; clear hrA Hrd5 Ho5 Hg5
      have hw3 := Hgr3.out.size
      go_wp2
      clear hwa hwb hwc hwd hD
      generalize w5.alloc (.cells #[.int .i64 n, .int .i64 a, .slice (some ⟨w3.heap.size, 0, none⟩) 0 0, .int .i64 D] 25) = w6 at *
      generalize w5.heap.size = Bv at *
      go_loopw [12] (fun i wr => ∃ (k : Nat) (ps : List Int) (vp : Value) (q2 : Nat), k ≤ H.length ∧ i = .int .i64 k ∧ ps.Sublist (H.take k) ∧ Str wr Bv 25 #[.int .i64 n, .int .i64 a, vp, .int .i64 D] ∧ Own 3 wr w3.heap.size vp ps ∧ vp.ownBlock ≠ some Bv ∧ Rdr wr R q2 ∧ q2 ≤ q + 2 + k ∧ w3.grownBy wr (some R)) (fun i _ => H.length - (intOf i).toNat)
      case atStart => exact ⟨0, [], _, q + 1 + 1, Nat.zero_le _, rfl, by simp, HsA.out, HoA.out, by simp [Value.ownBlock]; omega, HrA.out, by omega, HgA.out⟩
      case round =>
        obtain ⟨k, ps, vp, q2, hk, rfl, hsub, hst, hop, hne, hrd, hq2, hg3r⟩ := hrel
        have Hst := Lib.hid hst; clear hst
        have Hop := Lib.hid hop; clear hop
        have Hrd := Lib.hid hrd; clear hrd
        have Hg3r := Lib.hid hg3r; clear hg3r
        have Hsub := Lib.hid hsub; clear hsub
        have Hne := Lib.hid hne; clear hne
        have hBw := Hst.out.lt
        have Hohr := Lib.hid (Hoh3.out.kept Hg3r.out (.inr fun e => by have := (Hoh3.out.lt R e).1; omega))
        by_cases hlt2 : k < H.length
        · obtain ⟨bh, ch', e, hbB, hbs, _, hcells, _⟩ := Hohr.out.row (by omega)
          simp only [Value.slice.injEq, true_and] at e
          obtain ⟨rfl, rfl⟩ := e
          have hch := hcells k hlt2
          have hb3 : bh < w3.heap.size := by
            exact (Hoh3.out.lt bh rfl).2
          clear hcells
          by_cases hn0 : n = 0
          · exfalso; omega
          have hnn : decide ((0 : Int) < (n : Int)) = true := decide_eq_true (by omega)
          have hnn' : (0 : Int) < (n : Int) := by omega
          clear hn0
          go_wp2_with fail
          refine (pick_any R 8 q2 _ (by omega) Hrd.out (by omega)).mono ?_
          rintro e w7 ⟨u, rfl, hu0, hu1, hr7, hg7⟩
          have hs7 := hg7.size
          have Hrd7 := Lib.hid hr7; clear hr7
          have Hst7 := Lib.hid (Hst.out.kept hg7 (by simp; omega))
          have Hop7 := Lib.hid (Hop.out.kept hg7 (.inr fun e => by have := (Hop.out.lt R e).1; have := Hgr3.out.size; omega))
          have Hg37 := Lib.hid (grownBy_trans Hg3r.out hg7)
          have hch7 : w7.cell? ⟨bh, k, none⟩ = some (.int .i64 H[k]) := hg7.cell hch (by simp; omega)
          clear hg7 hch
          by_cases hu : 0 < u
          · have hud : decide ((0 : Int) < u) = true := decide_eq_true hu
            have Hsub' := Lib.hid (show (ps ++ [H[k]]).Sublist (H.take (k + 1)) by
              rw [List.take_succ_eq_append_getElem hlt2]
              exact Hsub.out.append (List.Sublist.refl _))
            generalize H[k] = x at *
            have h2 : w7.drew.cell? ⟨Bv, 2, none⟩ = some vp := Hst7.out.cell 2 (v := vp) rfl
            have h3 : w7.drew.cell? ⟨bh, k, none⟩ = some (.int .i64 x) := hch7
            go_wp2_with fail
            refine wp_region_L 9 (fun w' => w'.cell? ⟨Bv, 2, none⟩ = some vp ∧ w'.cell? ⟨bh, k, none⟩ = some (.int .i64 x)) (by kernel_rfl) ⟨h2, h3⟩ (fun hH => ?_)
            refine takeL 0 (v := ?v0) rfl (by kernel_rfl) (by kernel_rfl) (by kernel_rfl) (by kernel_rfl) (by kernel_rfl) (fun _ _ _ h => h) hH rfl ?y0 ?r0
            case y0 => intro W hSw; go_simp; try with_reducible rfl
            try simp only [Act.put, List.setIfInBounds_toArray, List.set_cons_zero, List.set_cons_succ]
            refine takeL 1 (v := ?v1) rfl (by kernel_rfl) (by kernel_rfl) (by kernel_rfl) (by kernel_rfl) (by kernel_rfl) (fun _ _ _ h => h) hH rfl ?y1 ?r1
            case y1 => intro W hSw; go_simp; try with_reducible rfl
            try simp only [Act.put, List.setIfInBounds_toArray, List.set_cons_zero, List.set_cons_succ]
            refine takeL 2 (v := ?v2) rfl (by kernel_rfl) (by kernel_rfl) (by kernel_rfl) (by kernel_rfl) (by kernel_rfl) (fun _ _ _ h => h) hH rfl ?y2 ?r2
            case y2 => intro W hSw; go_simp; try with_reducible rfl
            try simp only [Act.put, List.setIfInBounds_toArray, List.set_cons_zero, List.set_cons_succ]
            refine takeL 3 (v := ?v3) rfl (by kernel_rfl) (by kernel_rfl) (by kernel_rfl) (by kernel_rfl) (by kernel_rfl) (fun _ _ _ h => h) hH rfl ?y3 ?r3
            case y3 => intro W hSw; go_simp; try with_reducible rfl
            try simp only [Act.put, List.setIfInBounds_toArray, List.set_cons_zero, List.set_cons_succ]
            refine takeL 4 (v := ?v4) rfl (by kernel_rfl) (by kernel_rfl) (by kernel_rfl) (by kernel_rfl) (by kernel_rfl) (fun _ _ _ h => h) hH rfl ?y4 ?r4
            case y4 => intro W hSw; go_simp; try with_reducible rfl
            try simp only [Act.put, List.setIfInBounds_toArray, List.set_cons_zero, List.set_cons_succ]
            refine takeL 5 (v := ?v5) rfl (by kernel_rfl) (by kernel_rfl) (by kernel_rfl) (by kernel_rfl) (by kernel_rfl) (fun _ _ _ h => h) hH rfl ?y5 ?r5
            case y5 => intro W hSw; go_simp; try with_reducible rfl
            try simp only [Act.put, List.setIfInBounds_toArray, List.set_cons_zero, List.set_cons_succ]
            refine callL 6 rfl (by kernel_rfl) rfl (fun K hK => ?_)
            go_simp
            refine hK.out _ _ ⟨(World.grownBy_alloc w7.drew _ none).cell h2 (by simp), (World.grownBy_alloc w7.drew _ none).cell h3 (by simp)⟩ (fun hH => ?_)
            clear hK K
            try simp only [Act.put, List.setIfInBounds_toArray, List.set_cons_zero, List.set_cons_succ]
            have hown7 : Own 3 w7.drew w3.heap.size vp ps := Hop7.out
            have hst7 : Str w7.drew Bv 25 #[.int .i64 n, .int .i64 a, vp, .int .i64 D] := Hst7.out
            have hpl : ps.length ≤ 1099511627776 := by have := Hsub.out.length_le; rw [List.length_take] at this; omega
            have hB7 : w3.heap.size ≤ w7.drew.heap.size := Hg37.out.size
            have hg37 : w3.grownBy w7.drew (some R) := grownBy_drewN Hg37.out 1
            have hrd7 : Rdr w7.drew R (q2 + 1) := Hrd7.out.drewN 1
            refine callL 7 rfl (by kernel_rfl) rfl (fun K hK => ?_)
            refine op_push_at TIg w7.drew (.tmp 59) (.tmp 64) rfl w3.heap.size vp ps x rfl hown7 hpl rfl hB7 ?_
            intro v9 w9 hown9 hg9 hat9
            obtain ⟨g9, c9, rfl⟩ := own_succ hown9
            have s9 := hst7.kept hg9 (fun e => Hne.out e.symm)
            have h9 := s9.cell 2 (v := vp) rfl
            have f9 := s9.frozen 2
            have h39 : w9.cell? ⟨bh, k, none⟩ = some (.int .i64 x) := hg9.cell h3 (by intro e; have h' : w3.heap.size ≤ bh := (hown7.lt _ e.symm).1; omega)
            refine hK.out _ _ ⟨h9, h39⟩ (fun hH => ?_)
            clear hK K
            try simp only [Act.put, List.setIfInBounds_toArray, List.set_cons_zero, List.set_cons_succ]
            refine takeL 8 (v := ?v8) rfl (by kernel_rfl) (by kernel_rfl) (by kernel_rfl) (by kernel_rfl) (by kernel_rfl) (fun _ _ _ h => h) hH rfl ?y8 ?r8
            case y8 => intro W hSw; go_simp; try with_reducible rfl
            try simp only [Act.put, List.setIfInBounds_toArray, List.set_cons_zero, List.set_cons_succ]
            refine lastL rfl (by kernel_rfl) (by kernel_rfl) (by kernel_rfl) rfl (fun K hK => ?_)
            go_simp
            refine hK.out _ _ ?_
            clear hK K
            try simp only [Act.put, List.setIfInBounds_toArray, List.set_cons_zero, List.set_cons_succ]
            have hBs : Bv < w7.drew.heap.size := hst7.lt
            have hne9 : (Value.slice (some ⟨g9, 0, none⟩) (ps.length + 1) c9).ownBlock ≠ some Bv := by
              rcases hat9 with h | ⟨g', h, h'⟩
              · rw [h]; exact Hne.out
              · rw [h]; simp; omega
            have hRB : R < Bv := by omega
            go_wp2
            go_roundw
            case rel => exact ⟨k + 1, ps ++ [x], _, q2 + 1, by omega, by go_num, Hsub'.out, (by have := s9.set 2 (.slice (some ⟨g9, 0, none⟩) (ps.length + 1) c9); simpa using this), hown9.set_other hne9 2 _, hne9, (hrd7.kept hg9 (fun g e => by have := (hown7.lt g e).1; omega)).kept (grownBy_set w9 Bv 2 _) (fun g e => by cases e; exact hRB), by omega, grown_row (grown_row hg37 hg9 (fun g e => (hown7.lt g e).1)) (grownBy_set w9 Bv 2 _) (fun g e => by cases e; omega)⟩
            case measure => simp [intOf]; omega
          · have hud : decide ((0 : Int) < u) = false := decide_eq_false hu
            clear hu0 hu1
            go_wp2
            go_roundw
            case rel => exact ⟨k + 1, ps, vp, q2 + 1, by omega, by go_num, Hsub.out.trans (List.take_sublist_take_left (by omega)), Hst7.out, Hop7.out, Hne.out, Hrd7.out, by omega, Hg37.out⟩
            case measure => simp [intOf]; omega
        · have hke : k = H.length := by omega
          subst hke
          rw [List.take_length] at Hsub
          have hpl : ps.length ≤ 1099511627776 := by have := Hsub.out.length_le; omega
          obtain ⟨ap, cp, rfl, hip, _⟩ := Hop.out.ints
          clear hip
          by_cases hn0 : n = 0
          · have hnn : decide ((0 : Int) < (n : Int)) = false := decide_eq_false (by omega)
            have hnn' : ¬ (0 : Int) < (n : Int) := by omega
            clear hn0
            have hgW := grownBy_trans Hgr3.out Hg3r.out
            have hcW := Hc.out _ hgW
            have HgW := Lib.hid hgW; clear hgW
            have st := Hst.out
            have c0 := st.cell 0 (v := .int .i64 n) rfl
            have c1 := st.cell 1 (v := .int .i64 a) rfl
            have c2 := st.cell 2 (v := .slice ap ps.length cp) rfl
            have c3 := st.cell 3 (v := .int .i64 D) rfl
            have Hcall := Lib.hid (HVx.out n a D ap cp ps _ hpl hcW Hop.out.at)
            clear st hcW
            cases hvx : vtxB c ⟨n, a, ps, D⟩ with
            | false =>
              rw [hvx] at Hcall
              clear Hst Hop Hne
              go_wp2_with fail
              refine Hcall.out.mono ?_
              rintro e w8 ⟨rfl, hb8⟩
              have Hg38 := Lib.hid (grown_row (w := w3) Hg3r.out (below_grown hb8) (fun g e => by cases e))
              have Hown8 := Lib.hid (Hown3.out.same fun b h1 h2 => Hg38.out.block b h2 (fun e => by cases e; omega))
              have Hoh8 := Lib.hid (Hoh3.out.kept Hg38.out (.inr fun e => by have := (Hoh3.out.lt R e).1; omega))
              have Hrd8 := Lib.hid (Hrd.out.kept (below_grown hb8) (fun g e => by cases e))
              have hs8 := Hg38.out.size
              have HgW8 := Lib.hid (grownBy_trans Hgr3.out Hg38.out)
              clear hb8 c0 c1 c2 c3
              go_wp2
              go_roundw
              case rel => exact ⟨a + 1, g, q2, by omega, by go_num, Hown8.out.mono hs8, Hok.out, fun x hx => by have := Hord.out x hx; omega, Hin.out, by omega, Hrd8.out, by omega, HgW8.out, Hoh8.out, by omega⟩
              case measure => simp [intOf]; omega
            | true =>
              rw [hvx] at Hcall
              have Hok' := Lib.hid (gOp_push Hok.out hvx Hord.out (fun m hm => Hin.out m (by first | exact Hsub.out.subset hm | exact hm)))
              clear hvx
              go_wp2_with fail
              refine Hcall.out.mono ?_
              rintro e w8 ⟨rfl, hb8⟩
              have Hg38 := Lib.hid (grown_row (w := w3) Hg3r.out (below_grown hb8) (fun g e => by cases e))
              have Hown8 := Lib.hid (Hown3.out.same fun b h1 h2 => Hg38.out.block b h2 (fun e => by cases e; omega))
              have Hoh8 := Lib.hid (Hoh3.out.kept Hg38.out (.inr fun e => by have := (Hoh3.out.lt R e).1; omega))
              have Hrd8 := Lib.hid (Hrd.out.kept (below_grown hb8) (fun g e => by cases e))
              have hs8 := Hg38.out.size
              have HgW8 := Lib.hid (grownBy_trans Hgr3.out Hg38.out)
              have st := (hb8.block _ Hst.out.lt).trans Hst.out
              have hop8 := Hop.out.below hb8
              have c0 := Str.cell st 0 (v := .int .i64 n) rfl
              have c1 := Str.cell st 1 (v := .int .i64 a) rfl
              have c2 := Str.cell st 2 (v := .slice ap ps.length cp) rfl
              have c3 := Str.cell st 3 (v := .int .i64 D) rfl
              obtain ⟨hfd, hap, hnew⟩ := vertex_new (B := w.heap.size) n a D hop8 hw3
              have Hfd := Lib.hid hfd; clear hfd
              have Hap := Lib.hid hap; clear hap
              have Hnew := Lib.hid hnew; clear hnew hop8 st hb8
              have hel : (g.map Vx.fd).length ≤ 1048576 := by rw [List.length_map]; omega
              have Hex := Lib.hid (show (g ++ [(⟨n, a, ps, D⟩ : Vx)]).map Vx.fd = g.map Vx.fd ++ [[.i n, .i a, .l ps, .i D]] by rw [List.map_append]; rfl)
              have hB8 : w.heap.size ≤ w8.heap.size := by omega
              generalize g.map Vx.fd = es at *
              go_wp2_with (at_builtin; refine wpList_push_own (Ei := 3) Try.underlying32 vertex_inf rfl (by decide) (by decide) rfl (.tmp 85) (.tmp 87) rfl w.heap.size _ es _ _ _ rfl rfl (by intro u hu; simp at hu; rcases hu with rfl | rfl | rfl | rfl <;> rfl) rfl rfl Hfd.out Hap.out w3.heap.size Hown8.out hs8 Hnew.out hel rfl hB8 ?_; intro v9 w9 hown9 hg9 hat9)
              go_roundw
              case rel => exact ⟨a + 1, g ++ [⟨n, a, ps, D⟩], q2, by omega, by go_num, by rw [Hex.out]; exact hown9, Hok'.out, fun x hx => by
                rcases List.mem_append.1 hx with hx | hx
                · have := Hord.out x hx; omega
                · simp at hx; subst hx; exact .inr ⟨rfl, (show (a : Int) < ((a + 1 : Nat) : Int) by omega)⟩, fun m hm => by obtain ⟨z, hz, h⟩ := Hin.out m hm; exact ⟨z, List.mem_append_left _ hz, h⟩, by have := hgl; rw [List.length_append]; simp only [List.length_singleton]; omega, Hrd8.out.kept hg9 (fun g e => by have := (Hown8.out.lt g e).1; omega), by omega, grown_row HgW8.out hg9 (fun g e => (Hown8.out.lt g e).1), Hoh8.out.kept hg9 (Hown8.out.apartI Hoh8.out (by decide)), by have := hg9.size; omega⟩
              case measure => simp [intOf]; omega
          have hnn : decide ((0 : Int) < (n : Int)) = true := decide_eq_true (by omega)
          have hnn' : (0 : Int) < (n : Int) := by omega
          clear hn0
          have hmb := members_sub Hasc.out Hsub.out
          have hcW0 := Hc.out _ (grownBy_trans Hgr3.out Hg3r.out)
          have k2 := Hst.out.cell 2 (v := .slice ap ps.length cp) rfl
          have HW1 := Lib.hid (HWt.out ps ap cp wr hmb hpl hcW0 Hop.out.at)
          have HQ1 := Lib.hid (HQt.out wr hcW0)
          clear hcW0 hmb
          go_wp2_with fail
          refine HW1.out.mono ?_
          rintro e w7 ⟨rfl, rfl⟩
          go_wp2_with fail
          refine HQ1.out.mono ?_
          rintro e w7 ⟨rfl, rfl⟩
          by_cases hlow : weightZ c ps < 2 * totalZ c / 3 + 1
          · have hld : decide (weightZ c ps < 2 * totalZ c / 3 + 1) = true := decide_eq_true hlow
            have hoE := own_empty 3 wr (Nat.le_refl wr.heap.size)
            have hsrc : SrcAt (wr.alloc (.cells #[] 3)) ah ch H := by
              obtain ⟨_, _, e, _, hs, _⟩ := (Hohr.out.alloc (.cells #[] 3)).src
              cases e
              exact hs
            have stE := Hst.out.alloc (.cells #[] 3)
            have hzE : (wr.alloc (.cells #[] 3)).heap.size = wr.heap.size + 1 := by simp
            have rdE := Hrd.out.alloc (.cells #[] 3)
            have hgE := grownBy_trans Hg3r.out (World.grownBy_alloc wr (.cells #[] 3) (some R))
            have hsr := Hg3r.out.size
            have hHl2 : H.length ≤ 1099511627776 := by omega
            have hRB : R < Bv := by omega
            have HoE := Lib.hid hoE; clear hoE
            have Hsrc := Lib.hid hsrc; clear hsrc
            have HstE := Lib.hid stE; clear stE
            have HrdE := Lib.hid rdE; clear rdE
            have HgE := Lib.hid hgE; clear hgE
            clear k2 hlow Hop Hst Hrd HW1 HQ1
            go_wp2_with (at_builtin; refine wpList_appI TIg rfl (.tmp 78) (.tmp 79) rfl wr.heap.size (.slice (some ⟨wr.heap.size, 0, none⟩) 0 0) [] H _ _ rfl HoE.out rfl Hsrc.out (by simp; omega) (by rw [hzE]; omega) ?_; intro v7 w7 hown7 hg7; (rw [List.nil_append] at hown7); (generalize wr.alloc (.cells #[] 3) = w71 at *); (have st7 := HstE.out.kept hg7 (by simp [Value.ownBlock]; omega)); (have Hrd7 := Lib.hid (HrdE.out.kept hg7 (fun g e => by have := (HoE.out.lt g e).1; omega))); (have Hg7 := Lib.hid (grown_row HgE.out hg7 (fun g e => by have := (HoE.out.lt g e).1; omega))); (have Hown7 := Lib.hid hown7); (obtain ⟨a7, c7, rfl, _, _⟩ := Hown7.out.ints); (have k2 := st7.cell 2 (v := .slice ap ps.length cp) rfl); (have f2 := st7.frozen 2); (have u := st7.set 2 (.slice a7 H.length c7)); (have e0 := u.cell 0 (v := .int .i64 n) rfl); (have e1 := u.cell 1 (v := .int .i64 a) rfl); (have e2 := u.cell 2 (v := .slice a7 H.length c7) rfl); (have e3 := u.cell 3 (v := .int .i64 D) rfl); (have Hu := Lib.hid u); (clear u st7 hown7 hg7))
            have hne7 : (Value.slice a7 H.length c7).ownBlock ≠ some Bv := fun e => by have := (Hown7.out.lt _ e).1; omega
            have Hrd := Lib.hid (Hrd7.out.kept (grownBy_set w7 Bv 2 (.slice a7 H.length c7)) (fun g e => by cases e; exact hRB))
            have Hg3r := Lib.hid (grown_row Hg7.out (grownBy_set w7 Bv 2 (.slice a7 H.length c7)) (fun g e => by cases e; omega))
            have Hop := Lib.hid ((Hown7.out.mono (show w3.heap.size ≤ wr.heap.size from hsr)).set_other hne7 2 (.slice a7 H.length c7))
            have Hst : Hid (Str (w7.setCell ⟨Bv, 2, none⟩ (.slice a7 H.length c7)) Bv 25 #[.int .i64 n, .int .i64 a, .slice a7 H.length c7, .int .i64 D]) := Lib.hid (by simpa using Hu.out)
            clear k2 f2 Hu Hown7 Hrd7 Hg7 hne7
            generalize w7.setCell ⟨Bv, 2, none⟩ (.slice a7 H.length c7) = wz at *
            have hBz := Hst.out.lt
            have hgW := grownBy_trans Hgr3.out Hg3r.out
            have hcW := Hc.out _ hgW
            have HgW := Lib.hid hgW; clear hgW
            have st := Hst.out
            clear e0 e1 e2 e3
            have c0 := st.cell 0 (v := .int .i64 n) rfl
            have c1 := st.cell 1 (v := .int .i64 a) rfl
            have c2 := st.cell 2 (v := .slice a7 H.length c7) rfl
            have c3 := st.cell 3 (v := .int .i64 D) rfl
            have Hcall := Lib.hid (HVx.out n a D a7 c7 H _ hHl2 hcW Hop.out.at)
            clear st hcW
            cases hvx : vtxB c ⟨n, a, H, D⟩ with
            | false =>
              rw [hvx] at Hcall
              clear Hst Hop
              refine Hcall.out.mono ?_
              rintro e w8 ⟨rfl, hb8⟩
              have Hg38 := Lib.hid (grown_row (w := w3) Hg3r.out (below_grown hb8) (fun g e => by cases e))
              have Hown8 := Lib.hid (Hown3.out.same fun b h1 h2 => Hg38.out.block b h2 (fun e => by cases e; omega))
              have Hoh8 := Lib.hid (Hoh3.out.kept Hg38.out (.inr fun e => by have := (Hoh3.out.lt R e).1; omega))
              have Hrd8 := Lib.hid (Hrd.out.kept (below_grown hb8) (fun g e => by cases e))
              have hs8 := Hg38.out.size
              have HgW8 := Lib.hid (grownBy_trans Hgr3.out Hg38.out)
              clear hb8 c0 c1 c2 c3
              go_wp2
              go_roundw
              case rel => exact ⟨a + 1, g, q2, by omega, by go_num, Hown8.out.mono hs8, Hok.out, fun x hx => by have := Hord.out x hx; omega, Hin.out, by omega, Hrd8.out, by omega, HgW8.out, Hoh8.out, by omega⟩
              case measure => simp [intOf]; omega
            | true =>
              rw [hvx] at Hcall
              have Hok' := Lib.hid (gOp_push Hok.out hvx Hord.out (fun m hm => Hin.out m (by first | exact Hsub.out.subset hm | exact hm)))
              clear hvx
              refine Hcall.out.mono ?_
              rintro e w8 ⟨rfl, hb8⟩
              have Hg38 := Lib.hid (grown_row (w := w3) Hg3r.out (below_grown hb8) (fun g e => by cases e))
              have Hown8 := Lib.hid (Hown3.out.same fun b h1 h2 => Hg38.out.block b h2 (fun e => by cases e; omega))
              have Hoh8 := Lib.hid (Hoh3.out.kept Hg38.out (.inr fun e => by have := (Hoh3.out.lt R e).1; omega))
              have Hrd8 := Lib.hid (Hrd.out.kept (below_grown hb8) (fun g e => by cases e))
              have hs8 := Hg38.out.size
              have HgW8 := Lib.hid (grownBy_trans Hgr3.out Hg38.out)
              have st := (hb8.block _ Hst.out.lt).trans Hst.out
              have hop8 := Hop.out.below hb8
              have c0 := Str.cell st 0 (v := .int .i64 n) rfl
              have c1 := Str.cell st 1 (v := .int .i64 a) rfl
              have c2 := Str.cell st 2 (v := .slice a7 H.length c7) rfl
              have c3 := Str.cell st 3 (v := .int .i64 D) rfl
              obtain ⟨hfd, hap, hnew⟩ := vertex_new (B := w.heap.size) n a D hop8 hw3
              have Hfd := Lib.hid hfd; clear hfd
              have Hap := Lib.hid hap; clear hap
              have Hnew := Lib.hid hnew; clear hnew hop8 st hb8
              have hel : (g.map Vx.fd).length ≤ 1048576 := by rw [List.length_map]; omega
              have Hex := Lib.hid (show (g ++ [(⟨n, a, H, D⟩ : Vx)]).map Vx.fd = g.map Vx.fd ++ [[.i n, .i a, .l H, .i D]] by rw [List.map_append]; rfl)
              have hB8 : w.heap.size ≤ w8.heap.size := by omega
              generalize g.map Vx.fd = es at *
              go_wp2_with (at_builtin; refine wpList_push_own (Ei := 3) Try.underlying32 vertex_inf rfl (by decide) (by decide) rfl (.tmp 85) (.tmp 87) rfl w.heap.size _ es _ _ _ rfl rfl (by intro u hu; simp at hu; rcases hu with rfl | rfl | rfl | rfl <;> rfl) rfl rfl Hfd.out Hap.out w3.heap.size Hown8.out hs8 Hnew.out hel rfl hB8 ?_; intro v9 w9 hown9 hg9 hat9)
              go_roundw
              case rel => exact ⟨a + 1, g ++ [⟨n, a, H, D⟩], q2, by omega, by go_num, by rw [Hex.out]; exact hown9, Hok'.out, fun x hx => by
                rcases List.mem_append.1 hx with hx | hx
                · have := Hord.out x hx; omega
                · simp at hx; subst hx; exact .inr ⟨rfl, (show (a : Int) < ((a + 1 : Nat) : Int) by omega)⟩, fun m hm => by obtain ⟨z, hz, h⟩ := Hin.out m hm; exact ⟨z, List.mem_append_left _ hz, h⟩, by have := hgl; rw [List.length_append]; simp only [List.length_singleton]; omega, Hrd8.out.kept hg9 (fun g e => by have := (Hown8.out.lt g e).1; omega), by omega, grown_row HgW8.out hg9 (fun g e => (Hown8.out.lt g e).1), Hoh8.out.kept hg9 (Hown8.out.apartI Hoh8.out (by decide)), by have := hg9.size; omega⟩
              case measure => simp [intOf]; omega
          · have hld : decide (weightZ c ps < 2 * totalZ c / 3 + 1) = false := decide_eq_false hlow
            clear k2
            have hgW := grownBy_trans Hgr3.out Hg3r.out
            have hcW := Hc.out _ hgW
            have HgW := Lib.hid hgW; clear hgW
            have st := Hst.out
            have c0 := st.cell 0 (v := .int .i64 n) rfl
            have c1 := st.cell 1 (v := .int .i64 a) rfl
            have c2 := st.cell 2 (v := .slice ap ps.length cp) rfl
            have c3 := st.cell 3 (v := .int .i64 D) rfl
            have Hcall := Lib.hid (HVx.out n a D ap cp ps _ hpl hcW Hop.out.at)
            clear st hcW
            cases hvx : vtxB c ⟨n, a, ps, D⟩ with
            | false =>
              rw [hvx] at Hcall
              clear Hst Hop Hne
              go_wp2_with fail
              refine Hcall.out.mono ?_
              rintro e w8 ⟨rfl, hb8⟩
              have Hg38 := Lib.hid (grown_row (w := w3) Hg3r.out (below_grown hb8) (fun g e => by cases e))
              have Hown8 := Lib.hid (Hown3.out.same fun b h1 h2 => Hg38.out.block b h2 (fun e => by cases e; omega))
              have Hoh8 := Lib.hid (Hoh3.out.kept Hg38.out (.inr fun e => by have := (Hoh3.out.lt R e).1; omega))
              have Hrd8 := Lib.hid (Hrd.out.kept (below_grown hb8) (fun g e => by cases e))
              have hs8 := Hg38.out.size
              have HgW8 := Lib.hid (grownBy_trans Hgr3.out Hg38.out)
              clear hb8 c0 c1 c2 c3
              go_wp2
              go_roundw
              case rel => exact ⟨a + 1, g, q2, by omega, by go_num, Hown8.out.mono hs8, Hok.out, fun x hx => by have := Hord.out x hx; omega, Hin.out, by omega, Hrd8.out, by omega, HgW8.out, Hoh8.out, by omega⟩
              case measure => simp [intOf]; omega
            | true =>
              rw [hvx] at Hcall
              have Hok' := Lib.hid (gOp_push Hok.out hvx Hord.out (fun m hm => Hin.out m (by first | exact Hsub.out.subset hm | exact hm)))
              clear hvx
              go_wp2_with fail
              refine Hcall.out.mono ?_
              rintro e w8 ⟨rfl, hb8⟩
              have Hg38 := Lib.hid (grown_row (w := w3) Hg3r.out (below_grown hb8) (fun g e => by cases e))
              have Hown8 := Lib.hid (Hown3.out.same fun b h1 h2 => Hg38.out.block b h2 (fun e => by cases e; omega))
              have Hoh8 := Lib.hid (Hoh3.out.kept Hg38.out (.inr fun e => by have := (Hoh3.out.lt R e).1; omega))
              have Hrd8 := Lib.hid (Hrd.out.kept (below_grown hb8) (fun g e => by cases e))
              have hs8 := Hg38.out.size
              have HgW8 := Lib.hid (grownBy_trans Hgr3.out Hg38.out)
              have st := (hb8.block _ Hst.out.lt).trans Hst.out
              have hop8 := Hop.out.below hb8
              have c0 := Str.cell st 0 (v := .int .i64 n) rfl
              have c1 := Str.cell st 1 (v := .int .i64 a) rfl
              have c2 := Str.cell st 2 (v := .slice ap ps.length cp) rfl
              have c3 := Str.cell st 3 (v := .int .i64 D) rfl
              obtain ⟨hfd, hap, hnew⟩ := vertex_new (B := w.heap.size) n a D hop8 hw3
              have Hfd := Lib.hid hfd; clear hfd
              have Hap := Lib.hid hap; clear hap
              have Hnew := Lib.hid hnew; clear hnew hop8 st hb8
              have hel : (g.map Vx.fd).length ≤ 1048576 := by rw [List.length_map]; omega
              have Hex := Lib.hid (show (g ++ [(⟨n, a, ps, D⟩ : Vx)]).map Vx.fd = g.map Vx.fd ++ [[.i n, .i a, .l ps, .i D]] by rw [List.map_append]; rfl)
              have hB8 : w.heap.size ≤ w8.heap.size := by omega
              generalize g.map Vx.fd = es at *
              go_wp2_with (at_builtin; refine wpList_push_own (Ei := 3) Try.underlying32 vertex_inf rfl (by decide) (by decide) rfl (.tmp 85) (.tmp 87) rfl w.heap.size _ es _ _ _ rfl rfl (by intro u hu; simp at hu; rcases hu with rfl | rfl | rfl | rfl <;> rfl) rfl rfl Hfd.out Hap.out w3.heap.size Hown8.out hs8 Hnew.out hel rfl hB8 ?_; intro v9 w9 hown9 hg9 hat9)
              go_roundw
              case rel => exact ⟨a + 1, g ++ [⟨n, a, ps, D⟩], q2, by omega, by go_num, by rw [Hex.out]; exact hown9, Hok'.out, fun x hx => by
                rcases List.mem_append.1 hx with hx | hx
                · have := Hord.out x hx; omega
                · simp at hx; subst hx; exact .inr ⟨rfl, (show (a : Int) < ((a + 1 : Nat) : Int) by omega)⟩, fun m hm => by obtain ⟨z, hz, h⟩ := Hin.out m hm; exact ⟨z, List.mem_append_left _ hz, h⟩, by have := hgl; rw [List.length_append]; simp only [List.length_singleton]; omega, Hrd8.out.kept hg9 (fun g e => by have := (Hown8.out.lt g e).1; omega), by omega, grown_row HgW8.out hg9 (fun g e => (Hown8.out.lt g e).1), Hoh8.out.kept hg9 (Hown8.out.apartI Hoh8.out (by decide)), by have := hg9.size; omega⟩
              case measure => simp [intOf]; omega

end Go.Proofs.Ythnbjdijcpcafaa

/- The draw of a part of a graph: what is drawn is a list of vertices in new memory; by a walk of its text; condition: at most 10^6 picks before. -/
namespace Go.Proofs.Ythnbjdijcpcafaa
open Go.RowKit

theorem OwnR.apartB {E E' Ei : TypeId} {sz : Nat} {w : World} {B B' hi : Nat} {v u : Value} {es : List (List Fd)} {bs : List Bool} (h : OwnR E Ei sz w B hi v es) (h' : OwnB E' w B' u bs) (hE : E ≠ E') : u.ownBlock = none ∨ u.ownBlock ≠ v.ownBlock := by
  obtain ⟨cs, h1, _⟩ := h.row
  rcases h'.2 with ⟨rfl, _⟩ | ⟨g, cap, cur, rfl, _, hg, _⟩
  · exact .inl rfl
  · rcases h1.2 with ⟨rfl, _⟩ | ⟨g', cap', cur', rfl, _, hg', _⟩
    · exact .inr (fun e => by cases e)
    · refine .inr fun e => hE ?_
      have e' : g = g' := by cases e; rfl
      subst e'
      rw [hg] at hg'
      cases hg'
      rfl
set_option maxRecDepth 8000 in
set_option maxHeartbeats 4000000 in
theorem drawPart (R p : Nat) (w : World) (c : List Int) (g : List Vx) (ag : Option Addr) (cg : Nat) (fp : List Nat) (hp : p ≤ 1000000) (hv : graphB c g = true) (hgl : g.length ≤ 280) (hps : ∀ x ∈ g, x.ps.length ≤ 100) (hr : Rdr w R p) (hR : R < w.heap.size) (hg : ∀ W, w.grownBy W (some R) → Gr W g (.slice ag g.length cg) fp) :
    Calls Try.prog 34 #[.pointer (some ⟨R, 0, none⟩), .slice ag g.length cg] w fun e w' => ∃ v, ∃ l : List Vx, ∃ p', e = .returned v ∧ OwnR 25 3 4 w' w.heap.size w'.heap.size v (l.map Vx.fd) ∧ l.length ≤ 280 ∧ (∀ x ∈ l, x.ps.length ≤ 100) ∧ Rdr w' R p' ∧ p' ≤ p + 840 ∧ w.grownBy w' (some R) := by
  have hmk : ∀ w, (Instr.makeSlice 71 (.int .i64 (g.length : Int)) (.int .i64 (g.length : Int))).run Try.prog w = .ok (.slice (some ⟨w.heap.size, 0, none⟩) g.length g.length) (w.alloc (.cells (madeCells #[.bool false] g.length) 4)) :=
    fun w => run_make_row' 71 4 (.bool false) 1 Try.underlying71 (by kernel_rfl) rfl .i64 .i64 g.length (by omega) (by omega) w
  have ho1 := ownB_new 4 w g.length (by unfold maxLen; omega)
  have Hr1 := Lib.hid (hr.alloc (.cells (madeCells #[.bool false] g.length) 4)); clear hr
  have Hg1 := Lib.hid (World.grownBy_alloc w (.cells (madeCells #[.bool false] g.length) 4) (some R))
  have Ho1 := Lib.hid ho1; clear ho1
  have HG := Lib.hid hg; clear hg
  have HPst := Lib.hid (fun (i : Nat) (hi : i < g.length) W (h : w.grownBy W (some R)) => spec_l11Past c g (.slice ag g.length cg) fp (i : Int) W hv (by omega) (fun x hx => Nat.le_trans (hps x hx) (by omega)) (.inr ⟨i, hi, rfl⟩) (HG.out W h))
  have Hpl := Lib.hid (pastB_len g)
  have HVx := Lib.hid (graph_vtx hv)
  have HP := Lib.hid hps; clear hps hv
  go_enter Try.func34, Try.ntmps34
  go_wp2
  clear hmk
  generalize (w.alloc (.cells (madeCells #[.bool false] g.length) 4)) = W1 at *
  go_loopw [6] (fun i wr => ∃ (n : Nat) (bs : List Bool) (q : Nat), n ≤ g.length ∧ i = .int .i64 n ∧ bs.length = g.length ∧ OwnB 4 wr w.heap.size (.slice (some ⟨w.heap.size, 0, none⟩) g.length g.length) bs ∧ Rdr wr R q ∧ q ≤ p + 3 * n ∧ w.grownBy wr (some R)) (fun i _ => g.length - (intOf i).toNat)
  case atStart => exact ⟨0, List.replicate g.length false, p, Nat.zero_le _, rfl, by simp, Ho1.out, Hr1.out, by omega, Hg1.out⟩
  case round =>
    clear Ho1 Hr1 Hg1
    obtain ⟨n, bs, q, hn, rfl, hbl, hown, hrd, hq, hgr⟩ := hrel
    have Hown := Lib.hid hown; clear hown
    have Hrd := Lib.hid hrd; clear hrd
    have Hgr := Lib.hid hgr; clear hgr
    by_cases hlt : n < g.length
    case neg =>
      have hv0 : OwnR 25 3 4 (wr.alloc (.cells #[] 25)) w.heap.size (wr.alloc (.cells #[] 25)).heap.size (.slice (some ⟨wr.heap.size, 0, none⟩) 0 0) (([] : List Vx).map Vx.fd) := .nil (World.ownsRow_made wr #[] 0 Hgr.out.size (by simp) (by simp)) (fun g e => by cases e; simp)
      have Hv0 := Lib.hid hv0; clear hv0
      have Hown := Lib.hid (show OwnB 4 (wr.alloc (.cells #[] 25)) _ _ _ from Hown.out.below ((Below.refl _ _).alloc (Nat.le_refl _) _))
      have Hrd := Lib.hid (Hrd.out.alloc (.cells #[] 25))
      have Hgr := Lib.hid (grown_row Hgr.out (World.grownBy_alloc wr (.cells #[] 25) none) (fun g e => by cases e))
      clear HPst Hpl HVx
      go_wp2
      generalize (wr.alloc (.cells #[] 25)) = w2 at *
      generalize wr.heap.size = z2 at *
      go_loopw [9, 10] (fun v i wr => ∃ (k : Nat) (l : List Vx), k ≤ g.length ∧ i = .int .i64 k ∧ l.length ≤ k ∧ (∀ x ∈ l, x.ps.length ≤ 100) ∧ OwnR 25 3 4 wr w.heap.size wr.heap.size v (l.map Vx.fd) ∧ OwnB 4 wr w.heap.size (.slice (some ⟨w.heap.size, 0, none⟩) g.length g.length) bs ∧ Rdr wr R q ∧ w.grownBy wr (some R)) (fun _ i _ => g.length - (intOf i).toNat)
      case atStart => exact ⟨0, [], Nat.zero_le _, rfl, by simp, by simp, Hv0.out, Hown.out, Hrd.out, Hgr.out⟩
      case round =>
        clear Hv0 Hown Hrd Hgr
        obtain ⟨k, l, hk, rfl, hll, hlp, hog, hown, hrd, hgr⟩ := hrel
        have Hog := Lib.hid hog; have Hown := Lib.hid hown; have Hrd := Lib.hid hrd; have Hgr := Lib.hid hgr; have Hlp := Lib.hid hlp; clear hog hown hrd hgr hlp
        by_cases hlt2 : k < g.length
        case neg =>
          go_wp2
          go_ret
          exact ⟨_, l, q, rfl, Hog.out, by omega, Hlp.out, Hrd.out, by omega, Hgr.out⟩
        case pos =>
          obtain ⟨g1, c1', e, _, _, _, hc1, _⟩ := Hown.out.row (by omega)
          simp only [Value.slice.injEq, Option.some.injEq, Addr.mk.injEq, and_true] at e
          obtain ⟨rfl, -, rfl⟩ := e
          have x1 := hc1 k (by omega)
          clear hc1
          generalize bs[k] = b1 at *
          cases b1 with
          | false =>
            go_wp2
            go_roundw
            case rel => exact ⟨k + 1, l, by omega, by go_num, by omega, Hlp.out, Hog.out, Hown.out, Hrd.out, Hgr.out⟩
            case measure => simp [intOf]; omega
          | true =>
            obtain ⟨b, off, hag, hb, hat⟩ := (HG.out wr Hgr.out).at (by omega)
            obtain ⟨q0, q1, ⟨pa, pc, q2, i2, s2⟩, q3⟩ := hat k hlt2
            have hps := HP.out _ (List.getElem_mem hlt2)
            have Hcall := Lib.hid (spec_l11One g[k].r g[k].a g[k].d pa pc g[k].ps wr (by omega) s2 i2)
            have Hex := Lib.hid (show (l ++ [g[k]]).map Vx.fd = l.map Vx.fd ++ [[.i g[k].r, .i g[k].a, .l g[k].ps, .i g[k].d]] by rw [List.map_append]; rfl)
            have Hlp' := Lib.hid (show ∀ x ∈ l ++ [g[k]], x.ps.length ≤ 100 from fun x hx => by
              rcases List.mem_append.1 hx with hx | hx
              · exact Hlp.out x hx
              · rw [List.mem_singleton] at hx; subst hx; exact hps)
            have hel : (l.map Vx.fd).length ≤ 1048576 := by rw [List.length_map]; omega
            have hll2 : (l ++ [g[k]]).length ≤ k + 1 := by rw [List.length_append]; simp; omega
            clear hat s2 i2 hps
            generalize l ++ [g[k]] = l2 at *
            generalize l.map Vx.fd = es at *
            generalize g[k] = x at *
            obtain ⟨xr, xa, xp, xd⟩ := x
            dsimp only at *
            subst hag
            go_wp2_with fail
            refine Hcall.out.mono ?_
            rintro e w6 ⟨v2, rfl, hown2, hb6⟩
            obtain ⟨a2, c2, rfl, _, _⟩ := hown2.ints
            have hs6 := hb6.size
            have hw0 := Hgr.out.size
            have Hog6 := Lib.hid (Hog.out.below hb6 (Nat.le_refl _))
            have Hown6 := Lib.hid (Hown.out.below hb6)
            have Hrd6 := Lib.hid (Hrd.out.kept (below_grown hb6) (fun g e => by cases e))
            have Hgr6 := Lib.hid (grown_row Hgr.out (below_grown hb6) (fun g e => by cases e))
            have hB6 : w.heap.size ≤ w6.heap.size := by omega
            obtain ⟨hfd, hap, hnew⟩ := vertex_new (B := w.heap.size) xr xa xd hown2 hw0
            have Hfd := Lib.hid hfd; clear hfd
            have Hap := Lib.hid hap; clear hap
            have Hnew := Lib.hid hnew; clear hnew hown2 q0 q1 q2 q3 x1
            go_wp2_with (at_builtin; refine wpList_push_own (Ei := 3) Try.underlying32 vertex_inf rfl (by decide) (by decide) rfl (.tmp 72) (.tmp 78) rfl w.heap.size _ es _ _ _ rfl rfl (by intro u hu; simp at hu; rcases hu with rfl | rfl | rfl | rfl <;> rfl) rfl rfl Hfd.out Hap.out wr.heap.size Hog6.out hs6 Hnew.out hel rfl hB6 ?_; intro v8 w8 hbld8 hg8 hat8)
            go_roundw
            case rel => exact ⟨k + 1, l2, by omega, by go_num, hll2, Hlp'.out, by rw [Hex.out]; exact hbld8, Hown6.out.kept hg8 (Hog6.out.apartB Hown6.out (by decide)), Hrd6.out.kept hg8 (fun g e => by have := (Hog6.out.lt g e).1; omega), grown_row Hgr6.out hg8 (fun g e => (Hog6.out.lt g e).1)⟩
            case measure => simp [intOf]; omega
    case pos =>
      have hrr := vtx_round (HVx.out _ (List.getElem_mem hlt))
      have HC := Lib.hid (fun W (h : w.grownBy W (some R)) => by
        obtain ⟨b, off, e, hb, hat⟩ := (HG.out W h).at (by omega)
        exact (⟨b, off, e, (hat n hlt).1⟩ : ∃ b off, ag = some ⟨b, off, none⟩ ∧ W.cell? ⟨b, off + n * 4, none⟩ = some (.int .i64 g[n].r)))
      obtain ⟨gb, off, hag, _⟩ := HC.out wr Hgr.out
      have HC2 := Lib.hid (fun W (h : w.grownBy W (some R)) => by
        obtain ⟨b, o, e, hc⟩ := HC.out W h
        rw [hag] at e
        simp only [Option.some.injEq, Addr.mk.injEq, and_true] at e
        obtain ⟨rfl, rfl⟩ := e
        exact (show W.cell? ⟨gb, off + n * 4, none⟩ = some (.int .i64 g[n].r) from hc))
      obtain ⟨xr, hxr⟩ : ∃ z, z = g[n].r := ⟨_, rfl⟩
      clear HC
      have HC := HC2; clear HC2
      rw [← hxr] at hrr HC
      clear hxr
      subst hag
      have hRn : ∀ W : World, OwnB 4 W w.heap.size (.slice (some ⟨w.heap.size, 0, none⟩) g.length g.length) bs → ((.slice (some ⟨w.heap.size, 0, none⟩) g.length g.length) : Value).ownBlock ≠ some R := fun _ _ => by simp [Value.ownBlock]; omega
      have HRn := Lib.hid hRn; clear hRn
      go_wp2_with fail
      have Hgr := Lib.hid (grownBy_drewN Hgr.out 1); have Hrd := Lib.hid (Hrd.out.drewN 1)
      have Hown := Lib.hid (show OwnB 4 (wr.drewN 1) _ _ _ from Hown.out)
      refine wp_region_held_drew (S := fun W' => W'.cell? ⟨gb, off + n * 4, none⟩ = some (.int .i64 xr)) (by kernel_rfl) (HC.out _ Hgr.out) (fun hH => ?_)
      refine takeH 0 (v := ?vpa1) rfl (by kernel_rfl) (by kernel_rfl) (by kernel_rfl) (fun _ _ _ h => h) hH rfl ?ypa1 ?rpa1
      case ypa1 => intro W hSw; go_simp; try with_reducible rfl
      try simp only [Act.put, List.setIfInBounds_toArray, List.set_cons_zero, List.set_cons_succ]
      refine callH 1 rfl (by kernel_rfl) rfl (fun K hK => ?_)
      go_simp
      refine (pick_any R 5 (q) _ (by omega) Hrd.out (by omega)).mono ?_
      rintro e w3 ⟨y, rfl, hy0, hy1, hr3, hg3⟩
      have Hgr := Lib.hid (grownBy_trans Hgr.out hg3)
      have Hrd := Lib.hid hr3; clear hr3
      have Hown := Lib.hid (Hown.out.kept hg3 (.inr (HRn.out _ Hown.out))); clear hg3
      refine hK.out _ _ (HC.out _ Hgr.out) (fun hH => ?_)
      clear hK K
      try simp only [Act.put, List.setIfInBounds_toArray, List.set_cons_zero, List.set_cons_succ]
      by_cases hy : 0 < y
      case neg =>
        have hyd : decide (0 < y) = false := decide_eq_false hy
        clear hy hy0 hy1
        refine takeH 2 (v := ?vpa2) rfl (by kernel_rfl) (by kernel_rfl) (by kernel_rfl) (fun _ _ _ h => h) hH rfl ?ypa2 ?rpa2
        case ypa2 => intro W hSw; go_simp; try with_reducible rfl
        try simp only [Act.put, List.setIfInBounds_toArray, List.set_cons_zero, List.set_cons_succ]
        refine takeH 3 (v := ?vpa3) rfl (by kernel_rfl) (by kernel_rfl) (by kernel_rfl) (fun _ _ _ h => h) hH rfl ?ypa3 ?rpa3
        case ypa3 => intro W hSw; go_simp; try with_reducible rfl
        try simp only [Act.put, List.setIfInBounds_toArray, List.set_cons_zero, List.set_cons_succ]
        refine skipH 4 rfl (by kernel_rfl) (by kernel_rfl) (by kernel_rfl) (fun _ _ _ h => h) hH rfl ?_
        try simp only [Act.put, List.setIfInBounds_toArray, List.set_cons_zero, List.set_cons_succ]
        refine skipH 5 rfl (by kernel_rfl) (by kernel_rfl) (by kernel_rfl) (fun _ _ _ h => h) hH rfl ?_
        try simp only [Act.put, List.setIfInBounds_toArray, List.set_cons_zero, List.set_cons_succ]
        refine skipH 6 rfl (by kernel_rfl) (by kernel_rfl) (by kernel_rfl) (fun _ _ _ h => h) hH rfl ?_
        try simp only [Act.put, List.setIfInBounds_toArray, List.set_cons_zero, List.set_cons_succ]
        refine skipH 7 rfl (by kernel_rfl) (by kernel_rfl) (by kernel_rfl) (fun _ _ _ h => h) hH rfl ?_
        try simp only [Act.put, List.setIfInBounds_toArray, List.set_cons_zero, List.set_cons_succ]
        refine skipH 8 rfl (by kernel_rfl) (by kernel_rfl) (by kernel_rfl) (fun _ _ _ h => h) hH rfl ?_
        try simp only [Act.put, List.setIfInBounds_toArray, List.set_cons_zero, List.set_cons_succ]
        refine skipH 9 rfl (by kernel_rfl) (by kernel_rfl) (by kernel_rfl) (fun _ _ _ h => h) hH rfl ?_
        try simp only [Act.put, List.setIfInBounds_toArray, List.set_cons_zero, List.set_cons_succ]
        refine skipH 10 rfl (by kernel_rfl) (by kernel_rfl) (by kernel_rfl) (fun _ _ _ h => h) hH rfl ?_
        try simp only [Act.put, List.setIfInBounds_toArray, List.set_cons_zero, List.set_cons_succ]
        refine skipH 11 rfl (by kernel_rfl) (by kernel_rfl) (by kernel_rfl) (fun _ _ _ h => h) hH rfl ?_
        try simp only [Act.put, List.setIfInBounds_toArray, List.set_cons_zero, List.set_cons_succ]
        refine skipH 12 rfl (by kernel_rfl) (by kernel_rfl) (by kernel_rfl) (fun _ _ _ h => h) hH rfl ?_
        try simp only [Act.put, List.setIfInBounds_toArray, List.set_cons_zero, List.set_cons_succ]
        refine takeH 13 (v := ?vpa4) rfl (by kernel_rfl) (by kernel_rfl) (by kernel_rfl) (fun _ _ _ h => h) hH rfl ?ypa4 ?rpa4
        case ypa4 => intro W hSw; go_simp; try with_reducible rfl
        try simp only [Act.put, List.setIfInBounds_toArray, List.set_cons_zero, List.set_cons_succ]
        refine takeH 14 (v := ?vpa5) rfl (by kernel_rfl) (by kernel_rfl) (by kernel_rfl) (fun _ _ _ h => h) hH rfl ?ypa5 ?rpa5
        case ypa5 => intro W hSw; go_simp; try with_reducible rfl
        try simp only [Act.put, List.setIfInBounds_toArray, List.set_cons_zero, List.set_cons_succ]
        refine takeH 15 (v := ?vpa6) rfl (by kernel_rfl) (by kernel_rfl) (by kernel_rfl) (fun _ _ _ h => h) hH rfl ?ypa6 ?rpa6
        case ypa6 => intro W hSw; go_simp; try with_reducible rfl
        try simp only [Act.put, List.setIfInBounds_toArray, List.set_cons_zero, List.set_cons_succ]
        refine callH 16 rfl (by kernel_rfl) rfl (fun K hK => ?_)
        go_simp
        refine (pick_any R 6 (q + 1) _ (by omega) Hrd.out (by omega)).mono ?_
        rintro e w5 ⟨u, rfl, hu0, hu1, hr3, hg3⟩
        have Hgr := Lib.hid (grownBy_trans Hgr.out hg3)
        have Hrd := Lib.hid hr3; clear hr3
        have Hown := Lib.hid (Hown.out.kept hg3 (.inr (HRn.out _ Hown.out))); clear hg3
        refine hK.out _ _ (HC.out _ Hgr.out) (fun hH => ?_)
        clear hK K
        try simp only [Act.put, List.setIfInBounds_toArray, List.set_cons_zero, List.set_cons_succ]
        by_cases hu : u = 0
        case pos =>
          have hud : (u == 0) = true := by rw [beq_iff_eq]; exact hu
          clear hu hu0 hu1
          refine takeH 17 (v := ?vpa7) rfl (by kernel_rfl) (by kernel_rfl) (by kernel_rfl) (fun _ _ _ h => h) hH rfl ?ypa7 ?rpa7
          case ypa7 => intro W hSw; go_simp; try with_reducible rfl
          try simp only [Act.put, List.setIfInBounds_toArray, List.set_cons_zero, List.set_cons_succ]
          refine takeH 18 (v := ?vpa8) rfl (by kernel_rfl) (by kernel_rfl) (by kernel_rfl) (fun _ _ _ h => h) hH rfl ?ypa8 ?rpa8
          case ypa8 => intro W hSw; go_simp; try with_reducible rfl
          try simp only [Act.put, List.setIfInBounds_toArray, List.set_cons_zero, List.set_cons_succ]
          refine wpAnyH_done (by kernel_rfl) ?_ _
          try simp only [Act.put]
          clear hH
          have hww := Hgr.out.size
          have hwI := (Hown.out.lt w.heap.size rfl).2
          go_wp2_with fail
          refine (HPst.out n hlt w5 Hgr.out).mono ?_
          rintro e w6 ⟨u, rfl, hop, hb6⟩
          have Hgr := Lib.hid (grown_row Hgr.out (below_grown hb6) (fun g e => by cases e))
          have Hrd := Lib.hid (Hrd.out.kept (below_grown hb6) (fun g e => by cases e))
          have Hown := Lib.hid (Hown.out.below hb6)
          have hpl := Hpl.out (n : Int)
          generalize pastB g (n : Int) = pb at *
          obtain ⟨au, cu, rfl, _⟩ := hop.slice
          rw [hpl] at hop ⊢
          have Hop := Lib.hid hop; clear hop hb6
          obtain ⟨z6, hz6⟩ : ∃ z, z = w5.heap.size := ⟨_, rfl⟩
          rw [← hz6] at Hop hwI
          clear hz6 HC
          go_wp2
          go_loopw [8] (fun i wr => ∃ (k : Nat) (bs' : List Bool), k ≤ g.length ∧ i = .int .i64 k ∧ bs'.length = g.length ∧ OwnB 4 wr w.heap.size (.slice (some ⟨w.heap.size, 0, none⟩) g.length g.length) bs' ∧ OwnB 4 wr z6 (.slice au g.length cu) pb ∧ Rdr wr R (q + 1 + 1) ∧ w.grownBy wr (some R)) (fun i _ => g.length - (intOf i).toNat)
          case atStart => exact ⟨0, bs, Nat.zero_le _, rfl, hbl, Hown.out, Hop.out, Hrd.out, Hgr.out⟩
          case round =>
            clear Hown Hop Hrd Hgr hbl
            obtain ⟨k, bs', hk, rfl, hbl, hown, hop, hrd, hgr⟩ := hrel
            have Hown := Lib.hid hown; have Hop := Lib.hid hop; have Hrd := Lib.hid hrd; have Hgr := Lib.hid hgr; clear hown hop hrd hgr
            by_cases hlt2 : k < g.length
            case neg =>
              go_wp2
              go_roundw
              case rel => exact ⟨n + 1, bs', q + 1 + 1, by omega, by go_num, hbl, Hown.out, Hrd.out, by omega, Hgr.out⟩
              case measure => simp [intOf]; omega
            case pos =>
              obtain ⟨g1, c1', e, _, _, _, hc1, hf1⟩ := Hown.out.row (by omega)
              simp only [Value.slice.injEq, Option.some.injEq, Addr.mk.injEq, and_true] at e
              obtain ⟨rfl, -, rfl⟩ := e
              have x1 := hc1 k (by omega); have x2 := hf1 k
              have hne : (Value.slice au g.length cu).ownBlock ≠ some w.heap.size := fun e => by have := (Hop.out.lt _ e).1; omega
              obtain ⟨g2, c2', e, _, _, _, hc2, _⟩ := Hop.out.row (by omega)
              simp only [Value.slice.injEq] at e
              obtain ⟨hau, -, -⟩ := e
              have x3 := hc2 k (by omega)
              clear hc1 hf1 hc2
              obtain ⟨o1, o2⟩ := Hown.out.store hbl.symm k (bs'[k] || pb[k])
              have O1 := Lib.hid o1; have O2 := Lib.hid o2; have Hne := Lib.hid hne; clear o1 o2 hne
              have hbs : (bs'.set k (bs'[k] || pb[k])).length = g.length := by rw [List.length_set]; exact hbl
              generalize bs'.set k (bs'[k] || pb[k]) = bs2 at *
              generalize bs'[k] = b1 at *
              generalize pb[k] = b2 at *
              subst hau
              cases b1 with
              | true =>
                simp only [Bool.true_or] at O1 O2
                go_wp2
                go_roundw
                case rel => exact ⟨k + 1, bs2, by omega, by go_num, hbs, O1.out, Hop.out.kept O2.out (.inr Hne.out), Hrd.out.kept O2.out (fun g e => by cases e; exact hR), grown_row Hgr.out O2.out (fun g e => by cases e; exact Nat.le_refl _)⟩
                case measure => simp [intOf]; omega
              | false =>
                simp only [Bool.false_or] at O1 O2
                go_wp2
                go_roundw
                case rel => exact ⟨k + 1, bs2, by omega, by go_num, hbs, O1.out, Hop.out.kept O2.out (.inr Hne.out), Hrd.out.kept O2.out (fun g e => by cases e; exact hR), grown_row Hgr.out O2.out (fun g e => by cases e; exact Nat.le_refl _)⟩
                case measure => simp [intOf]; omega
        case neg =>
          have hud : (u == 0) = false := by rw [beq_eq_false_iff_ne]; exact hu
          clear hu hu0 hu1
          refine takeH 17 (v := ?vpa9) rfl (by kernel_rfl) (by kernel_rfl) (by kernel_rfl) (fun _ _ _ h => h) hH rfl ?ypa9 ?rpa9
          case ypa9 => intro W hSw; go_simp; try with_reducible rfl
          try simp only [Act.put, List.setIfInBounds_toArray, List.set_cons_zero, List.set_cons_succ]
          refine takeH 18 (v := ?vpa10) rfl (by kernel_rfl) (by kernel_rfl) (by kernel_rfl) (fun _ _ _ h => h) hH rfl ?ypa10 ?rpa10
          case ypa10 => intro W hSw; go_simp; try with_reducible rfl
          try simp only [Act.put, List.setIfInBounds_toArray, List.set_cons_zero, List.set_cons_succ]
          refine wpAnyH_done (by kernel_rfl) ?_ _
          try simp only [Act.put]
          clear hH
          go_wp2
          go_roundw
          case rel => exact ⟨n + 1, bs, q + 1 + 1, by omega, by go_num, hbl, Hown.out, Hrd.out, by omega, Hgr.out⟩
          case measure => simp [intOf]; omega
      case pos =>
        have hyd : decide (0 < y) = true := decide_eq_true hy
        clear hy hy0 hy1
        refine takeH 2 (v := ?vpa11) rfl (by kernel_rfl) (by kernel_rfl) (by kernel_rfl) (fun _ _ _ h => h) hH rfl ?ypa11 ?rpa11
        case ypa11 => intro W hSw; go_simp; try with_reducible rfl
        try simp only [Act.put, List.setIfInBounds_toArray, List.set_cons_zero, List.set_cons_succ]
        refine takeH 3 (v := ?vpa12) rfl (by kernel_rfl) (by kernel_rfl) (by kernel_rfl) (fun _ _ _ h => h) hH rfl ?ypa12 ?rpa12
        case ypa12 => intro W hSw; go_simp; try with_reducible rfl
        try simp only [Act.put, List.setIfInBounds_toArray, List.set_cons_zero, List.set_cons_succ]
        refine takeH 4 (v := ?vpa13) rfl (by kernel_rfl) (by kernel_rfl) (by kernel_rfl) (fun _ _ _ h => h) hH rfl ?ypa13 ?rpa13
        case ypa13 => intro W hSw; go_simp; try with_reducible rfl
        try simp only [Act.put, List.setIfInBounds_toArray, List.set_cons_zero, List.set_cons_succ]
        refine takeH 5 (v := ?vpa14) rfl (by kernel_rfl) (by kernel_rfl) (by kernel_rfl) (fun _ _ _ h => h) hH rfl ?ypa14 ?rpa14
        case ypa14 => intro W hSw; go_simp; try with_reducible rfl
        try simp only [Act.put, List.setIfInBounds_toArray, List.set_cons_zero, List.set_cons_succ]
        refine takeH 6 (v := ?vpa15) rfl (by kernel_rfl) (by kernel_rfl) (by kernel_rfl) (fun _ _ _ h => h) hH rfl ?ypa15 ?rpa15
        case ypa15 => intro W hSw; go_simp; try with_reducible rfl
        try simp only [Act.put, List.setIfInBounds_toArray, List.set_cons_zero, List.set_cons_succ]
        refine takeH 7 (v := ?vpa16) rfl (by kernel_rfl) (by kernel_rfl) (by kernel_rfl) (fun _ _ _ h => h) hH rfl ?ypa16 ?rpa16
        case ypa16 => intro W hSw; go_simp; try with_reducible rfl
        try simp only [Act.put, List.setIfInBounds_toArray, List.set_cons_zero, List.set_cons_succ]
        refine takeH 8 (v := ?vpa17) rfl (by kernel_rfl) (by kernel_rfl) (by kernel_rfl) (fun _ _ _ h => h) hH rfl ?ypa17 ?rpa17
        case ypa17 => intro W hSw; go_simp; try with_reducible rfl
        try simp only [Act.put, List.setIfInBounds_toArray, List.set_cons_zero, List.set_cons_succ]
        refine takeH 9 (v := ?vpa18) rfl (by kernel_rfl) (by kernel_rfl) (by kernel_rfl) (fun _ _ _ h => h) hH rfl ?ypa18 ?rpa18
        case ypa18 => intro W hSw; go_simp; try with_reducible rfl
        try simp only [Act.put, List.setIfInBounds_toArray, List.set_cons_zero, List.set_cons_succ]
        refine callH 10 rfl (by kernel_rfl) rfl (fun K hK => ?_)
        go_simp
        refine (pick_any R 3 (q + 1) _ (by omega) Hrd.out (by omega)).mono ?_
        rintro e w4 ⟨z, rfl, hz0, hz1, hr3, hg3⟩
        have Hgr := Lib.hid (grownBy_trans Hgr.out hg3)
        have Hrd := Lib.hid hr3; clear hr3
        have Hown := Lib.hid (Hown.out.kept hg3 (.inr (HRn.out _ Hown.out))); clear hg3
        refine hK.out _ _ (HC.out _ Hgr.out) (fun hH => ?_)
        clear hK K
        try simp only [Act.put, List.setIfInBounds_toArray, List.set_cons_zero, List.set_cons_succ]
        have hwz : IntKind.i64.wrap (xr + z) = xr + z := IntWalk.i64_in _ (by omega)
        by_cases h6 : xr + z < 6
        case pos =>
          have h6d : decide (xr + z < 6) = true := decide_eq_true h6
          clear h6 hz0 hz1
          refine takeH 11 (v := ?vpa19) rfl (by kernel_rfl) (by kernel_rfl) (by kernel_rfl) (fun _ _ _ h => h) hH rfl ?ypa19 ?rpa19
          case ypa19 => intro W hSw; go_simp; try with_reducible rfl
          try simp only [Act.put, List.setIfInBounds_toArray, List.set_cons_zero, List.set_cons_succ]
          refine takeH 12 (v := ?vpa20) rfl (by kernel_rfl) (by kernel_rfl) (by kernel_rfl) (fun _ _ _ h => h) hH rfl ?ypa20 ?rpa20
          case ypa20 => intro W hSw; go_simp; try with_reducible rfl
          try simp only [Act.put, List.setIfInBounds_toArray, List.set_cons_zero, List.set_cons_succ]
          refine takeH 13 (v := ?vpa21) rfl (by kernel_rfl) (by kernel_rfl) (by kernel_rfl) (fun _ _ _ h => h) hH rfl ?ypa21 ?rpa21
          case ypa21 => intro W hSw; go_simp; try with_reducible rfl
          try simp only [Act.put, List.setIfInBounds_toArray, List.set_cons_zero, List.set_cons_succ]
          refine takeH 14 (v := ?vpa22) rfl (by kernel_rfl) (by kernel_rfl) (by kernel_rfl) (fun _ _ _ h => h) hH rfl ?ypa22 ?rpa22
          case ypa22 => intro W hSw; go_simp; try with_reducible rfl
          try simp only [Act.put, List.setIfInBounds_toArray, List.set_cons_zero, List.set_cons_succ]
          refine skipH 15 rfl (by kernel_rfl) (by kernel_rfl) (by kernel_rfl) (fun _ _ _ h => h) hH rfl ?_
          try simp only [Act.put, List.setIfInBounds_toArray, List.set_cons_zero, List.set_cons_succ]
          refine skipH 16 rfl (by kernel_rfl) (by kernel_rfl) (by kernel_rfl) (fun _ _ _ h => h) hH rfl ?_
          try simp only [Act.put, List.setIfInBounds_toArray, List.set_cons_zero, List.set_cons_succ]
          refine skipH 17 rfl (by kernel_rfl) (by kernel_rfl) (by kernel_rfl) (fun _ _ _ h => h) hH rfl ?_
          try simp only [Act.put, List.setIfInBounds_toArray, List.set_cons_zero, List.set_cons_succ]
          refine takeH 18 (v := ?vpa23) rfl (by kernel_rfl) (by kernel_rfl) (by kernel_rfl) (fun _ _ _ h => h) hH rfl ?ypa23 ?rpa23
          case ypa23 => intro W hSw; go_simp; try with_reducible rfl
          try simp only [Act.put, List.setIfInBounds_toArray, List.set_cons_zero, List.set_cons_succ]
          refine wpAnyH_done (by kernel_rfl) ?_ _
          try simp only [Act.put]
          clear hH
          have hww := Hgr.out.size
          have hwI := (Hown.out.lt w.heap.size rfl).2
          go_wp2_with fail
          refine (HPst.out n hlt w4 Hgr.out).mono ?_
          rintro e w6 ⟨u, rfl, hop, hb6⟩
          have Hgr := Lib.hid (grown_row Hgr.out (below_grown hb6) (fun g e => by cases e))
          have Hrd := Lib.hid (Hrd.out.kept (below_grown hb6) (fun g e => by cases e))
          have Hown := Lib.hid (Hown.out.below hb6)
          have hpl := Hpl.out (n : Int)
          generalize pastB g (n : Int) = pb at *
          obtain ⟨au, cu, rfl, _⟩ := hop.slice
          rw [hpl] at hop ⊢
          have Hop := Lib.hid hop; clear hop hb6
          obtain ⟨z6, hz6⟩ : ∃ z, z = w4.heap.size := ⟨_, rfl⟩
          rw [← hz6] at Hop hwI
          clear hz6 HC
          go_wp2
          go_loopw [8] (fun i wr => ∃ (k : Nat) (bs' : List Bool), k ≤ g.length ∧ i = .int .i64 k ∧ bs'.length = g.length ∧ OwnB 4 wr w.heap.size (.slice (some ⟨w.heap.size, 0, none⟩) g.length g.length) bs' ∧ OwnB 4 wr z6 (.slice au g.length cu) pb ∧ Rdr wr R (q + 1 + 1) ∧ w.grownBy wr (some R)) (fun i _ => g.length - (intOf i).toNat)
          case atStart => exact ⟨0, bs, Nat.zero_le _, rfl, hbl, Hown.out, Hop.out, Hrd.out, Hgr.out⟩
          case round =>
            clear Hown Hop Hrd Hgr hbl
            obtain ⟨k, bs', hk, rfl, hbl, hown, hop, hrd, hgr⟩ := hrel
            have Hown := Lib.hid hown; have Hop := Lib.hid hop; have Hrd := Lib.hid hrd; have Hgr := Lib.hid hgr; clear hown hop hrd hgr
            by_cases hlt2 : k < g.length
            case neg =>
              go_wp2
              go_roundw
              case rel => exact ⟨n + 1, bs', q + 1 + 1, by omega, by go_num, hbl, Hown.out, Hrd.out, by omega, Hgr.out⟩
              case measure => simp [intOf]; omega
            case pos =>
              obtain ⟨g1, c1', e, _, _, _, hc1, hf1⟩ := Hown.out.row (by omega)
              simp only [Value.slice.injEq, Option.some.injEq, Addr.mk.injEq, and_true] at e
              obtain ⟨rfl, -, rfl⟩ := e
              have x1 := hc1 k (by omega); have x2 := hf1 k
              have hne : (Value.slice au g.length cu).ownBlock ≠ some w.heap.size := fun e => by have := (Hop.out.lt _ e).1; omega
              obtain ⟨g2, c2', e, _, _, _, hc2, _⟩ := Hop.out.row (by omega)
              simp only [Value.slice.injEq] at e
              obtain ⟨hau, -, -⟩ := e
              have x3 := hc2 k (by omega)
              clear hc1 hf1 hc2
              obtain ⟨o1, o2⟩ := Hown.out.store hbl.symm k (bs'[k] || pb[k])
              have O1 := Lib.hid o1; have O2 := Lib.hid o2; have Hne := Lib.hid hne; clear o1 o2 hne
              have hbs : (bs'.set k (bs'[k] || pb[k])).length = g.length := by rw [List.length_set]; exact hbl
              generalize bs'.set k (bs'[k] || pb[k]) = bs2 at *
              generalize bs'[k] = b1 at *
              generalize pb[k] = b2 at *
              subst hau
              cases b1 with
              | true =>
                simp only [Bool.true_or] at O1 O2
                go_wp2
                go_roundw
                case rel => exact ⟨k + 1, bs2, by omega, by go_num, hbs, O1.out, Hop.out.kept O2.out (.inr Hne.out), Hrd.out.kept O2.out (fun g e => by cases e; exact hR), grown_row Hgr.out O2.out (fun g e => by cases e; exact Nat.le_refl _)⟩
                case measure => simp [intOf]; omega
              | false =>
                simp only [Bool.false_or] at O1 O2
                go_wp2
                go_roundw
                case rel => exact ⟨k + 1, bs2, by omega, by go_num, hbs, O1.out, Hop.out.kept O2.out (.inr Hne.out), Hrd.out.kept O2.out (fun g e => by cases e; exact hR), grown_row Hgr.out O2.out (fun g e => by cases e; exact Nat.le_refl _)⟩
                case measure => simp [intOf]; omega
        case neg =>
          have h6d : decide (xr + z < 6) = false := decide_eq_false h6
          clear h6 hz0 hz1
          refine takeH 11 (v := ?vpa24) rfl (by kernel_rfl) (by kernel_rfl) (by kernel_rfl) (fun _ _ _ h => h) hH rfl ?ypa24 ?rpa24
          case ypa24 => intro W hSw; go_simp; try with_reducible rfl
          try simp only [Act.put, List.setIfInBounds_toArray, List.set_cons_zero, List.set_cons_succ]
          refine takeH 12 (v := ?vpa25) rfl (by kernel_rfl) (by kernel_rfl) (by kernel_rfl) (fun _ _ _ h => h) hH rfl ?ypa25 ?rpa25
          case ypa25 => intro W hSw; go_simp; try with_reducible rfl
          try simp only [Act.put, List.setIfInBounds_toArray, List.set_cons_zero, List.set_cons_succ]
          refine takeH 13 (v := ?vpa26) rfl (by kernel_rfl) (by kernel_rfl) (by kernel_rfl) (fun _ _ _ h => h) hH rfl ?ypa26 ?rpa26
          case ypa26 => intro W hSw; go_simp; try with_reducible rfl
          try simp only [Act.put, List.setIfInBounds_toArray, List.set_cons_zero, List.set_cons_succ]
          refine takeH 14 (v := ?vpa27) rfl (by kernel_rfl) (by kernel_rfl) (by kernel_rfl) (fun _ _ _ h => h) hH rfl ?ypa27 ?rpa27
          case ypa27 => intro W hSw; go_simp; try with_reducible rfl
          try simp only [Act.put, List.setIfInBounds_toArray, List.set_cons_zero, List.set_cons_succ]
          refine takeH 15 (v := ?vpa28) rfl (by kernel_rfl) (by kernel_rfl) (by kernel_rfl) (fun _ _ _ h => h) hH rfl ?ypa28 ?rpa28
          case ypa28 => intro W hSw; go_simp; try with_reducible rfl
          try simp only [Act.put, List.setIfInBounds_toArray, List.set_cons_zero, List.set_cons_succ]
          refine callH 16 rfl (by kernel_rfl) rfl (fun K hK => ?_)
          go_simp
          refine (pick_any R 6 (q + 1 + 1) _ (by omega) Hrd.out (by omega)).mono ?_
          rintro e w5 ⟨u, rfl, hu0, hu1, hr3, hg3⟩
          have Hgr := Lib.hid (grownBy_trans Hgr.out hg3)
          have Hrd := Lib.hid hr3; clear hr3
          have Hown := Lib.hid (Hown.out.kept hg3 (.inr (HRn.out _ Hown.out))); clear hg3
          refine hK.out _ _ (HC.out _ Hgr.out) (fun hH => ?_)
          clear hK K
          try simp only [Act.put, List.setIfInBounds_toArray, List.set_cons_zero, List.set_cons_succ]
          by_cases hu : u = 0
          case pos =>
            have hud : (u == 0) = true := by rw [beq_iff_eq]; exact hu
            clear hu hu0 hu1
            refine takeH 17 (v := ?vpa29) rfl (by kernel_rfl) (by kernel_rfl) (by kernel_rfl) (fun _ _ _ h => h) hH rfl ?ypa29 ?rpa29
            case ypa29 => intro W hSw; go_simp; try with_reducible rfl
            try simp only [Act.put, List.setIfInBounds_toArray, List.set_cons_zero, List.set_cons_succ]
            refine takeH 18 (v := ?vpa30) rfl (by kernel_rfl) (by kernel_rfl) (by kernel_rfl) (fun _ _ _ h => h) hH rfl ?ypa30 ?rpa30
            case ypa30 => intro W hSw; go_simp; try with_reducible rfl
            try simp only [Act.put, List.setIfInBounds_toArray, List.set_cons_zero, List.set_cons_succ]
            refine wpAnyH_done (by kernel_rfl) ?_ _
            try simp only [Act.put]
            clear hH
            have hww := Hgr.out.size
            have hwI := (Hown.out.lt w.heap.size rfl).2
            go_wp2_with fail
            refine (HPst.out n hlt w5 Hgr.out).mono ?_
            rintro e w6 ⟨u, rfl, hop, hb6⟩
            have Hgr := Lib.hid (grown_row Hgr.out (below_grown hb6) (fun g e => by cases e))
            have Hrd := Lib.hid (Hrd.out.kept (below_grown hb6) (fun g e => by cases e))
            have Hown := Lib.hid (Hown.out.below hb6)
            have hpl := Hpl.out (n : Int)
            generalize pastB g (n : Int) = pb at *
            obtain ⟨au, cu, rfl, _⟩ := hop.slice
            rw [hpl] at hop ⊢
            have Hop := Lib.hid hop; clear hop hb6
            obtain ⟨z6, hz6⟩ : ∃ z, z = w5.heap.size := ⟨_, rfl⟩
            rw [← hz6] at Hop hwI
            clear hz6 HC
            go_wp2
            go_loopw [8] (fun i wr => ∃ (k : Nat) (bs' : List Bool), k ≤ g.length ∧ i = .int .i64 k ∧ bs'.length = g.length ∧ OwnB 4 wr w.heap.size (.slice (some ⟨w.heap.size, 0, none⟩) g.length g.length) bs' ∧ OwnB 4 wr z6 (.slice au g.length cu) pb ∧ Rdr wr R (q + 1 + 1 + 1) ∧ w.grownBy wr (some R)) (fun i _ => g.length - (intOf i).toNat)
            case atStart => exact ⟨0, bs, Nat.zero_le _, rfl, hbl, Hown.out, Hop.out, Hrd.out, Hgr.out⟩
            case round =>
              clear Hown Hop Hrd Hgr hbl
              obtain ⟨k, bs', hk, rfl, hbl, hown, hop, hrd, hgr⟩ := hrel
              have Hown := Lib.hid hown; have Hop := Lib.hid hop; have Hrd := Lib.hid hrd; have Hgr := Lib.hid hgr; clear hown hop hrd hgr
              by_cases hlt2 : k < g.length
              case neg =>
                go_wp2
                go_roundw
                case rel => exact ⟨n + 1, bs', q + 1 + 1 + 1, by omega, by go_num, hbl, Hown.out, Hrd.out, by omega, Hgr.out⟩
                case measure => simp [intOf]; omega
              case pos =>
                obtain ⟨g1, c1', e, _, _, _, hc1, hf1⟩ := Hown.out.row (by omega)
                simp only [Value.slice.injEq, Option.some.injEq, Addr.mk.injEq, and_true] at e
                obtain ⟨rfl, -, rfl⟩ := e
                have x1 := hc1 k (by omega); have x2 := hf1 k
                have hne : (Value.slice au g.length cu).ownBlock ≠ some w.heap.size := fun e => by have := (Hop.out.lt _ e).1; omega
                obtain ⟨g2, c2', e, _, _, _, hc2, _⟩ := Hop.out.row (by omega)
                simp only [Value.slice.injEq] at e
                obtain ⟨hau, -, -⟩ := e
                have x3 := hc2 k (by omega)
                clear hc1 hf1 hc2
                obtain ⟨o1, o2⟩ := Hown.out.store hbl.symm k (bs'[k] || pb[k])
                have O1 := Lib.hid o1; have O2 := Lib.hid o2; have Hne := Lib.hid hne; clear o1 o2 hne
                have hbs : (bs'.set k (bs'[k] || pb[k])).length = g.length := by rw [List.length_set]; exact hbl
                generalize bs'.set k (bs'[k] || pb[k]) = bs2 at *
                generalize bs'[k] = b1 at *
                generalize pb[k] = b2 at *
                subst hau
                cases b1 with
                | true =>
                  simp only [Bool.true_or] at O1 O2
                  go_wp2
                  go_roundw
                  case rel => exact ⟨k + 1, bs2, by omega, by go_num, hbs, O1.out, Hop.out.kept O2.out (.inr Hne.out), Hrd.out.kept O2.out (fun g e => by cases e; exact hR), grown_row Hgr.out O2.out (fun g e => by cases e; exact Nat.le_refl _)⟩
                  case measure => simp [intOf]; omega
                | false =>
                  simp only [Bool.false_or] at O1 O2
                  go_wp2
                  go_roundw
                  case rel => exact ⟨k + 1, bs2, by omega, by go_num, hbs, O1.out, Hop.out.kept O2.out (.inr Hne.out), Hrd.out.kept O2.out (fun g e => by cases e; exact hR), grown_row Hgr.out O2.out (fun g e => by cases e; exact Nat.le_refl _)⟩
                  case measure => simp [intOf]; omega
          case neg =>
            have hud : (u == 0) = false := by rw [beq_eq_false_iff_ne]; exact hu
            clear hu hu0 hu1
            refine takeH 17 (v := ?vpa31) rfl (by kernel_rfl) (by kernel_rfl) (by kernel_rfl) (fun _ _ _ h => h) hH rfl ?ypa31 ?rpa31
            case ypa31 => intro W hSw; go_simp; try with_reducible rfl
            try simp only [Act.put, List.setIfInBounds_toArray, List.set_cons_zero, List.set_cons_succ]
            refine takeH 18 (v := ?vpa32) rfl (by kernel_rfl) (by kernel_rfl) (by kernel_rfl) (fun _ _ _ h => h) hH rfl ?ypa32 ?rpa32
            case ypa32 => intro W hSw; go_simp; try with_reducible rfl
            try simp only [Act.put, List.setIfInBounds_toArray, List.set_cons_zero, List.set_cons_succ]
            refine wpAnyH_done (by kernel_rfl) ?_ _
            try simp only [Act.put]
            clear hH
            go_wp2
            go_roundw
            case rel => exact ⟨n + 1, bs, q + 1 + 1 + 1, by omega, by go_num, hbl, Hown.out, Hrd.out, by omega, Hgr.out⟩
            case measure => simp [intOf]; omega

end Go.Proofs.Ythnbjdijcpcafaa

/- The draw of two graphs: what is drawn reads as two graphs; by a walk of its text; no conditions of our own. -/
namespace Go.Proofs.Ythnbjdijcpcafaa
open Go.RowKit

theorem gr_drop {w : World} {g : List Vx} {va : Option Addr} {vc : Nat} {fp : List Nat} (h : Gr w g (.slice va g.length vc) fp) (_hc : g.length ≤ vc) {k : Nat} (hk : k ≤ g.length) :
    ∃ ad ac fr, (∀ W, (Instr.slice 32 (.slice va g.length vc) (some (.int .i64 k)) none none).run Try.prog W = .ok (.slice ad (g.drop k).length ac) W) ∧ Gr w (g.drop k) (.slice ad (g.drop k).length ac) fr := by
  obtain ⟨fr, hr⟩ := h.tail k hk
  have ht : Try.prog.underlying 32 = some (.slice (Try.prog.elem 32)) := by kernel_rfl
  have hs : ∀ W, (sizeOf (Try.prog.elem 32)).run Try.prog W = .ok 4 W := fun W => by kernel_rfl
  refine ⟨_, _, fr, fun W => ?_, by rw [List.length_drop]; exact hr⟩
  rw [run_slice_l (ht := ht) (h0 := by omega) (h1 := by omega), hs]
  simp only [Result.andThen, sliced, Int.toNat_natCast, List.length_drop]
/-- What is drawn. -/
def MgD (w : World) (e : Ending) (w' : World) : Prop := ∃ vc c va, ∃ ga : List Vx, ∃ fa vb, ∃ gb : List Vx, ∃ fb, e = .returned (.tuple #[vc, va, vb]) ∧ Own 3 w' w.heap.size vc c ∧ c.length ≤ 11 ∧ Gr w' ga va fa ∧ ga.length ≤ 281 ∧ (∀ x ∈ ga, x.ps.length ≤ 100) ∧ Gr w' gb vb fb ∧ gb.length ≤ 281 ∧ (∀ x ∈ gb, x.ps.length ≤ 100) ∧ Below w.heap.size w w'
set_option maxRecDepth 8000 in
set_option maxHeartbeats 4000000 in
theorem spec_DrawGraphMerge (a : Option Addr) (cap : Nat) (zs : List Int) (w : World) (h : CodeAt w a cap zs) :
    Calls Try.prog 12 #[.slice a zs.length cap] w (MgD w) := by
  have hpost : ∀ (vc : Value) (c : List Int) (va : Value) (ga : List Vx) (fa : List Nat) (vb : Value) (gb : List Vx) (fb : List Nat) (w' : World), Own 3 w' w.heap.size vc c → c.length ≤ 11 → Gr w' ga va fa → ga.length ≤ 281 → (∀ x ∈ ga, x.ps.length ≤ 100) → Gr w' gb vb fb → gb.length ≤ 281 → (∀ x ∈ gb, x.ps.length ≤ 100) → Below w.heap.size w w' → MgD w (.returned (.tuple #[vc, va, vb])) w' := fun vc c va ga fa vb gb fb w' h1 h2 h3 h4 h5 h6 h7 h8 h9 => ⟨vc, c, va, ga, fa, vb, gb, fb, rfl, h1, h2, h3, h4, h5, h6, h7, h8, h9⟩
  have Hpost := Lib.hid hpost; clear hpost
  generalize MgD w = POST at *
  have Hop := Lib.hid (open_any a cap zs _ h); clear h
  go_enter Try.func12, Try.ntmps12
  go_wp2_with fail
  refine Hop.out.mono ?_
  rintro e w1 ⟨R, rfl, hR0, hR1, hr1, hb1⟩
  have Hr := Lib.hid hr1; have Hb := Lib.hid hb1; have hs1 := hb1.size; clear hr1 hb1
  go_wp2_with fail
  refine (drawGoodV R 0 w1 (by omega) Hr.out (by omega)).mono ?_
  rintro e w2 ⟨vc, c, p2, rfl, hoc, hv, hr2, hp2, hg2⟩
  obtain ⟨ac, cc, rfl, _, _⟩ := hoc.ints
  obtain ⟨hc1, hc7⟩ := validB_len hv
  have hcR : (Value.slice ac c.length cc).ownBlock ≠ some R := fun e => by have := (hoc.lt _ e).1; omega
  have HcR := Lib.hid hcR; clear hcR
  have hs2 := hg2.size
  have Hoc := Lib.hid hoc; have Hoc2 := Lib.hid hoc; clear hoc
  have Hr := Lib.hid hr2; clear hr2
  have Hb := Lib.hid (Hb.out.grown hg2 Hb.out.size (fun g e => by cases e; omega)); clear hg2
  go_wp2_with fail
  refine (pick_any R 8 (p2) w2 (by omega) Hr.out (by omega)).mono ?_
  rintro e w3 ⟨n, rfl, hn0, hn1, hr, hg⟩
  have Hr := Lib.hid hr; clear hr
  have hsw3 := hg.size
  have Hoc := Lib.hid (Hoc.out.kept hg (.inr HcR.out))
  have Hb := Lib.hid (Hb.out.grown hg Hb.out.size (fun g e => by cases e; omega))
  clear hg
  have HG := Lib.hid (drawGraphV R (p2 + 1) n w3 ac cc c (by omega) hn0 (by omega) hv Hr.out (by omega) (fun W hW => (Hoc.out.kept hW (.inr HcR.out)).at))
  go_wp2_with fail
  refine HG.out.mono ?_
  rintro e w4 ⟨vg, gg, p4, rfl, hog, hgk, hgl, hr, hp4, hg⟩
  have Hr := Lib.hid hr; clear hr
  have hsw4 := hg.size
  have Hoc := Lib.hid (Hoc.out.kept hg (.inr HcR.out))
  have Hb := Lib.hid (Hb.out.grown hg Hb.out.size (fun g e => by cases e; omega))
  clear hg
  obtain ⟨fg, hgr, hfg⟩ := ownR_gr hog
  obtain ⟨ag, cg, rfl⟩ := hgr.slice
  have hRf : R ∉ fg := fun hm => by have := hfg _ hm; omega
  have HGr := Lib.hid (fun W (hW : w4.grownBy W (some R)) => (show Gr W gg (.slice ag gg.length cg) fg from Rd.grown hW hgr (fun r e hm => by cases e; exact hRf hm)))
  have Hgv := Lib.hid (gOp_graph hv hgk)
  have hpg := gOk_ps hgk.1
  have Hpg := Lib.hid (show ∀ x ∈ gg, x.ps.length ≤ 100 from fun x hx => Nat.le_trans (hpg x hx) (by omega))
  clear hog hgk hgr hfg hRf hpg HG
  go_wp2_with fail
  refine (drawPart R (p4) w4 c gg ag cg fg (by omega) Hgv.out (by omega) Hpg.out Hr.out (by omega) (fun W hW => HGr.out W hW)).mono ?_
  rintro e w5 ⟨va, la, p5, rfl, ho, hla, hpa, hr, hp5, hg⟩
  have Hr := Lib.hid hr; clear hr
  have Hg45 := Lib.hid hg
  have hsw5 := hg.size
  have Hoc := Lib.hid (Hoc.out.kept hg (.inr HcR.out))
  have Hb := Lib.hid (Hb.out.grown hg Hb.out.size (fun g e => by cases e; omega))
  clear hg
  have Ha := Lib.hid ho; clear ho
  have Hpa := Lib.hid hpa; clear hpa
  go_wp2_with fail
  refine (drawPart R (p5) w5 c gg ag cg fg (by omega) Hgv.out (by omega) Hpg.out Hr.out (by omega) (fun W hW => HGr.out W (grownBy_trans Hg45.out hW))).mono ?_
  rintro e w6 ⟨vb, lb, p6, rfl, ho, hlb, hpb, hr, hp6, hg⟩
  have Hr := Lib.hid hr; clear hr
  have hsw6 := hg.size
  have Hoc := Lib.hid (Hoc.out.kept hg (.inr HcR.out))
  have Ha := Lib.hid (show OwnR 25 3 4 w6 (w4.heap.size) (w5.heap.size) (va) (la.map Vx.fd) from Ha.out.same fun b h1 h2 => hg.block b (by omega) (fun e => by cases e; omega))
  have Hb := Lib.hid (Hb.out.grown hg Hb.out.size (fun g e => by cases e; omega))
  clear hg
  have Hb2 := Lib.hid ho; clear ho
  have Hpb := Lib.hid hpb; clear hpb
  clear HGr Hg45 Hgv Hpg
  go_wp2_with fail
  refine (pick_any R 10 (p6) w6 (by omega) Hr.out (by omega)).mono ?_
  rintro e w7 ⟨s, rfl, hs0, hs1, hr, hg⟩
  have Hr := Lib.hid hr; clear hr
  have hsw7 := hg.size
  have Hoc := Lib.hid (Hoc.out.kept hg (.inr HcR.out))
  have Ha := Lib.hid (show OwnR 25 3 4 w7 (w4.heap.size) (w5.heap.size) (va) (la.map Vx.fd) from Ha.out.same fun b h1 h2 => hg.block b (by omega) (fun e => by cases e; omega))
  have Hb2 := Lib.hid (show OwnR 25 3 4 w7 (w5.heap.size) (w6.heap.size) (vb) (lb.map Vx.fd) from Hb2.out.same fun b h1 h2 => hg.block b (by omega) (fun e => by cases e; omega))
  have Hb := Lib.hid (Hb.out.grown hg Hb.out.size (fun g e => by cases e; omega))
  clear hg
  obtain ⟨aa, ca, rfl, _⟩ := Ha.out.slice
  obtain ⟨ab, cb, rfl, _⟩ := Hb2.out.slice
  simp only [List.length_map] at Ha Hb2 ⊢
  by_cases h0 : s = 0
  case pos =>
    subst h0
    by_cases hbl : lb.length = 0
    case pos =>
      have hb0 : decide ((0 : Int) < (lb.length : Int)) = false := decide_eq_false (by omega)
      have hb0' : ¬ (0 : Int) < (lb.length : Int) := by omega
      clear hbl
      obtain ⟨fa, ha1, _⟩ := ownR_gr Ha.out
      obtain ⟨fb, hb1, _⟩ := ownR_gr Hb2.out
      have OC := Lib.hid (show Own 3 _ w.heap.size _ c from Own.mono Hoc.out (by omega))
      have BT := Lib.hid Hb.out
      have GA := Lib.hid ha1; have GB := Lib.hid hb1
      go_wp2
      refine bodyPost_ret (v := .tuple #[.slice ac c.length cc, .slice aa la.length ca, .slice ab lb.length cb]) (by simp [results, Try.f12, go_sem]) rfl ?_
      exact Hpost.out _ c _ la _ _ lb _ _ OC.out (by omega) GA.out (by omega) Hpa.out GB.out (by omega) Hpb.out BT.out
    case neg =>
      have hb0 : decide ((0 : Int) < (lb.length : Int)) = true := decide_eq_true (by omega)
      have hb0' : (0 : Int) < (lb.length : Int) := by omega
      go_wp2_with fail
      refine (pick_any R (lb.length : Int) (p6 + 1) w7 (by omega) Hr.out (by omega)).mono ?_
      rintro e w8 ⟨k, rfl, hk0, hk1, hr, hg⟩
      have Hr := Lib.hid hr; clear hr
      have hsw8 := hg.size
      have Hoc := Lib.hid (Hoc.out.kept hg (.inr HcR.out))
      have Ha := Lib.hid (show OwnR 25 3 4 w8 (w4.heap.size) (w5.heap.size) (.slice aa la.length ca) (la.map Vx.fd) from Ha.out.same fun b h1 h2 => hg.block b (by omega) (fun e => by cases e; omega))
      have Hb2 := Lib.hid (show OwnR 25 3 4 w8 (w5.heap.size) (w6.heap.size) (.slice ab lb.length cb) (lb.map Vx.fd) from Hb2.out.same fun b h1 h2 => hg.block b (by omega) (fun e => by cases e; omega))
      have Hb := Lib.hid (Hb.out.grown hg Hb.out.size (fun g e => by cases e; omega))
      clear hg
      obtain ⟨k, rfl⟩ := Int.eq_ofNat_of_zero_le hk0
      have hk : k < lb.length := by omega
      go_wp2_with fail
      refine (pick_any R 250 (p6 + 1 + 1) w8 (by omega) Hr.out (by omega)).mono ?_
      rintro e w9 ⟨d, rfl, hd0, hd1, hr, hg⟩
      have Hr := Lib.hid hr; clear hr
      have hsw9 := hg.size
      have Hoc := Lib.hid (Hoc.out.kept hg (.inr HcR.out))
      have Ha := Lib.hid (show OwnR 25 3 4 w9 (w4.heap.size) (w5.heap.size) (.slice aa la.length ca) (la.map Vx.fd) from Ha.out.same fun b h1 h2 => hg.block b (by omega) (fun e => by cases e; omega))
      have Hb2 := Lib.hid (show OwnR 25 3 4 w9 (w5.heap.size) (w6.heap.size) (.slice ab lb.length cb) (lb.map Vx.fd) from Hb2.out.same fun b h1 h2 => hg.block b (by omega) (fun e => by cases e; omega))
      have Hb := Lib.hid (Hb.out.grown hg Hb.out.size (fun g e => by cases e; omega))
      clear hg
      obtain ⟨bb, cb', e, hBg, hgh, _⟩ := Hb2.out.head (by rw [List.length_map]; omega)
      simp only [Value.slice.injEq] at e
      obtain ⟨rfl, -, -⟩ := e
      obtain ⟨q0, q1, ⟨pa, pc, q2⟩, q3, f0, f1, f2, f3⟩ := vx_cells Hb2.out hk
      have hob := Hb2.out
      have Hb3 := Lib.hid (show OwnR 25 3 4 (w9.setCell ⟨bb, k * 4 + 3, none⟩ (.int .i64 d)) _ _ _ _ from vx_setI hob rfl hk 3 (by omega) d ⟨lb[k].r, lb[k].a, lb[k].ps, d⟩ rfl)
      have Ha3 := Lib.hid (show OwnR 25 3 4 (w9.setCell ⟨bb, k * 4 + 3, none⟩ (.int .i64 d)) _ _ _ _ from Ha.out.same fun b h1 h2 => (grownBy_set w9 bb _ _).block b (by omega) (fun e => by cases e; omega))
      have hcb : (Value.slice ac c.length cc).ownBlock ≠ some bb := fun e => by have := (Hoc2.out.lt _ e).2; omega
      have Hoc3 := Lib.hid (Hoc.out.set_other hcb (k * 4 + 3) (.int .i64 d))
      have Hbt := Lib.hid (Hb.out.setCell (p := ⟨bb, k * 4 + 3, none⟩) (by simp only; omega) (.int .i64 d))
      have hpk := Hpb.out _ (List.getElem_mem hk)
      have Hpb3 := Lib.hid (set_mem (k := k) (x := ⟨lb[k].r, lb[k].a, lb[k].ps, d⟩) Hpb.out hpk)
      have hl3 : (lb.set k ⟨lb[k].r, lb[k].a, lb[k].ps, d⟩).length ≤ 281 := by rw [List.length_set]; omega
      have hle : (lb.set k ⟨lb[k].r, lb[k].a, lb[k].ps, d⟩).length = lb.length := List.length_set
      obtain ⟨fa, ha1, _⟩ := ownR_gr Ha3.out
      obtain ⟨fb, hb1, _⟩ := ownR_gr Hb3.out
      clear hob hpk hle
      have OC := Lib.hid (show Own 3 _ w.heap.size _ c from Own.mono Hoc3.out (by omega))
      have BT := Lib.hid Hbt.out
      have GA := Lib.hid (show Gr _ la _ fa from ha1); have GB := Lib.hid (show Gr _ (lb.set k _) _ fb from hb1)
      go_wp2
      refine bodyPost_ret (v := .tuple #[.slice ac c.length cc, .slice aa la.length ca, .slice (some ⟨bb, 0, none⟩) lb.length cb]) (by simp [results, Try.f12, go_sem]) rfl ?_
      exact Hpost.out _ c _ la _ _ _ _ _ OC.out (by omega) GA.out (by omega) Hpa.out GB.out hl3 Hpb3.out BT.out
  case neg =>
    have e0 : (s == 0) = false := by rw [beq_eq_false_iff_ne]; exact h0
    clear h0
    by_cases h1 : s = 1
    case pos =>
      subst h1
      go_wp2_with fail
      refine (pick_any R 5 (p6 + 1) w7 (by omega) Hr.out (by omega)).mono ?_
      rintro e w8 ⟨m, rfl, hm0, hm1, hr, hg⟩
      have Hr := Lib.hid hr; clear hr
      have hsw8 := hg.size
      have Hoc := Lib.hid (Hoc.out.kept hg (.inr HcR.out))
      have Ha := Lib.hid (show OwnR 25 3 4 w8 (w4.heap.size) (w5.heap.size) (.slice aa la.length ca) (la.map Vx.fd) from Ha.out.same fun b h1 h2 => hg.block b (by omega) (fun e => by cases e; omega))
      have Hb2 := Lib.hid (show OwnR 25 3 4 w8 (w5.heap.size) (w6.heap.size) (.slice ab lb.length cb) (lb.map Vx.fd) from Hb2.out.same fun b h1 h2 => hg.block b (by omega) (fun e => by cases e; omega))
      have Hb := Lib.hid (Hb.out.grown hg Hb.out.size (fun g e => by cases e; omega))
      clear hg
      have HG := Lib.hid (drawGraphV R (p6 + 1 + 1) m w8 ac cc c (by omega) hm0 (by omega) hv Hr.out (by omega) (fun W hW => (Hoc.out.kept hW (.inr HcR.out)).at))
      go_wp2_with fail
      refine HG.out.mono ?_
      rintro e w9 ⟨vx, gx, p9, rfl, hox, hgk, hgl9, hr, hp9, hg⟩
      have hsw9 := hg.size
      have Hoc := Lib.hid (Hoc.out.kept hg (.inr HcR.out))
      have Ha := Lib.hid (show OwnR 25 3 4 w9 (w4.heap.size) (w5.heap.size) (.slice aa la.length ca) (la.map Vx.fd) from Ha.out.same fun b h1 h2 => hg.block b (by omega) (fun e => by cases e; omega))
      have Hb2 := Lib.hid (show OwnR 25 3 4 w9 (w5.heap.size) (w6.heap.size) (.slice ab lb.length cb) (lb.map Vx.fd) from Hb2.out.same fun b h1 h2 => hg.block b (by omega) (fun e => by cases e; omega))
      have Hb := Lib.hid (Hb.out.grown hg Hb.out.size (fun g e => by cases e; omega))
      clear hg
      have hpx := gOk_ps hgk.1
      have Hpx := Lib.hid (show ∀ x ∈ gx, x.ps.length ≤ 100 from fun x hx => Nat.le_trans (hpx x hx) (by omega))
      obtain ⟨fa, ha1, _⟩ := ownR_gr hox
      obtain ⟨ax, cx, rfl⟩ := ha1.slice
      clear hgk hpx hox HG
      obtain ⟨fb, hb1, _⟩ := ownR_gr Hb2.out
      have OC := Lib.hid (show Own 3 _ w.heap.size _ c from Own.mono Hoc.out (by omega))
      have BT := Lib.hid Hb.out
      have GA := Lib.hid (show Gr _ gx _ fa from ha1); have GB := Lib.hid hb1
      go_wp2
      refine bodyPost_ret (v := .tuple #[.slice ac c.length cc, .slice ax gx.length cx, .slice ab lb.length cb]) (by simp [results, Try.f12, go_sem]) rfl ?_
      exact Hpost.out _ c _ gx _ _ lb _ _ OC.out (by omega) GA.out (by omega) Hpx.out GB.out (by omega) Hpb.out BT.out
    case neg =>
      have e1 : (s == 1) = false := by rw [beq_eq_false_iff_ne]; exact h1
      clear h1
      by_cases h2 : s = 2
      case pos =>
        subst h2
        by_cases hal : la.length = 0
        case pos =>
          have hb0 : decide ((0 : Int) < (la.length : Int)) = false := decide_eq_false (by omega)
          have hb0' : ¬ (0 : Int) < (la.length : Int) := by omega
          clear hal
          obtain ⟨fa, ha1, _⟩ := ownR_gr Ha.out
          obtain ⟨fb, hb1, _⟩ := ownR_gr Hb2.out
          have OC := Lib.hid (show Own 3 _ w.heap.size _ c from Own.mono Hoc.out (by omega))
          have BT := Lib.hid Hb.out
          have GA := Lib.hid ha1; have GB := Lib.hid hb1
          go_wp2
          refine bodyPost_ret (v := .tuple #[.slice ac c.length cc, .slice aa la.length ca, .slice ab lb.length cb]) (by simp [results, Try.f12, go_sem]) rfl ?_
          exact Hpost.out _ c _ la _ _ lb _ _ OC.out (by omega) GA.out (by omega) Hpa.out GB.out (by omega) Hpb.out BT.out
        case neg =>
          have hb0 : decide ((0 : Int) < (la.length : Int)) = true := decide_eq_true (by omega)
          have hb0' : (0 : Int) < (la.length : Int) := by omega
          obtain ⟨fa, ha1, _⟩ := ownR_gr Ha.out
          obtain ⟨ad, adc, fr, hsl, ha2⟩ := gr_drop ha1 (Gr.capl ha1) (k := 1) (by omega)
          have hsl2 : ∀ W, (Instr.slice 32 (.slice aa la.length ca) (some (.int .i64 1)) none none).run Try.prog W = .ok (.slice ad (la.drop 1).length adc) W := hsl
          have Hpd := Lib.hid (show ∀ x ∈ la.drop 1, x.ps.length ≤ 100 from fun x hx => Hpa.out x (List.mem_of_mem_drop hx))
          have hld : (la.drop 1).length ≤ 281 := by rw [List.length_drop]; omega
          clear hsl ha1
          generalize la.drop 1 = ld at *
          obtain ⟨fb, hb1, _⟩ := ownR_gr Hb2.out
          have OC := Lib.hid (show Own 3 _ w.heap.size _ c from Own.mono Hoc.out (by omega))
          have BT := Lib.hid Hb.out
          have GA := Lib.hid ha2; have GB := Lib.hid hb1
          go_wp2
          refine bodyPost_ret (v := .tuple #[.slice ac c.length cc, .slice ad ld.length adc, .slice ab lb.length cb]) (by simp [results, Try.f12, go_sem]) rfl ?_
          exact Hpost.out _ c _ ld _ _ lb _ _ OC.out (by omega) GA.out hld Hpd.out GB.out (by omega) Hpb.out BT.out
      case neg =>
        have e2 : (s == 2) = false := by rw [beq_eq_false_iff_ne]; exact h2
        clear h2
        obtain ⟨fa, ha1, _⟩ := ownR_gr Ha.out
        obtain ⟨fb, hb1, _⟩ := ownR_gr Hb2.out
        have OC := Lib.hid (show Own 3 _ w.heap.size _ c from Own.mono Hoc.out (by omega))
        have BT := Lib.hid Hb.out
        have GA := Lib.hid ha1; have GB := Lib.hid hb1
        go_wp2
        refine bodyPost_ret (v := .tuple #[.slice ac c.length cc, .slice aa la.length ca, .slice ab lb.length cb]) (by simp [results, Try.f12, go_sem]) rfl ?_
        exact Hpost.out _ c _ la _ _ lb _ _ OC.out (by omega) GA.out (by omega) Hpa.out GB.out (by omega) Hpb.out BT.out

end Go.Proofs.Ythnbjdijcpcafaa

/- What the laws of merged graphs say of the reference's answers; plain facts on lists, nothing here is walked. -/
namespace Go.Proofs.Ythnbjdijcpcafaa
open Go.RowKit

theorem mrg_all {c : List Int} {B : List Vx} (hB : graphB c B = true) : ∀ (n k : Nat) (out : List Vx), n = B.length - k → k ≤ B.length → graphB c out = true → (∀ y ∈ B.take k, y ∈ out) →
    (∀ o, mrgF out (B.drop k) = some o → graphB c o = true ∧ (∀ y, y ∈ o ↔ y ∈ out ∨ y ∈ B) ∧ (∀ x ∈ out, ∀ y ∈ B, x.r = y.r → x.a = y.a → x = y)) ∧
    (mrgF out (B.drop k) = none → ∃ x ∈ out, ∃ y ∈ B, x.r = y.r ∧ x.a = y.a ∧ x ≠ y) := by
  obtain ⟨hB1, hB2, hB3, hB4⟩ := graph_iff.1 hB
  intro n
  induction n with
  | zero =>
    intro k out hn hk ho hin
    have hke : k = B.length := by omega
    subst hke
    rw [List.drop_length]
    rw [List.take_length] at hin
    obtain ⟨-, ho2, -, -⟩ := graph_iff.1 ho
    refine ⟨fun o e => ?_, fun e => by cases e⟩
    have e2 : out = o := by simpa [mrgF] using e
    subst e2
    exact ⟨ho, fun y => ⟨.inl, fun h => h.elim id (hin y)⟩, fun x hx y hy h1 h2 => srt_uni ho2 hx (hin y hy) h1 h2⟩
  | succ n ih =>
    intro k out hn hk ho hin
    have hlt : k < B.length := by omega
    obtain ⟨ho1, ho2, ho3, ho4⟩ := graph_iff.1 ho
    rw [List.drop_eq_getElem_cons hlt, mrgF]
    have hx := List.getElem_mem hlt
    have hxv := hB3 _ hx
    have hpar : parB out B[k] = true := by
      rw [parB_iff]
      intro m hm
      obtain ⟨z, hz, e1, e2⟩ := (parB_iff.1 (hB4 _ hx)) m hm
      refine ⟨z, hin z ?_, e1, e2⟩
      obtain ⟨j, hj, rfl⟩ := List.mem_iff_getElem.1 hz
      have hjk : j < k := by
        rcases Nat.lt_trichotomy j k with h | h | h
        · exact h
        · subst h; omega
        · have := befB_iff.1 (List.pairwise_iff_getElem.1 hB2 k j hlt hj h); omega
      rw [List.mem_take_iff_getElem]
      exact ⟨j, by omega, rfl⟩
    have htk : ∀ {o' : List Vx}, (∀ y ∈ out, y ∈ o') → B[k] ∈ o' → ∀ y ∈ B.take (k + 1), y ∈ o' := fun h1 h2 y hy => by
      rw [List.take_succ_eq_append_getElem hlt] at hy
      rcases List.mem_append.1 hy with hy | hy
      · exact h1 y (hin y hy)
      · rw [List.mem_singleton] at hy; subst hy; exact h2
    by_cases hex : ∃ y ∈ out, y.r = B[k].r ∧ y.a = B[k].a
    · obtain ⟨y, hy, e1, e2⟩ := hex
      obtain ⟨ha, hg⟩ := add_at ho2 hy e1 e2
      by_cases heq : y = B[k]
      · have h1 : addN out B[k] = 1 := by rw [ha, if_pos (sameB_iff.2 heq)]
        rw [if_neg (by rw [h1]; decide), hg]
        exact ih (k + 1) out (by omega) (by omega) ho (htk (fun _ h => h) (heq ▸ hy))
      · have h2 : addN out B[k] = 2 := by rw [ha, if_neg (fun h => heq (sameB_iff.1 h))]
        rw [if_pos h2]
        exact ⟨fun o e => (by cases e), fun _ => ⟨y, hy, B[k], hx, e1, e2, heq⟩⟩
    · have hn0 : ∀ y ∈ out, ¬ (y.r = B[k].r ∧ y.a = B[k].a) := fun y hy e => hex ⟨y, hy, e⟩
      obtain ⟨h0, hg⟩ := of_add0 hn0 hpar
      rw [if_neg (by rw [h0]; decide), hg]
      obtain ⟨i1, i2⟩ := ih (k + 1) (insG out B[k]) (by omega) (by omega) (ins_graph ho hxv h0) (htk (fun _ h => ins_mem.2 (.inl h)) (ins_mem.2 (.inr rfl)))
      refine ⟨fun o e => ?_, fun e => ?_⟩
      · obtain ⟨j1, j2, j3⟩ := i1 o e
        refine ⟨j1, fun y => ?_, fun x hx y hy => j3 x (ins_mem.2 (.inl hx)) y hy⟩
        rw [j2 y, ins_mem]
        constructor
        · rintro ((h | rfl) | h)
          · exact .inl h
          · exact .inr hx
          · exact .inr h
        · rintro (h | h)
          · exact .inl (.inl h)
          · exact .inr h
      · obtain ⟨x, hx', y, hy, e1, e2, e3⟩ := i2 e
        rcases ins_mem.1 hx' with h | rfl
        · exact ⟨x, h, y, hy, e1, e2, e3⟩
        · exact absurd (srt_uni hB2 hx hy e1 e2) e3

/-- No two vertices of an author and a round contradict each other. -/
def Agr (a b : List Vx) : Prop := ∀ x ∈ a, ∀ y ∈ b, x.r = y.r → x.a = y.a → x = y
theorem mg_yes {c : List Int} {a b : List Vx} (h : mgB c a b = true) : graphB c a = true ∧ graphB c b = true ∧ graphB c (mgG c a b) = true ∧ (∀ y, y ∈ mgG c a b ↔ y ∈ a ∨ y ∈ b) ∧ Agr a b := by
  by_cases hg : graphB c a = true ∧ graphB c b = true
  · obtain ⟨h1, -⟩ := mrg_all hg.2 _ 0 a rfl (Nat.zero_le _) hg.1 (by simp)
    rw [List.drop_zero] at h1
    unfold mgB mgO at h
    rw [if_pos hg] at h
    obtain ⟨o, ho⟩ := Option.isSome_iff_exists.1 h
    have he : mgG c a b = o := by unfold mgG mgO; rw [if_pos hg, ho]; rfl
    rw [he]
    obtain ⟨j1, j2, j3⟩ := h1 o ho
    exact ⟨hg.1, hg.2, j1, j2, j3⟩
  · rw [(mg_no hg).2] at h; cases h
theorem mg_of {c : List Int} {a b : List Vx} (ha : graphB c a = true) (hb : graphB c b = true) (h : Agr a b) : mgB c a b = true := by
  obtain ⟨-, h2⟩ := mrg_all hb _ 0 a rfl (Nat.zero_le _) ha (by simp)
  rw [List.drop_zero] at h2
  unfold mgB mgO
  rw [if_pos ⟨ha, hb⟩]
  cases hm : mrgF a b with
  | some o => rfl
  | none =>
    obtain ⟨x, hx, y, hy, e1, e2, e3⟩ := h2 hm
    exact absurd (h x hx y hy e1 e2) e3
theorem mg_uni {c : List Int} {a b o : List Vx} (h : mgB c a b = true) (ho : graphB c o = true) (hm : ∀ y, y ∈ o ↔ y ∈ a ∨ y ∈ b) : mgG c a b = o := by
  obtain ⟨-, -, h3, h4, -⟩ := mg_yes h
  exact srt_ext (graph_iff.1 h3).2.1 (graph_iff.1 ho).2.1 fun x => (h4 x).trans (hm x).symm
/-- P53: merging in the other order, and merging again. -/
theorem mg_order {c : List Int} {a b : List Vx} (h : mgB c a b = true) : mgB c b a = true ∧ mgG c b a = mgG c a b ∧ mgB c (mgG c a b) b = true ∧ mgG c (mgG c a b) b = mgG c a b := by
  obtain ⟨h1, h2, h3, h4, h5⟩ := mg_yes h
  have hba : mgB c b a = true := mg_of h2 h1 fun x hx y hy e1 e2 => (h5 y hy x hx e1.symm e2.symm).symm
  have hob : mgB c (mgG c a b) b = true := mg_of h3 h2 fun x hx y hy e1 e2 => by
    rcases (h4 x).1 hx with h | h
    · exact h5 x h y hy e1 e2
    · exact srt_uni (graph_iff.1 h2).2.1 h hy e1 e2
  exact ⟨hba, mg_uni hba h3 fun y => (h4 y).trans Or.comm, hob, mg_uni hob h3 fun y => ⟨.inl, fun h => h.elim id fun h => (h4 y).2 (.inr h)⟩⟩
/-- P54: whether two vertices up to here contradict each other. -/
def cnB (x y : Vx) : Bool := decide (x.r = y.r) && (decide (x.a = y.a) && !sameB x y)
def badR (x : Vx) (b : List Vx) : Bool := b.any (cnB x)
def badB (a b : List Vx) : Bool := a.any fun x => badR x b
theorem cnB_iff {x y : Vx} : cnB x y = true ↔ x.r = y.r ∧ x.a = y.a ∧ x ≠ y := by
  unfold cnB
  rw [Bool.and_eq_true, Bool.and_eq_true, decide_eq_true_eq, decide_eq_true_eq, Bool.not_eq_true']
  constructor
  · rintro ⟨h1, h2, h3⟩
    exact ⟨h1, h2, fun e => by rw [sameB_iff.2 e] at h3; cases h3⟩
  · rintro ⟨h1, h2, h3⟩
    refine ⟨h1, h2, ?_⟩
    cases hs : sameB x y with
    | false => rfl
    | true => exact absurd (sameB_iff.1 hs) h3
theorem mg_bad {c : List Int} {a b : List Vx} (ha : graphB c a = true) (hb : graphB c b = true) : mgB c a b = !badB a b := by
  cases h : mgB c a b with
  | true =>
    obtain ⟨-, -, -, -, h5⟩ := mg_yes h
    have : badB a b = false := by
      rw [Bool.eq_false_iff]
      intro e
      unfold badB at e
      obtain ⟨x, hx, e⟩ := List.any_eq_true.1 e
      unfold badR at e
      obtain ⟨y, hy, e⟩ := List.any_eq_true.1 e
      obtain ⟨e1, e2, e3⟩ := cnB_iff.1 e
      exact e3 (h5 x hx y hy e1 e2)
    rw [this]; rfl
  | false =>
    have : badB a b = true := by
      cases e : badB a b with
      | true => rfl
      | false =>
        have hq := mg_of ha hb fun x hx y hy e1 e2 => by
          by_cases hxy : x = y
          · exact hxy
          · have : badB a b = true := List.any_eq_true.2 ⟨x, hx, List.any_eq_true.2 ⟨y, hy, cnB_iff.2 ⟨e1, e2, hxy⟩⟩⟩
            rw [e] at this; cases this
        rw [h] at hq; cases hq
    rw [this]; rfl
theorem badR_step {x : Vx} {b : List Vx} {k : Nat} (hk : k < b.length) : badR x (b.take (k + 1)) = (badR x (b.take k) || cnB x b[k]) := by
  unfold badR; rw [List.take_succ_eq_append_getElem hk, List.any_append]; simp
theorem badB_step {a b : List Vx} {k : Nat} (hk : k < a.length) : badB (a.take (k + 1)) b = (badB (a.take k) b || badR a[k] b) := by
  unfold badB; rw [List.take_succ_eq_append_getElem hk, List.any_append]; simp
theorem mg_len {c : List Int} {a b : List Vx} : (mgG c a b).length ≤ a.length + b.length := by
  unfold mgG mgO
  split
  · have : ∀ (B out : List Vx), ((mrgF out B).getD []).length ≤ out.length + B.length := by
      intro B
      induction B with
      | nil => intro out; simp [mrgF]
      | cons x B ih =>
        intro out
        rw [mrgF]
        split
        · simp
        · have h1 := ih (addG out x); have h2 := addG_len out x; simp only [List.length_cons]; omega
    exact this b a
  · simp
theorem mg_ps {c : List Int} {a b : List Vx} {m : Nat} (ha : ∀ y ∈ a, y.ps.length ≤ m) (hb : ∀ y ∈ b, y.ps.length ≤ m) : ∀ y ∈ mgG c a b, y.ps.length ≤ m := by
  intro y hy
  by_cases h : mgB c a b = true
  · obtain ⟨-, -, -, h4, -⟩ := mg_yes h
    rcases (h4 y).1 hy with h | h
    · exact ha y h
    · exact hb y h
  · have : mgG c a b = [] := by
      unfold mgB at h; unfold mgG
      cases hm : mgO c a b with
      | none => rfl
      | some o => rw [hm] at h; exact absurd rfl h
    rw [this] at hy; cases hy

end Go.Proofs.Ythnbjdijcpcafaa

/- The laws' tests whether two vertices or two graphs are the same, each by a walk of its text; conditions: lists are shorter than 2^40. -/
namespace Go.Proofs.Ythnbjdijcpcafaa
open Go.RowKit

theorem same_yes' {x y : Vx} (h1 : x.r = y.r) (h2 : x.a = y.a) (h4 : x.d = y.d) : sameB x y = decide (x.ps = y.ps) := by
  by_cases h : x.ps = y.ps
  · rw [decide_eq_true h]; exact decide_eq_true (vx_ext h1 h2 h h4)
  · rw [decide_eq_false h]; exact decide_eq_false fun e => h (by rw [e])
theorem eqB_dec (a b : List Int) : eqB a b = decide (a = b) := rfl

set_option maxHeartbeats 1000000 in
theorem laws_sameVertex (x y : Vx) (pa pa' : Option Addr) (pc pc' : Nat) (w : World) (hx : x.ps.length ≤ 1099511627776) (hy : y.ps.length ≤ 1099511627776) (hp : IntsAt w pa x.ps) (hp' : IntsAt w pa' y.ps) :
    Calls Try.prog 19 #[.agg #[.int .i64 x.r, .int .i64 x.a, .slice pa x.ps.length pc, .int .i64 x.d], .agg #[.int .i64 y.r, .int .i64 y.a, .slice pa' y.ps.length pc', .int .i64 y.d]] w fun e w' => e = .returned (.bool (sameB x y)) ∧ Below w.heap.size w w' := by
  have hb : Below w.heap.size w ((w.alloc (.cells #[.int .i64 x.r, .int .i64 x.a, .slice pa x.ps.length pc, .int .i64 x.d] 25)).alloc (.cells #[.int .i64 y.r, .int .i64 y.a, .slice pa' y.ps.length pc', .int .i64 y.d] 25)) := ((Below.refl _ w).alloc (Nat.le_refl _) _).alloc (by simp) _
  have H4 := Lib.hid (laws_sameInts pa pa' pc pc' x.ps y.ps _ hx hy (hp.below hb) (hp'.below hb))
  have Hb := Lib.hid hb; clear hb hp hp'
  by_cases h1 : x.r = y.r
  case neg =>
    have Hz := Lib.hid (sameB_no (x := x) (y := y) (fun e => h1 (by rw [e])))
    have e1 : (x.r == y.r) = false := by simpa using h1
    clear h1
    go_enter Try.func19, Try.ntmps19
    go_wp2
    go_ret
    exact ⟨by first | rfl | exact ret_bool (by rw [Hz.out]), Hb.out⟩
  have e1 : (x.r == y.r) = true := by simpa using h1
  by_cases h2 : x.a = y.a
  case neg =>
    have Hz := Lib.hid (sameB_no (x := x) (y := y) (fun e => h2 (by rw [e])))
    have e2 : (x.a == y.a) = false := by simpa using h2
    clear h1 h2
    go_enter Try.func19, Try.ntmps19
    go_wp2
    go_ret
    exact ⟨by first | rfl | exact ret_bool (by rw [Hz.out]), Hb.out⟩
  have e2 : (x.a == y.a) = true := by simpa using h2
  by_cases h4 : x.d = y.d
  case neg =>
    have Hz := Lib.hid (sameB_no (x := x) (y := y) (fun e => h4 (by rw [e])))
    have e4 : (x.d == y.d) = false := by simpa using h4
    clear h1 h2 h4
    go_enter Try.func19, Try.ntmps19
    go_wp2
    go_ret
    exact ⟨by first | rfl | exact ret_bool (by rw [Hz.out]), Hb.out⟩
  have e4 : (x.d == y.d) = true := by simpa using h4
  have Hz := Lib.hid ((same_yes' h1 h2 h4).trans (eqB_dec x.ps y.ps).symm)
  clear h1 h2 h4
  go_enter Try.func19, Try.ntmps19
  go_wp2_with fail
  refine H4.out.mono ?_
  rintro e w1 ⟨rfl, hd⟩
  have Hb1 := Lib.hid (below_step Hb.out Hb.out.size (hd.below _))
  clear hd
  go_wp2
  go_ret
  exact ⟨ret_bool (by rw [Hz.out]), Hb1.out⟩


set_option maxHeartbeats 1000000 in
theorem laws_sameGraph (g : List Vx) (v v' : Value) (fp fp' : List Nat) (w : World) (hbig : g.length ≤ 1099511627776) (hps : ∀ x ∈ g, x.ps.length ≤ 1099511627776) (hg : Gr w g v fp) (hg' : Gr w g v' fp') :
    Calls Try.prog 15 #[v, v'] w fun e w' => e = .returned (.bool true) ∧ Below w.heap.size w w' := by
  obtain ⟨va, vc, rfl⟩ := hg.slice
  obtain ⟨va', vc', rfl⟩ := hg'.slice
  have Hg := Lib.hid hg; clear hg
  have Hg' := Lib.hid hg'; clear hg'
  have HP := Lib.hid hps; clear hps
  have hn0 : ((g.length : Int) != (g.length : Int)) = false := by simp
  go_enter Try.func15, Try.ntmps15
  go_wp2_with fail
  go_loopw [5] (fun i wr => ∃ k : Nat, k ≤ g.length ∧ i = .int .i64 k ∧ Below w.heap.size w wr) (fun i _ => g.length - (intOf i).toNat)
  case atStart => exact ⟨0, by omega, rfl, Below.refl _ _⟩
  case round =>
    obtain ⟨k, hk, rfl, hbel⟩ := hrel
    have Hbel := Lib.hid hbel; clear hbel
    by_cases hlt : k < g.length
    · obtain ⟨b, off, rfl, hb, hat⟩ := (Hg.out.under Hbel.out).at (by omega)
      obtain ⟨b', off', rfl, hb', hat'⟩ := (Hg'.out.under Hbel.out).at (by omega)
      obtain ⟨c0, c1, ⟨pa, pc, c2, i2, _⟩, c3⟩ := hat k hlt
      obtain ⟨d0, d1, ⟨pa', pc', d2, j2, _⟩, d3⟩ := hat' k hlt
      have hp := HP.out _ (List.getElem_mem hlt)
      have HS := Lib.hid (fun W (h : IntsAt W pa g[k].ps) (h' : IntsAt W pa' g[k].ps) => laws_sameVertex g[k] g[k] pa pa' pc pc' W hp hp h h')
      rw [show sameB g[k] g[k] = true from decide_eq_true rfl] at HS
      have Hi2 := Lib.hid i2
      have Hj2 := Lib.hid j2
      clear hat hat' i2 j2 hp
      generalize g[k] = x at *
      obtain ⟨xr, xa, xp, xd⟩ := x
      dsimp only at *
      go_wp2_with fail
      refine wp_region_held_drew (S := fun w' => Below wr.heap.size wr w' ∧ w'.cell? ⟨b, off + k * 4, none⟩ = some (.int .i64 xr) ∧ w'.cell? ⟨b, off + k * 4 + 1, none⟩ = some (.int .i64 xa) ∧ w'.cell? ⟨b, off + k * 4 + 2, none⟩ = some (.slice pa xp.length pc) ∧ w'.cell? ⟨b, off + k * 4 + 3, none⟩ = some (.int .i64 xd) ∧ w'.cell? ⟨b', off' + k * 4, none⟩ = some (.int .i64 xr) ∧ w'.cell? ⟨b', off' + k * 4 + 1, none⟩ = some (.int .i64 xa) ∧ w'.cell? ⟨b', off' + k * 4 + 2, none⟩ = some (.slice pa' xp.length pc') ∧ w'.cell? ⟨b', off' + k * 4 + 3, none⟩ = some (.int .i64 xd)) (by kernel_rfl) ⟨(Below.refl _ _).drew, c0, c1, c2, c3, d0, d1, d2, d3⟩ (fun hH => ?_)
      refine takeH 0 (v := ?vr0) rfl (by kernel_rfl) (by kernel_rfl) (by kernel_rfl) (fun _ _ _ h => h) hH rfl ?yr0 ?rr0
      case yr0 => intro W hSw; go_simp; try with_reducible rfl
      try simp only [Act.put, List.setIfInBounds_toArray, List.set_cons_zero, List.set_cons_succ]
      refine takeH 1 (v := ?vr1) rfl (by kernel_rfl) (by kernel_rfl) (by kernel_rfl) (fun _ _ _ h => h) hH rfl ?yr1 ?rr1
      case yr1 => intro W hSw; go_simp; try with_reducible rfl
      try simp only [Act.put, List.setIfInBounds_toArray, List.set_cons_zero, List.set_cons_succ]
      refine takeH 2 (v := ?vr2) rfl (by kernel_rfl) (by kernel_rfl) (by kernel_rfl) (fun _ _ _ h => h) hH rfl ?yr2 ?rr2
      case yr2 => intro W hSw; go_simp; try with_reducible rfl
      try simp only [Act.put, List.setIfInBounds_toArray, List.set_cons_zero, List.set_cons_succ]
      refine takeH 3 (v := ?vr3) rfl (by kernel_rfl) (by kernel_rfl) (by kernel_rfl) (fun _ _ _ h => h) hH rfl ?yr3 ?rr3
      case yr3 => intro W hSw; go_simp; try with_reducible rfl
      try simp only [Act.put, List.setIfInBounds_toArray, List.set_cons_zero, List.set_cons_succ]
      refine takeH 4 (v := ?vr4) rfl (by kernel_rfl) (by kernel_rfl) (by kernel_rfl) (fun _ _ _ h => h) hH rfl ?yr4 ?rr4
      case yr4 => intro W hSw; go_simp; try with_reducible rfl
      try simp only [Act.put, List.setIfInBounds_toArray, List.set_cons_zero, List.set_cons_succ]
      refine takeH 5 (v := ?vr5) rfl (by kernel_rfl) (by kernel_rfl) (by kernel_rfl) (fun _ _ _ h => h) hH rfl ?yr5 ?rr5
      case yr5 => intro W hSw; go_simp; try with_reducible rfl
      try simp only [Act.put, List.setIfInBounds_toArray, List.set_cons_zero, List.set_cons_succ]
      refine takeH 6 (v := ?vr6) rfl (by kernel_rfl) (by kernel_rfl) (by kernel_rfl) (fun _ _ _ h => h) hH rfl ?yr6 ?rr6
      case yr6 => intro W hSw; go_simp; try with_reducible rfl
      try simp only [Act.put, List.setIfInBounds_toArray, List.set_cons_zero, List.set_cons_succ]
      refine takeH 7 (v := ?vr7) rfl (by kernel_rfl) (by kernel_rfl) (by kernel_rfl) (fun _ _ _ h => h) hH rfl ?yr7 ?rr7
      case yr7 => intro W hSw; go_simp; try with_reducible rfl
      try simp only [Act.put, List.setIfInBounds_toArray, List.set_cons_zero, List.set_cons_succ]
      refine callH 8 rfl (by kernel_rfl) rfl (fun K hK => ?_)
      go_simp
      go_at_call 19
      refine (HS.out _ (Hi2.out.below hH.1) (Hj2.out.below hH.1)).mono ?_
      rintro e wx ⟨rfl, hbx⟩
      refine hK.out _ _ ⟨hH.1.trans (hbx.mono hH.1.size), (hbx.cell (p := ⟨b, off + k * 4, none⟩) (by simp only; have := hH.1.size; omega)).trans hH.2.1, (hbx.cell (p := ⟨b, off + k * 4 + 1, none⟩) (by simp only; have := hH.1.size; omega)).trans hH.2.2.1, (hbx.cell (p := ⟨b, off + k * 4 + 2, none⟩) (by simp only; have := hH.1.size; omega)).trans hH.2.2.2.1, (hbx.cell (p := ⟨b, off + k * 4 + 3, none⟩) (by simp only; have := hH.1.size; omega)).trans hH.2.2.2.2.1, (hbx.cell (p := ⟨b', off' + k * 4, none⟩) (by simp only; have := hH.1.size; omega)).trans hH.2.2.2.2.2.1, (hbx.cell (p := ⟨b', off' + k * 4 + 1, none⟩) (by simp only; have := hH.1.size; omega)).trans hH.2.2.2.2.2.2.1, (hbx.cell (p := ⟨b', off' + k * 4 + 2, none⟩) (by simp only; have := hH.1.size; omega)).trans hH.2.2.2.2.2.2.2.1, (hbx.cell (p := ⟨b', off' + k * 4 + 3, none⟩) (by simp only; have := hH.1.size; omega)).trans hH.2.2.2.2.2.2.2.2⟩ (fun hH => ?_)
      clear hK K
      try simp only [Act.put, List.setIfInBounds_toArray, List.set_cons_zero, List.set_cons_succ]
      refine takeH 9 (v := ?vr9) rfl (by kernel_rfl) (by kernel_rfl) (by kernel_rfl) (fun _ _ _ h => h) hH rfl ?yr9 ?rr9
      case yr9 => intro W hSw; go_simp; try with_reducible rfl
      try simp only [Act.put, List.setIfInBounds_toArray, List.set_cons_zero, List.set_cons_succ]
      refine wpAnyH_done (by kernel_rfl) ?_ _
      try simp only [Act.put]
      obtain ⟨hbw, _⟩ := hH
      have Hbw := Lib.hid (below_step Hbel.out Hbel.out.size hbw)
      clear hbw c0 c1 c2 c3 d0 d1 d2 d3
      go_wp2
      go_roundw
      case rel => exact ⟨k + 1, by omega, by go_num, Hbw.out⟩
      case measure => simp [intOf]; omega
    · go_wp2
      go_ret
      exact ⟨rfl, Hbel.out⟩

end Go.Proofs.Ythnbjdijcpcafaa

/- The laws' test whether a graph has a vertex, by a walk of its text; conditions: lists are shorter than 2^40. -/
namespace Go.Proofs.Ythnbjdijcpcafaa
open Go.RowKit

def hasVx (g : List Vx) (x : Vx) : Bool := g.any fun y => sameB y x
theorem hasVx_yes {g : List Vx} {x : Vx} (h : x ∈ g) : hasVx g x = true := by
  unfold hasVx; rw [List.any_eq_true]; exact ⟨x, h, by unfold sameB; exact decide_eq_true rfl⟩
set_option maxRecDepth 8000 in
set_option maxHeartbeats 2000000 in
theorem laws_hasVertex (g : List Vx) (va : Option Addr) (vc : Nat) (fp : List Nat) (x : Vx) (pa : Option Addr) (pc : Nat) (w : World) (hbig : g.length ≤ 1099511627776) (hps : ∀ y ∈ g, y.ps.length ≤ 1099511627776) (hxp : x.ps.length ≤ 1099511627776) (hg : Gr w g (.slice va g.length vc) fp) (hp : IntsAt w pa x.ps) :
    Calls Try.prog 16 #[.slice va g.length vc, .agg #[.int .i64 x.r, .int .i64 x.a, .slice pa x.ps.length pc, .int .i64 x.d]] w fun e w' => e = .returned (.bool (hasVx g x)) ∧ Below w.heap.size w w' := by
  have hbA : Below w.heap.size w (w.alloc (.cells #[.int .i64 x.r, .int .i64 x.a, .slice pa x.ps.length pc, .int .i64 x.d] 25)) := (Below.refl _ _).alloc (Nat.le_refl _) _
  have HsA := Lib.hid (Str.new w 25 #[.int .i64 x.r, .int .i64 x.a, .slice pa x.ps.length pc, .int .i64 x.d])
  have hzA : (w.alloc (.cells #[.int .i64 x.r, .int .i64 x.a, .slice pa x.ps.length pc, .int .i64 x.d] 25)).heap.size = w.heap.size + 1 := by simp
  have HzA := Lib.hid hzA
  have HgA := Lib.hid (hg.under hbA); have HpA := Lib.hid (hp.below hbA); have HbA := Lib.hid hbA; have HP := Lib.hid hps
  clear hg hp hbA hps hzA
  go_enter Try.func16, Try.ntmps16
  go_wp2
  generalize w.alloc (.cells #[.int .i64 x.r, .int .i64 x.a, .slice pa x.ps.length pc, .int .i64 x.d] 25) = wA at *
  go_loopw [5] (fun i wr => ∃ k : Nat, k ≤ g.length ∧ i = .int .i64 k ∧ Hid (Upto (fun j => !(sameB (g.getD j vx0) x)) k) ∧ Below wA.heap.size wA wr) (fun i _ => g.length - (intOf i).toNat)
  case atStart => exact ⟨0, by omega, rfl, Lib.hid (upto_zero _), Below.refl _ _⟩
  case round =>
    obtain ⟨k, hk, rfl, Hup, hb⟩ := hrel
    have Hbr := Lib.hid hb; clear hb
    by_cases hlt : k < g.length
    · have hlt' : (k : Int) < (g.length : Int) := by omega
      obtain ⟨b, off, rfl, hb9, hat⟩ := (HgA.out.under Hbr.out).at (by omega)
      obtain ⟨c0, c1, ⟨qa, qc, c2, i2, _⟩, c3⟩ := hat k hlt
      have hs := (Hbr.out.block _ HsA.out.lt).trans HsA.out
      have hs : Str wr w.heap.size 25 #[.int .i64 x.r, .int .i64 x.a, .slice pa x.ps.length pc, .int .i64 x.d] := hs
      have k0 := hs.cell 0 (v := .int .i64 x.r) rfl
      have k1 := hs.cell 1 (v := .int .i64 x.a) rfl
      have k2 := hs.cell 2 (v := .slice pa x.ps.length pc) rfl
      have k3 := hs.cell 3 (v := .int .i64 x.d) rfl
      have hzr : w.heap.size < wr.heap.size := hs.lt
      have Hi2 := Lib.hid i2; have Hpr := Lib.hid (HpA.out.below Hbr.out)
      have HS := Lib.hid (fun W (h : IntsAt W qa g[k].ps) (h' : IntsAt W pa x.ps) => laws_sameVertex g[k] x qa pa qc pc W (HP.out _ (List.getElem_mem hlt)) hxp h h')
      have Hno := Lib.hid (fun (h : sameB g[k] x = false) => upto_step Hup.out (show (fun j => !(sameB (g.getD j vx0) x)) k = true by simp only; rw [getV hlt, h]; rfl))
      have Hyes := Lib.hid (fun (h : sameB g[k] x = true) => show hasVx g x = true by unfold hasVx; rw [List.any_eq_true]; exact ⟨_, List.getElem_mem hlt, h⟩)
      clear hat i2 hs
      generalize g[k] = y at *
      obtain ⟨yr, ya, yp, yd⟩ := y
      dsimp only at *
      generalize sameB ⟨yr, ya, yp, yd⟩ x = SB at *
      go_wp2_with fail
      refine wp_region_held_drew (S := fun W => Below wr.heap.size wr W ∧ W.cell? ⟨b, off + k * 4, none⟩ = some (.int .i64 yr) ∧ W.cell? ⟨b, off + k * 4 + 1, none⟩ = some (.int .i64 ya) ∧ W.cell? ⟨b, off + k * 4 + 2, none⟩ = some (.slice qa yp.length qc) ∧ W.cell? ⟨b, off + k * 4 + 3, none⟩ = some (.int .i64 yd) ∧ W.cell? ⟨w.heap.size, 0, none⟩ = some (.int .i64 x.r) ∧ W.cell? ⟨w.heap.size, 1, none⟩ = some (.int .i64 x.a) ∧ W.cell? ⟨w.heap.size, 2, none⟩ = some (.slice pa x.ps.length pc) ∧ W.cell? ⟨w.heap.size, 3, none⟩ = some (.int .i64 x.d)) (by kernel_rfl) ⟨(Below.refl _ _).drew, c0, c1, c2, c3, k0, k1, k2, k3⟩ (fun hH => ?_)
      refine takeH 0 (v := ?vh1) rfl (by kernel_rfl) (by kernel_rfl) (by kernel_rfl) (fun _ _ _ h => h) hH rfl ?yh1 ?rh1
      case yh1 => intro W hSw; go_simp; try with_reducible rfl
      try simp only [Act.put, List.setIfInBounds_toArray, List.set_cons_zero, List.set_cons_succ]
      refine takeH 1 (v := ?vh2) rfl (by kernel_rfl) (by kernel_rfl) (by kernel_rfl) (fun _ _ _ h => h) hH rfl ?yh2 ?rh2
      case yh2 => intro W hSw; go_simp; try with_reducible rfl
      try simp only [Act.put, List.setIfInBounds_toArray, List.set_cons_zero, List.set_cons_succ]
      refine takeH 2 (v := ?vh3) rfl (by kernel_rfl) (by kernel_rfl) (by kernel_rfl) (fun _ _ _ h => h) hH rfl ?yh3 ?rh3
      case yh3 => intro W hSw; go_simp; try with_reducible rfl
      try simp only [Act.put, List.setIfInBounds_toArray, List.set_cons_zero, List.set_cons_succ]
      refine takeH 3 (v := ?vh4) rfl (by kernel_rfl) (by kernel_rfl) (by kernel_rfl) (fun _ _ _ h => h) hH rfl ?yh4 ?rh4
      case yh4 => intro W hSw; go_simp; try with_reducible rfl
      try simp only [Act.put, List.setIfInBounds_toArray, List.set_cons_zero, List.set_cons_succ]
      refine takeH 4 (v := ?vh5) rfl (by kernel_rfl) (by kernel_rfl) (by kernel_rfl) (fun _ _ _ h => h) hH rfl ?yh5 ?rh5
      case yh5 => intro W hSw; go_simp; try with_reducible rfl
      try simp only [Act.put, List.setIfInBounds_toArray, List.set_cons_zero, List.set_cons_succ]
      refine callH 5 rfl (by kernel_rfl) rfl (fun K hK => ?_)
      go_simp
      go_at_call 19
      refine (HS.out _ (Hi2.out.below hH.1) (Hpr.out.below hH.1)).mono ?_
      rintro e wx ⟨rfl, hbx⟩
      dsimp only
      refine hK.out _ _ ⟨hH.1.trans (hbx.mono hH.1.size), (hbx.cell (p := ⟨b, off + k * 4, none⟩) (by simp only; have := hH.1.size; omega)).trans hH.2.1, (hbx.cell (p := ⟨b, off + k * 4 + 1, none⟩) (by simp only; have := hH.1.size; omega)).trans hH.2.2.1, (hbx.cell (p := ⟨b, off + k * 4 + 2, none⟩) (by simp only; have := hH.1.size; omega)).trans hH.2.2.2.1, (hbx.cell (p := ⟨b, off + k * 4 + 3, none⟩) (by simp only; have := hH.1.size; omega)).trans hH.2.2.2.2.1, (hbx.cell (p := ⟨w.heap.size, 0, none⟩) (by simp only; have := hH.1.size; omega)).trans hH.2.2.2.2.2.1, (hbx.cell (p := ⟨w.heap.size, 1, none⟩) (by simp only; have := hH.1.size; omega)).trans hH.2.2.2.2.2.2.1, (hbx.cell (p := ⟨w.heap.size, 2, none⟩) (by simp only; have := hH.1.size; omega)).trans hH.2.2.2.2.2.2.2.1, (hbx.cell (p := ⟨w.heap.size, 3, none⟩) (by simp only; have := hH.1.size; omega)).trans hH.2.2.2.2.2.2.2.2⟩ (fun hH => ?_)
      clear hK K
      try simp only [Act.put, List.setIfInBounds_toArray, List.set_cons_zero, List.set_cons_succ]
      have Hbx := Lib.hid (below_step Hbr.out Hbr.out.size hH.1)
      refine wpAnyH_done (by kernel_rfl) ?_ _
      try simp only [Act.put]
      clear hH c0 c1 c2 c3 k0 k1 k2 k3 hzr
      cases SB with
      | true =>
        have Hr := Lib.hid (Hyes.out rfl)
        go_wp2
        go_ret
        exact ⟨ret_bool Hr.out.symm, HbA.out.trans (Hbx.out.mono HbA.out.size)⟩
      | false =>
        have Hn := Lib.hid (Hno.out rfl)
        go_wp2
        go_roundw
        case rel => exact ⟨k + 1, by omega, by go_num, Hn, Hbx.out⟩
        case measure => simp [intOf]; omega
    · have Hr := Lib.hid (show hasVx g x = false by
        unfold hasVx
        rw [List.any_eq_false]
        intro y hy
        obtain ⟨j, hj, rfl⟩ := List.mem_iff_getElem.1 hy
        have := Hup.out j (by omega)
        simp only [getV hj] at this
        simpa using this)
      go_wp2
      go_ret
      exact ⟨ret_bool Hr.out.symm, HbA.out.trans (Hbr.out.mono HbA.out.size)⟩

end Go.Proofs.Ythnbjdijcpcafaa

/- impl's list of a graph of pointers, by a walk of its text; conditions: lists are shorter than 2^40 (a graph: 2^20), the graph's vertices lie in order and in range. -/
namespace Go.Proofs.Ythnbjdijcpcafaa
open Go.RowKit

theorem arrP_extract (n : Nat) (f : Nat → Value) (o k : Nat) (h : o + k ≤ n) : (arrP n f).extract o (o + k) = arrP k fun a => f (o + a) := by
  apply Array.ext
  · simp [arrP]; omega
  · intro j h1 h2
    simp [arrP]
theorem arrP_one {n : Nat} {f : Nat → Value} (h : ∀ i, i < n → (f i).oneCell' = true) : (arrP n f).all (·.oneCell') = true := by
  rw [Array.all_eq_true_iff_forall_mem]
  intro v hv
  simp only [arrP, List.mem_toArray, List.mem_map, List.mem_range] at hv
  obtain ⟨i, hi, rfl⟩ := hv
  exact h i hi
theorem run_index_row {P : Program} {T E : TypeId} {n k s : Nat} {d : TypeDesc} {cs : Array Value} (hu : P.underlying T = some (.array n E)) (hE : P.underlying E = some d) (hd : (match d with | .struct _ | .array _ _ => true | _ => false) = true)
    (hs : (P.info? E).map (·.size) = some s) (hk : k < n) (w : World) : (Instr.index T (.agg cs) (.int .i64 k)).run P w = .ok (.agg (cs.extract (k * s) (k * s + s))) w := by
  have h1 := run_underlying hu w
  have h2 : (isAgg E).run P w = .ok true w := by
    unfold isAgg; rw [Sem.run_bind, run_underlying hE w]; cases d <;> simp_all
  cases hq : P.info? E with
  | none => simp [hq] at hs
  | some i =>
    have hz : i.size = s := by simpa [hq] using hs
    simp [Instr.index, asIntOf, Sem.run_bind, h1, part, h2, sizeOf, typeInfo, hq, hz, hk]
theorem run_index_one {P : Program} {T E : TypeId} {n k : Nat} {d : TypeDesc} {cs : Array Value} {v : Value} (hu : P.underlying T = some (.array n E)) (hE : P.underlying E = some d) (hd : (match d with | .struct _ | .array _ _ => true | _ => false) = false)
    (hs : (P.info? E).map (·.size) = some 1) (hk : k < n) (hc : cs[k]? = some v) (w : World) : (Instr.index T (.agg cs) (.int .i64 k)).run P w = .ok v w := by
  have h1 := run_underlying hu w
  have h2 : (isAgg E).run P w = .ok false w := by
    unfold isAgg; rw [Sem.run_bind, run_underlying hE w]; cases d <;> simp_all
  cases hq : P.info? E with
  | none => simp [hq] at hs
  | some i =>
    have hz : i.size = 1 := by simpa [hq] using hs
    simp [Instr.index, asIntOf, Sem.run_bind, h1, part, h2, sizeOf, typeInfo, hq, hz, hk, hc]
theorem setRow_strP {W : World} {B : Nat} {t : TypeId} {vs : Array Value} (h : Str W B t vs) (cs : Array Value) : Str (W.setRow B cs) B t cs := setRow_heap W B vs cs t (0, 0) h
theorem grownBy_setRowP (W : World) (B : Nat) (cs : Array Value) : W.grownBy (W.setRow B cs) (some B) := ⟨rfl, rfl, rfl, by simp [World.setRow], fun k _ hk => setRow_other W B k cs (fun e => hk (by rw [e]))⟩

theorem Lk.cases {w0 w : World} {hi G : Nat} {mv : Value} {h : Nat → Value} {g : List Vx} (l : Lk w0 w hi G mv h g) (r a : Nat) (hr : r < 31) (ha : a < 7) :
    (∃ y ∈ g, y.r = r ∧ y.a = a ∧ ∃ q, h (1 + (r * 7 + a)) = ptrV q ∧ Nd w0 w hi G h q y) ∨ (h (1 + (r * 7 + a)) = .pointer none ∧ ∀ y ∈ g, ¬ (y.r = (r : Int) ∧ y.a = (a : Int))) := by
  have hp : plN (r : Int) (a : Int) = 1 + (r * 7 + a) := by unfold plN; simp
  by_cases he : ∃ y ∈ g, y.r = r ∧ y.a = a
  · obtain ⟨y, hy, er, ea⟩ := he
    obtain ⟨q, hq, hn⟩ := l.has y hy
    rw [er, ea, hp] at hq
    exact .inl ⟨y, hy, er, ea, q, hq, hn⟩
  · have hn : ∀ y ∈ g, ¬ (y.r = (r : Int) ∧ y.a = (a : Int)) := fun y hy e => he ⟨y, hy, e⟩
    have := l.non r a (by omega) (by omega) (by omega) (by omega) hn
    rw [hp] at this
    exact .inr ⟨this, hn⟩
theorem Lk.one {w0 w : World} {hi G : Nat} {mv : Value} {h : Nat → Value} {g : List Vx} (l : Lk w0 w hi G mv h g) (i : Nat) (hi : i < 217) : (h (1 + i)).oneCell' = true := by
  have e : i = i / 7 * 7 + i % 7 := by omega
  rcases l.cases (i / 7) (i % 7) (by omega) (by omega) with ⟨_, _, _, _, q, hq, _⟩ | ⟨hq, _⟩
  · rw [← e] at hq; rw [hq]; rfl
  · rw [← e] at hq; rw [hq]; rfl

set_option maxRecDepth 8000 in
set_option maxHeartbeats 4000000 in
theorem graph_list (w0 w : World) (hi G : Nat) (mv : Value) (h : Nat → Value) (g : List Vx) (hb : Below w0.heap.size w0 w) (hL : Lk w0 w hi G mv h g) (hsrt : Srt g) (hin : ∀ y ∈ g, inPl y) (hgp : ∀ y ∈ g, y.ps.length ≤ 1099511627776) (hbig : g.length ≤ 1048577) :
    Calls Try.prog 37 #[.pointer (some ⟨G, 0, none⟩)] w fun e w' => ∃ u, e = .returned u ∧ OwnR 25 3 4 w' w.heap.size w'.heap.size u (g.map Vx.fd) ∧ Below w.heap.size w w' := by
  have hb0 : Below w.heap.size w (w.alloc (.cells #[] 25)) := (Below.refl _ _).alloc (Nat.le_refl _) _
  have hv0 : OwnR 25 3 4 (w.alloc (.cells #[] 25)) w.heap.size (w.alloc (.cells #[] 25)).heap.size (.slice (some ⟨w.heap.size, 0, none⟩) 0 0) [] := .nil (World.ownsRow_made w #[] 0 (Nat.le_refl _) (by simp) (by simp)) (fun g e => by cases e; simp)
  have hrange : (w.alloc (.cells #[] 25)).rangeAt G 1 (arrP 217 fun i => h (1 + i)).toList := by
    have h1 := World.rangeAt_of_block (hL.under hb0).str 1 217
    rwa [arrP_extract 218 h 1 217 (by omega)] at h1
  have HL := Lib.hid (fun W (hW : Below w.heap.size w W) => hL.under hW)
  have H1 := Lib.hid hL.one
  have Hv0 := Lib.hid hv0; clear hv0
  have Hz := Lib.hid (outZ_zero hin)
  have Hrow := Lib.hid (outZ_row hin)
  have Hend := Lib.hid (outZ_end hin)
  have Hyes := Lib.hid (fun (r a : Nat) (x : Vx) => outZ_yes (r := r) (a := a) (x := x) hsrt)
  have Hno := Lib.hid (fun (r a : Nat) => outZ_no (r := r) (a := a) hsrt)
  have Hgp := Lib.hid hgp
  have HB := Lib.hid hb
  have Hrange := Lib.hid hrange
  have hlen := outZ_len g
  have Hlen := Lib.hid hlen
  clear hb hL hsrt hin hgp hrange hlen
  go_enter Try.func37, Try.ntmps37
  go_wp2_with (refine wpList_load_mid rfl 75 _ rfl G 1 rfl (arrP 217 fun i => h (1 + i)).toList _ Hrange.out Try.underlying75 rfl (by rw [Array.length_toList, arrP_size]; kernel_rfl) ?_)
  generalize hcs : arrP 217 (fun i => h (1 + i)) = cs
  have Hcs := Lib.hid hcs; clear hcs
  clear Hrange
  go_loopw [3, 13] (fun u i wr => ∃ r : Nat, r ≤ 31 ∧ i = .int .i64 r ∧ OwnR 25 3 4 wr w.heap.size wr.heap.size u ((outZ g r 0).map Vx.fd) ∧ Below w.heap.size w wr) (fun _ i _ => 31 - (intOf i).toNat)
  case atStart => exact ⟨0, Nat.zero_le _, rfl, by rw [Hz.out]; exact Hv0.out, hb0⟩
  case round =>
    obtain ⟨r, hk, rfl, hbld, hbel⟩ := hrel
    obtain ⟨Wo, hWo⟩ : ∃ Wo, Wo = wr := ⟨_, rfl⟩
    subst hWo
    clear hb0
    by_cases hlt : r < 31
    · have hlt' : (r : Int) < 31 := by omega
      have hx1 := fun W => run_index_row (P := Try.prog) (cs := cs) Try.underlying75 Try.underlying74 rfl (s := 7) (by kernel_rfl) hlt W
      rw [← Hcs.out, arrP_extract 217 _ (r * 7) 7 (by omega), Hcs.out] at hx1
      generalize hrw : arrP 7 (fun a => h (1 + (r * 7 + a))) = row at *
      have h7 : row.size = 7 := by rw [← hrw]; exact arrP_size _ _
      have h71 : row.all (·.oneCell') = true := by rw [← hrw]; exact arrP_one fun i hi => H1.out _ (by omega)
      have hget : ∀ a, a < 7 → row[a]? = some (h (1 + (r * 7 + a))) := fun a ha => by rw [← hrw]; exact arrP_get ha
      have Hget := Lib.hid hget; clear hget hrw
      have hbA : Below Wo.heap.size Wo (Wo.alloc (.cells #[.pointer none, .pointer none, .pointer none, .pointer none, .pointer none, .pointer none, .pointer none] 74)) := (Below.refl _ _).alloc (Nat.le_refl _) _
      have sN := Str.new Wo 74 #[.pointer none, .pointer none, .pointer none, .pointer none, .pointer none, .pointer none, .pointer none]
      have hzA : (Wo.alloc (.cells #[.pointer none, .pointer none, .pointer none, .pointer none, .pointer none, .pointer none, .pointer none] 74)).heap.size = Wo.heap.size + 1 := by simp
      have hgA := grownBy_trans (World.grownBy_alloc Wo (.cells #[.pointer none, .pointer none, .pointer none, .pointer none, .pointer none, .pointer none, .pointer none] 74) (some Wo.heap.size)) (grownBy_setRowP (Wo.alloc (.cells #[.pointer none, .pointer none, .pointer none, .pointer none, .pointer none, .pointer none, .pointer none] 74)) Wo.heap.size row)
      have hsR := setRow_strP sN row
      have Hsz := Lib.hid h7
      have Hone := Lib.hid h71
      have HsN := Lib.hid sN
      have HsR := Lib.hid hsR
      have hbR := hbel.grown hgA hbel.size (fun g e => by cases e; exact hbel.size)
      have hbldR := hbld.same (w' := (Wo.alloc (.cells #[.pointer none, .pointer none, .pointer none, .pointer none, .pointer none, .pointer none, .pointer none] 74)).setRow Wo.heap.size row) (fun b _ hb2 => hgA.block b hb2 (by intro e; cases e; omega))
      have hbldR' := hbldR.mono (hi' := ((Wo.alloc (.cells #[.pointer none, .pointer none, .pointer none, .pointer none, .pointer none, .pointer none, .pointer none] 74)).setRow Wo.heap.size row).heap.size) hgA.size
      have HbR := Lib.hid hbR
      have HbldR := Lib.hid hbldR'
      clear hbld hbldR hbldR' hbR hsR hgA sN h7 h71 hbA hzA
      go_wp2_with (first
        | refine wpList_store_row rfl 74 _ _ rfl Wo.heap.size row rfl rfl 74 #[.pointer none, .pointer none, .pointer none, .pointer none, .pointer none, .pointer none, .pointer none] HsN.out (by rw [Hsz.out]; kernel_rfl) (by rw [Hsz.out]; rfl) Hone.out ?_
        | refine wpList_load_row rfl 74 _ rfl Wo.heap.size rfl 74 row (0, 0) _ HsR.out Try.underlying74 rfl (by rw [Hsz.out]; kernel_rfl) ?_)
      generalize (Wo.alloc (.cells #[.pointer none, .pointer none, .pointer none, .pointer none, .pointer none, .pointer none, .pointer none] 74)).setRow Wo.heap.size row = W1 at *
      clear HsN HsR hbel hlt'
      go_loopw [3, 17] (fun u i wr => ∃ a : Nat, a ≤ 7 ∧ i = .int .i64 a ∧ OwnR 25 3 4 wr w.heap.size wr.heap.size u ((outZ g r a).map Vx.fd) ∧ Below w.heap.size w wr) (fun _ i _ => 7 - (intOf i).toNat)
      case atStart => exact ⟨0, Nat.zero_le _, rfl, HbldR.out, HbR.out⟩
      case round =>
        obtain ⟨a, ha, rfl, hbld, hbel⟩ := hrel
        have Hbld := Lib.hid hbld; clear hbld
        have Hbel := Lib.hid hbel; clear hbel
        by_cases hla : a < 7
        · have hla' : (a : Int) < 7 := by omega
          have hcs := HL.out wr Hbel.out
          have hx2 := fun W => run_index_one (P := Try.prog) (cs := row) Try.underlying74 Try.underlying73 rfl (by kernel_rfl) hla (Hget.out a hla) W
          rcases hcs.cases r a hlt hla with ⟨y, hy, er, ea, q, hq, hn⟩ | ⟨hq, hn⟩
          · rw [hq] at hx2
            unfold ptrV at hx2
            have hstep := Hyes.out r a y hy er ea
            have hpy := Hgp.out y hy
            obtain ⟨pa, pc, pv, qs, sq, iq, srq, _⟩ := hn.ex
            have hb0w := below_step HB.out HB.out.size Hbel.out
            have Hcall := Lib.hid (impl_copyOfVertex y.r y.a y.d pa pc y.ps wr hpy (srq.under iq hb0w) (iq.below hb0w))
            have q0 := sq.cell 0 (v := .int .i64 y.r) rfl
            have q1 := sq.cell 1 (v := .int .i64 y.a) rfl
            have q2 := sq.cell 2 (v := .slice pa y.ps.length pc) rfl
            have q3 := sq.cell 3 (v := .int .i64 y.d) rfl
            have Hex := Lib.hid (show (outZ g r (a + 1)).map Vx.fd = (outZ g r a).map Vx.fd ++ [[.i y.r, .i y.a, .l y.ps, .i y.d]] by rw [hstep, List.map_append]; rfl)
            have hel : ((outZ g r a).map Vx.fd).length ≤ 1048576 := by have := Hlen.out r (a + 1); rw [hstep, List.length_append] at this; simp at this ⊢; omega
            clear hcs hn sq iq srq hpy hstep hb0w er ea hq hy
            generalize (outZ g r a).map Vx.fd = es at *
            obtain ⟨xr, xa, xp, xd⟩ := y
            dsimp only at *
            go_wp2_with fail
            refine Hcall.out.mono ?_
            rintro e w6 ⟨v2, rfl, hown2, hb6⟩
            obtain ⟨a2, c2, rfl, _, _⟩ := hown2.ints
            have hbw6 := below_step Hbel.out Hbel.out.size hb6
            have hB6 := hbw6.size
            have hs6 := hb6.size
            have Hbld6 := Lib.hid (Hbld.out.below hb6 (Nat.le_refl _))
            obtain ⟨hfd, hap, hnew⟩ := vertex_new (B := w.heap.size) xr xa xd hown2 Hbel.out.size
            have Hfd := Lib.hid hfd; clear hfd
            have Hap := Lib.hid hap; clear hap
            have Hnew := Lib.hid hnew; clear hnew hown2 q0 q1 q2 q3
            go_wp2_with (at_builtin; refine wpList_push_own (Ei := 3) Try.underlying32 vertex_inf rfl (by decide) (by decide) rfl (.tmp 22) (.tmp 28) rfl w.heap.size _ es _ _ _ rfl rfl (by intro u hu; simp at hu; rcases hu with rfl | rfl | rfl | rfl <;> rfl) rfl rfl Hfd.out Hap.out wr.heap.size Hbld6.out hs6 Hnew.out hel rfl hB6 ?_; intro v8 w8 hbld8 hg8 hat8)
            go_roundw
            case rel => exact ⟨a + 1, by omega, by go_num, by rw [Hex.out]; exact hbld8, hbw6.grown hg8 hB6 (fun g e => (Hbld.out.lt g e).1)⟩
            case measure => simp [intOf]; omega
          · rw [hq] at hx2
            have Hs := Lib.hid (Hno.out r a hn)
            clear hcs hn hq
            go_wp2
            go_roundw
            case rel => exact ⟨a + 1, by omega, by go_num, by rw [Hs.out]; exact Hbld.out, Hbel.out⟩
            case measure => simp [intOf]; omega
        · have e7 : a = 7 := by omega
          subst e7
          have Hs := Lib.hid (Hrow.out r)
          go_wp2
          go_roundw
          case rel => exact ⟨r + 1, by omega, by go_num, by rw [← Hs.out]; exact Hbld.out, Hbel.out⟩
          case measure => simp [intOf]; omega
    · have e31 : r = 31 := by omega
      subst e31
      have Hbld := Lib.hid hbld; clear hbld
      go_wp2
      go_ret
      exact ⟨_, rfl, by rw [Hend.out] at Hbld; exact Hbld.out, hbel⟩

end Go.Proofs.Ythnbjdijcpcafaa

/- impl's authors of a round, GraphValid, VertexValid, GraphAdd, GraphAuthors, GraphHeight and GraphMerge, each by a walk of its text; conditions: lists are shorter than 2^40 (a graph: 2^20). -/
namespace Go.Proofs.Ythnbjdijcpcafaa
open Go.RowKit

section
variable (ac : Option Addr) (capc : Nat) (c : List Int) (g : List Vx) (v : Value) (fp : List Nat) (w : World) (hn : c.length ≤ 1099511627776) (hbig : g.length ≤ 1048576) (hps : ∀ x ∈ g, x.ps.length ≤ 1099511627776) (hc : IntsAt w ac c) (hg : Gr w g v fp)
include hn hbig hps hc hg
theorem graphOf_no (h : graphB c g = false) : Calls Try.prog 35 #[.slice ac c.length capc, v] w fun e w' => e = .returned (.tuple #[.pointer none, .bool false]) ∧ Below w.heap.size w w' :=
  (impl_graphOf ac capc c g v fp w hn hbig hps hc hg).mono fun e w' hp => by
    obtain ⟨hb, ⟨_, he⟩ | ⟨ht, _⟩⟩ := hp
    · exact ⟨he, hb⟩
    · rw [h] at ht; cases ht
theorem graphOf_yes (h : graphB c g = true) : Calls Try.prog 35 #[.slice ac c.length capc, v] w fun e w' => ∃ G, e = .returned (.tuple #[.pointer (some ⟨G, 0, none⟩), .bool true]) ∧ Below w.heap.size w w' ∧ w.heap.size ≤ G ∧ ∃ hi h, Lk w w' hi G (.slice ac c.length capc) h g :=
  (impl_graphOf ac capc c g v fp w hn hbig hps hc hg).mono fun e w' hp => by
    obtain ⟨hb, ⟨hf, _⟩ | ⟨_, G, hi, h', he, hG, hl⟩⟩ := hp
    · rw [h] at hf; cases hf
    · exact ⟨G, he, hb, hG, hi, h', hl⟩
end

theorem impl_GraphValid' (ac : Option Addr) (capc : Nat) (c : List Int) (g : List Vx) (v : Value) (fp : List Nat) (w : World) (hn : c.length ≤ 1099511627776) (hbig : g.length ≤ 1048576) (hps : ∀ x ∈ g, x.ps.length ≤ 1099511627776) (hc : IntsAt w ac c) (hg : Gr w g v fp) :
    Calls Try.prog 17 #[.slice ac c.length capc, v] w fun e w' => e = .returned (.bool (graphB c g)) ∧ Below w.heap.size w w' := by
  cases h : graphB c g with
  | false =>
    have H := Lib.hid (graphOf_no ac capc c g v fp w hn hbig hps hc hg h)
    clear hc hg hps h
    go_enter Try.func17, Try.ntmps17
    go_wp2_with fail
    refine H.out.mono ?_
    rintro e w1 ⟨rfl, hb⟩
    go_wp2
    go_ret
    exact ⟨rfl, hb⟩
  | true =>
    have H := Lib.hid (graphOf_yes ac capc c g v fp w hn hbig hps hc hg h)
    clear hc hg hps h
    go_enter Try.func17, Try.ntmps17
    go_wp2_with fail
    refine H.out.mono ?_
    rintro e w1 ⟨G, rfl, hb, _⟩
    go_wp2
    go_ret
    exact ⟨rfl, hb⟩

theorem impl_VertexValid' (ac : Option Addr) (capc : Nat) (c : List Int) (x : Vx) (pa : Option Addr) (pc : Nat) (w : World) (hn : c.length ≤ 1099511627776) (hbig : x.ps.length ≤ 1099511627776) (hc : IntsAt w ac c) (hp : IntsAt w pa x.ps) :
    Calls Try.prog 8 #[.slice ac c.length capc, .agg #[.int .i64 x.r, .int .i64 x.a, .slice pa x.ps.length pc, .int .i64 x.d]] w fun e w' => e = .returned (.bool (vvB c x)) ∧ Below w.heap.size w w' := by
  have hb0 : Below w.heap.size w (w.alloc (.cells #[.int .i64 x.r, .int .i64 x.a, .slice pa x.ps.length pc, .int .i64 x.d] 25)) := (Below.refl _ _).alloc (Nat.le_refl _) _
  have s0 := Str.new w 25 #[.int .i64 x.r, .int .i64 x.a, .slice pa x.ps.length pc, .int .i64 x.d]
  have k0 := s0.cell 0 (v := .int .i64 x.r) rfl
  have k1 := s0.cell 1 (v := .int .i64 x.a) rfl
  have k2 := s0.cell 2 (v := .slice pa x.ps.length pc) rfl
  have k3 := s0.cell 3 (v := .int .i64 x.d) rfl
  have H1 := Lib.hid (impl_CommitteeValid ac capc c _ hn (hc.below hb0))
  have Hb := Lib.hid hb0
  cases hv : validB c with
  | false =>
    rw [hv] at H1
    have Hz := Lib.hid (show vvB c x = false by unfold vvB; rw [hv]; rfl)
    clear hc hp hv s0 hb0
    go_enter Try.func8, Try.ntmps8
    go_wp2_with fail
    generalize w.alloc (.cells #[.int .i64 x.r, .int .i64 x.a, .slice pa x.ps.length pc, .int .i64 x.d] 25) = W0 at *
    refine H1.out.mono ?_
    rintro e w1 ⟨rfl, rfl⟩
    go_wp2
    go_ret
    exact ⟨ret_bool (by rw [Hz.out]), Hb.out⟩
  | true =>
    rw [hv] at H1
    have H2 := Lib.hid (vertex_fits ac capc c x pa pc _ hv hbig (hc.below hb0) (hp.below hb0))
    have Hz := Lib.hid (show vvB c x = vtxB c x by unfold vvB; rw [hv]; rfl)
    clear hc hp hv s0 hb0
    go_enter Try.func8, Try.ntmps8
    go_wp2_with fail
    generalize w.alloc (.cells #[.int .i64 x.r, .int .i64 x.a, .slice pa x.ps.length pc, .int .i64 x.d] 25) = W0 at *
    refine H1.out.mono ?_
    rintro e w1 ⟨rfl, rfl⟩
    go_wp2_with fail
    refine H2.out.mono ?_
    rintro e w1 ⟨rfl, hb⟩
    go_wp2
    go_ret
    exact ⟨ret_bool (by rw [Hz.out]), below_step Hb.out Hb.out.size hb⟩

theorem addN_cases (g : List Vx) (x : Vx) : addN g x = 0 ∨ addN g x = 1 ∨ addN g x = 2 ∨ addN g x = 3 := by
  unfold addN
  by_cases h1 : 0 ≤ findZ g x.r x.a
  · rw [if_pos h1]
    by_cases h2 : sameB (g.getD (findZ g x.r x.a).toNat vx0) x = true
    · rw [if_pos h2]; omega
    · rw [if_neg h2]; omega
  · rw [if_neg h1]
    by_cases h2 : parB g x = true
    · rw [if_pos h2]; omega
    · rw [if_neg h2]; omega
theorem addG_srt {g : List Vx} {x : Vx} (h : Srt g) : Srt (addG g x) := by
  unfold addG
  split
  · rename_i h0
    refine ins_srt h fun y hy e => ?_
    obtain ⟨k, hk, ek, _⟩ := findZ_mem h hy
    rw [e.1, e.2] at ek
    unfold addN at h0
    rw [if_pos (by rw [ek]; omega)] at h0
    split at h0 <;> simp at h0
  · exact h
set_option maxRecDepth 8000 in
set_option maxHeartbeats 1000000 in
theorem impl_GraphMerge' (ac : Option Addr) (capc : Nat) (c : List Int) (a b : List Vx) (va vb : Value) (fa fb : List Nat) (w : World) (hn : c.length ≤ 1099511627776) (hbig : a.length + b.length ≤ 1048576) (hpa : ∀ y ∈ a, y.ps.length ≤ 1099511627776) (hpb : ∀ y ∈ b, y.ps.length ≤ 1099511627776) (hc : IntsAt w ac c) (ha : Gr w a va fa) (hb : Gr w b vb fb) :
    Calls Try.prog 13 #[.slice ac c.length capc, va, vb] w fun e w' => ∃ u, e = .returned (.tuple #[u, .bool (mgB c a b)]) ∧ OwnR 25 3 4 w' w.heap.size w'.heap.size u ((mgG c a b).map Vx.fd) ∧ Below w.heap.size w w' := by
  have HVb := Lib.hid (fun W h h' => impl_GraphValid' ac capc c b vb fb W hn (by omega) hpb h h')
  have hno := mg_no (c := c) (a := a) (b := b)
  cases hga : graphB c a with
  | false =>
    obtain ⟨hz2, hz1⟩ := hno (fun h => by rw [hga] at h; exact absurd h.1 (by simp))
    have H := Lib.hid (graphOf_no ac capc c a va fa w hn (by omega) hpa hc ha hga)
    have Hz1 := Lib.hid hz1
    have Hz2 := Lib.hid hz2
    clear hz1 hz2 hno hc ha hb hpa hpb
    go_enter Try.func13, Try.ntmps13
    go_wp2_with fail
    refine H.out.mono ?_
    rintro e w1 ⟨rfl, hb1⟩
    have Hb1 := Lib.hid hb1; clear hb1
    go_wp2
    go_ret2
    exact ⟨_, by rw [Hz1.out]; rfl, by rw [Hz2.out]; exact ownR_none _ _ Hb1.out.size, Hb1.out.alloc Hb1.out.size _⟩
  | true =>
  have H := Lib.hid (graphOf_yes ac capc c a va fa w hn (by omega) hpa hc ha hga)
  have Hc := Lib.hid hc; clear hc
  have Ha := Lib.hid ha; clear ha
  have Hb := Lib.hid hb; clear hb
  cases hgb : graphB c b with
  | false =>
    rw [hgb] at HVb
    obtain ⟨hz2, hz1⟩ := hno (fun h => by rw [hgb] at h; exact absurd h.2 (by simp))
    have Hz1 := Lib.hid hz1
    have Hz2 := Lib.hid hz2
    clear hz1 hz2 hno
    go_enter Try.func13, Try.ntmps13
    go_wp2_with fail
    refine H.out.mono ?_
    rintro e w1 ⟨G, rfl, hb1, _⟩
    have HV1 := Lib.hid (HVb.out w1 (Hc.out.below hb1) (Hb.out.under hb1))
    have Hb1 := Lib.hid hb1; clear hb1
    go_wp2_with fail
    refine HV1.out.mono ?_
    rintro e w2 ⟨rfl, hb2⟩
    have Hb2 := Lib.hid (below_step Hb1.out Hb1.out.size hb2); clear hb2
    go_wp2
    go_ret2
    exact ⟨_, by rw [Hz1.out]; rfl, by rw [Hz2.out]; exact ownR_none _ _ Hb2.out.size, Hb2.out.alloc Hb2.out.size _⟩
  | true =>
  rw [hgb] at HVb
  have hv : validB c = true := by unfold graphB at hga; simp only [Bool.and_eq_true] at hga; exact hga.1
  have hO : mgO c a b = mrgF a b := by unfold mgO; rw [if_pos ⟨hga, hgb⟩]
  have Hnone := Lib.hid (show mrgF a b = none → mgB c a b = false ∧ mgG c a b = [] from fun h => by unfold mgB mgG; rw [hO, h]; exact ⟨rfl, rfl⟩)
  have Hsome := Lib.hid (show ∀ out, mrgF a b = some out → mgB c a b = true ∧ mgG c a b = out from fun out h => by unfold mgB mgG; rw [hO, h]; exact ⟨rfl, rfl⟩)
  have Hva := Lib.hid (graph_vtx hga)
  have Hvb := Lib.hid (graph_vtx hgb)
  have Hsa := Lib.hid (graph_sorted hga)
  have HPb := Lib.hid hpb; clear hpb
  have HPa := Lib.hid hpa; clear hpa
  have Hv := Lib.hid hv; clear hv
  obtain ⟨ab, cb, rfl⟩ := Hb.out.slice
  clear hno hO hga hgb
  go_enter Try.func13, Try.ntmps13
  go_wp2_with fail
  refine H.out.mono ?_
  rintro e w1 ⟨G, rfl, hb1, hG, hi1, h1, hl1⟩
  have HV1 := Lib.hid (HVb.out w1 (Hc.out.below hb1) (Hb.out.under hb1))
  have Hl1 := Lib.hid hl1
  have Hb1 := Lib.hid hb1; clear hb1 hl1
  go_wp2_with fail
  refine HV1.out.mono ?_
  rintro e w2 ⟨rfl, hb2⟩
  have Hl2 := Lib.hid (Hl1.out.under hb2)
  have Hb2 := Lib.hid (below_step Hb1.out Hb1.out.size hb2); clear hb2
  go_wp2
  try simp only [Bool.not_true]
  go_loopw [29] (fun i wr => ∃ (k : Nat) (out : List Vx) (hi : Nat) (h : Nat → Value), k ≤ b.length ∧ i = .int .i64 k ∧ out.length ≤ a.length + k ∧ (∀ y ∈ out, y.ps.length ≤ 1099511627776) ∧ mrgF out (b.drop k) = mrgF a b ∧ Srt out ∧ (∀ y ∈ out, vtxB c y = true) ∧ Lk w wr hi G (.slice ac c.length capc) h out ∧ Below w.heap.size w wr) (fun i _ => b.length - (intOf i).toNat)
  case atStart => exact ⟨0, a, _, _, Nat.zero_le _, rfl, by omega, HPa.out, rfl, Hsa.out, Hva.out, Hl2.out, Hb2.out⟩
  case round =>
    obtain ⟨k, out, hi, h, hk, rfl, hol, hop, hmr, hsr, hvo, hL, hbel⟩ := hrel
    have Hbel := Lib.hid hbel; clear hbel
    have Hmr := Lib.hid hmr; clear hmr
    have HL := Lib.hid hL; clear hL
    have Hsr := Lib.hid hsr; clear hsr
    have Hvo := Lib.hid hvo; clear hvo
    have Hop := Lib.hid hop; clear hop
    by_cases hlt : k < b.length
    · obtain ⟨gb, off, rfl, hbb, hat⟩ := Hb.out.at (by omega)
      obtain ⟨c0, c1, ⟨pa, pc, c2, i2, s2⟩, c3⟩ := hat k hlt
      have hpy := HPb.out _ (List.getElem_mem hlt)
      have hvy := Hvb.out _ (List.getElem_mem hlt)
      have c0 := (Hbel.out.cell (p := ⟨gb, off + k * 4, none⟩) hbb).trans c0
      have c1 := (Hbel.out.cell (p := ⟨gb, off + k * 4 + 1, none⟩) hbb).trans c1
      have c2 := (Hbel.out.cell (p := ⟨gb, off + k * 4 + 2, none⟩) hbb).trans c2
      have c3 := (Hbel.out.cell (p := ⟨gb, off + k * 4 + 3, none⟩) hbb).trans c3
      have hbA : Below wr.heap.size wr (wr.alloc (.cells #[.int .i64 b[k].r, .int .i64 b[k].a, .slice pa b[k].ps.length pc, .int .i64 b[k].d] 25)) := (Below.refl _ _).alloc (Nat.le_refl _) _
      have s0 := Str.new wr 25 #[.int .i64 b[k].r, .int .i64 b[k].a, .slice pa b[k].ps.length pc, .int .i64 b[k].d]
      have k0 := s0.cell 0 (v := .int .i64 b[k].r) rfl
      have k1 := s0.cell 1 (v := .int .i64 b[k].a) rfl
      have k2 := s0.cell 2 (v := .slice pa b[k].ps.length pc) rfl
      have k3 := s0.cell 3 (v := .int .i64 b[k].d) rfl
      have hbwA := below_step Hbel.out Hbel.out.size hbA
      have HAdd := Lib.hid (graph_add w _ hi G ac capc c h out b[k] pa pc Hv.out hpy Hop.out s2 i2 Hc.out hbwA (HL.out.under hbA) Hsr.out Hvo.out)
      have HbwA := Lib.hid hbwA
      have hN : adN c out b[k] = addN out b[k] := by unfold adN; rw [if_pos hvy]
      have hGr : adG c out b[k] = addG out b[k] := by unfold adG; rw [if_pos hvy]
      have Hstop := Lib.hid (mrg_stop hlt Hmr.out)
      have Hstep := Lib.hid (mrg_step hlt Hmr.out)
      have hal := addG_len out b[k]
      have Hin := Lib.hid (show ∀ y ∈ addG out b[k], y.ps.length ≤ 1099511627776 from fun y hy => by
        rcases addG_mem hy with h | rfl
        · exact Hop.out y h
        · exact hpy)
      have Hvn := Lib.hid (show ∀ y ∈ addG out b[k], vtxB c y = true from fun y hy => by
        rcases addG_mem hy with h | rfl
        · exact Hvo.out y h
        · exact hvy)
      have HN := Lib.hid hN
      have HGr := Lib.hid hGr
      have Hss := Lib.hid (addG_srt (x := b[k]) Hsr.out)
      clear hat i2 s2 hpy hvy hbA s0 hbwA hN hGr
      generalize b[k] = y at *
      go_wp2_with fail
      generalize wr.alloc (.cells #[.int .i64 y.r, .int .i64 y.a, .slice pa y.ps.length pc, .int .i64 y.d] 25) = wB at *
      clear c0 c1 c2 c3
      refine HAdd.out.mono ?_
      rintro e w6 ⟨rfl, hg6, hi6, h6, hl6⟩
      have Hb6 := Lib.hid (HbwA.out.grown hg6 HbwA.out.size (fun g e => by cases e; exact hG))
      rw [HN.out]
      rw [HGr.out] at hl6
      have Hl6 := Lib.hid hl6
      clear hg6 hl6 k0 k1 k2 k3
      by_cases h2 : addN out y = 2
      · obtain ⟨hz1, hz2⟩ := Hnone.out (Hstop.out h2)
        have Hz1 := Lib.hid hz1
        have Hz2 := Lib.hid hz2
        have e2 : (addN out y == 2) = true := by simpa using h2
        clear hz1 hz2 h2
        generalize addN out y = N at *
        go_wp2
        go_ret2
        exact ⟨_, by rw [Hz1.out]; rfl, by rw [Hz2.out]; exact ownR_none _ _ Hb6.out.size, Hb6.out.alloc Hb6.out.size _⟩
      · have Hst := Lib.hid (Hstep.out h2)
        have e2 : (addN out y == 2) = false := by simpa using h2
        clear h2 Hstop HN Hstep
        generalize addN out y = N at *
        go_wp2
        go_roundw
        case rel => exact ⟨k + 1, _, _, _, by omega, by go_num, by omega, Hin.out, Hst.out, Hss.out, Hvn.out, Hl6.out, Hb6.out⟩
        case measure => simp [intOf]; omega
    · have hke : k = b.length := by omega
      subst hke
      obtain ⟨hz1, hz2⟩ := Hsome.out out (mrg_end Hmr.out)
      have Hz1 := Lib.hid hz1
      have Hz2 := Lib.hid hz2
      have HLs := Lib.hid (graph_list w wr hi G _ h out Hbel.out HL.out Hsr.out (fun y hy => vtx_pl Hv.out (Hvo.out y hy)) Hop.out (by omega))
      clear hz1 hz2
      go_wp2_with fail
      refine HLs.out.mono ?_
      rintro e w3 ⟨u, rfl, ho, hb3⟩
      have Ho := Lib.hid (ho.from Hbel.out.size)
      have Hb3 := Lib.hid (below_step Hbel.out Hbel.out.size hb3)
      clear ho hb3
      go_wp2
      go_ret2
      exact ⟨_, by rw [Hz1.out]; rfl, by rw [Hz2.out]; exact Ho.out, Hb3.out⟩

end Go.Proofs.Ythnbjdijcpcafaa
