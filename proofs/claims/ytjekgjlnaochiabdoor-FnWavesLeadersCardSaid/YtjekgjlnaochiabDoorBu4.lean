/- Texts that the laws of this folder share, one behind another; no conditions. -/
import Derived.Test.YtjekgjlnaochiabDoorRows
import Derived.Test.YtjekgjlnaochiabDoorBu2
import Derived.Test.YtjekgjlnaochiabDoorBu3
import Derived.Test.YtjekgjlnaochiabDoorBu0
import Derived.Maps.AppendAt
import Derived.Lib.AppendZeros
import Derived.Deep.QuietTactic
import Derived.BigQuiet

/- The draws of graphs: what is drawn is a graph in new memory, each by a walk of its text; condition: at most 10^5 picks before. -/
namespace Go.Proofs.YtjekgjlnaochiabDoor
open Go.RowKit

theorem own_litG (E : TypeId) (w : World) {B : Nat} (xs : List Int) (hB : B ≤ w.heap.size) (hm : xs.length ≤ maxLen) :
    Own E (w.alloc (.cells (xs.map (Value.int .i64)).toArray E)) B (.slice (some ⟨w.heap.size, 0, none⟩) xs.length xs.length) xs :=
  ⟨by simp, .inr ⟨w.heap.size, xs.length, _, rfl, hB, heap_alloc_new w _, Nat.le_refl _, hm, by simp, by simp [List.take_of_length_le]⟩⟩

theorem drawGoodV (R p : Nat) (w : World) (hp : p ≤ 1000000) (hr : Rdr w R p) (hR : R < w.heap.size) :
    Calls Tryd.prog 77 #[.pointer (some ⟨R, 0, none⟩)] w fun e w' => ∃ v xs p', e = .returned v ∧ Own 3 w' w.heap.size v xs ∧ validB xs = true ∧ Rdr w' R p' ∧ p' ≤ p + 20 ∧ w.grownBy w' (some R) := by
  go_enter Tryd.func77, Tryd.ntmps77
  go_wp2_with fail
  refine (drawCommittee R p _ hp hr hR).mono ?_
  rintro e w2 ⟨v, c, p', rfl, hown, hcl, hsm, hr2, hp', hg2⟩
  obtain ⟨a, cap, rfl, hi, _⟩ := hown.ints
  have hz := hg2.size
  have hv' := spec_CommitteeValid a cap c w2 (by omega) hi
  have Hr2 := Lib.hid hr2; clear hr2
  have Hg2 := Lib.hid hg2; clear hg2
  cases hv : validB c with
  | true =>
    rw [hv] at hv'
    have Hvv := Lib.hid hv
    have Hv := Lib.hid hv'; clear hv' hv hi
    have Hown := Lib.hid hown; clear hown
    go_wp2_with fail
    refine Hv.out.mono ?_
    rintro e w3 ⟨rfl, rfl⟩
    go_wp2
    go_ret
    exact ⟨_, c, p', rfl, Hown.out, Hvv.out, Hr2.out, hp', Hg2.out⟩
  | false =>
    rw [hv] at hv'
    have Hv := Lib.hid hv'; clear hv' hv hi hown
    go_wp2_with fail
    refine Hv.out.mono ?_
    rintro e w3 ⟨rfl, rfl⟩
    go_wp2
    go_ret
    exact ⟨_, [1, 1, 1, 1], p', rfl, own_litG 3 w2 [1, 1, 1, 1] hz (by unfold maxLen; simp), by decide, Hr2.out.alloc _, hp', grownBy_trans Hg2.out (World.grownBy_alloc _ _ _)⟩

/-- Valid vertices in order. -/
def GOk (c : List Int) (g : List Vx) : Prop := (∀ x ∈ g, vtxB c x = true) ∧ g.Pairwise fun a b => befB a b = true
theorem gOk_nil (c : List Int) : GOk c [] := ⟨by simp, .nil⟩
theorem gOk_push {c : List Int} {g : List Vx} {x : Vx} (h : GOk c g) (hx : vtxB c x = true) (hb : ∀ y ∈ g, y.r < x.r ∨ y.r = x.r ∧ y.a < x.a) : GOk c (g ++ [x]) := by
  refine ⟨fun y hy => ?_, List.pairwise_append.2 ⟨h.2, by simp, fun a ha b hb' => ?_⟩⟩
  · rcases List.mem_append.1 hy with hy | hy
    · exact h.1 y hy
    · simp at hy; subst hy; exact hx
  · simp at hb'; subst hb'
    exact decide_eq_true (hb a ha)
theorem gOk_auth {c : List Int} {g : List Vx} (h : GOk c g) (r : Int) : (authZ g r).Pairwise (· < ·) ∧ ∀ m ∈ authZ g r, 0 ≤ m ∧ m < c.length := by
  refine ⟨?_, fun m hm => ?_⟩
  · unfold authZ
    rw [List.pairwise_map]
    refine List.Pairwise.imp_of_mem (R := fun a b => befB a b = true) (fun {a b} ha hb hab => ?_) (h.2.filter _)
    have ha := of_decide_eq_true (List.mem_filter.1 ha).2
    have hb := of_decide_eq_true (List.mem_filter.1 hb).2
    have := of_decide_eq_true hab
    omega
  · unfold authZ at hm
    obtain ⟨x, hx, rfl⟩ := List.mem_map.1 hm
    exact vtx_author (h.1 x (List.mem_filter.1 hx).1)
theorem members_sub {n : Nat} {H ps : List Int} (h : H.Pairwise (· < ·) ∧ ∀ m ∈ H, 0 ≤ m ∧ m < n) (hs : ps.Sublist H) : membersB n ps = true :=
  members_pairwise (h.1.sublist hs) fun m hm => h.2 m (hs.subset hm)

theorem OwnR.apartI {E E' Ei : TypeId} {sz : Nat} {w : World} {B B' hi : Nat} {v u : Value} {es : List (List Fd)} {xs : List Int} (h : OwnR E Ei sz w B hi v es) (h' : Own E' w B' u xs) (hE : E ≠ E') : u.ownBlock = none ∨ u.ownBlock ≠ v.ownBlock := by
  obtain ⟨cs, h1, _⟩ := h.row
  rcases h'.2 with ⟨rfl, _⟩ | ⟨g, cap, cur, rfl, _, hg, _⟩
  · exact .inl rfl
  · rcases h1.2 with ⟨rfl, _⟩ | ⟨g', cap', cur', rfl, _, hg', _⟩
    · exact .inr (fun e => by cases e)
    · refine .inr fun e => hE ?_
      have e' : g = g' := by cases e; rfl
      subst e'
      rw [hg] at hg'
      cases hg'
      rfl

set_option maxRecDepth 8000 in
set_option maxHeartbeats 4000000 in
theorem drawGraph (R p : Nat) (rounds : Int) (w : World) (ac : Option Addr) (capc : Nat) (c : List Int) (hp : p ≤ 100000) (hn0 : 0 ≤ rounds) (hn1 : rounds ≤ 40) (hv : validB c = true) (hr : Rdr w R p) (hR : R < w.heap.size) (hc : ∀ W, w.grownBy W (some R) → IntsAt W ac c) :
    Calls Tryd.prog 78 #[.pointer (some ⟨R, 0, none⟩), .slice ac c.length capc, .int .i64 rounds] w fun e w' => ∃ v g p', e = .returned v ∧ OwnR 56 3 4 w' w.heap.size w'.heap.size v (g.map Vx.fd) ∧ GOk c g ∧ g.length ≤ 280 ∧ Rdr w' R p' ∧ p' ≤ p + 80000 ∧ w.grownBy w' (some R) := by
  obtain ⟨hc1, hc7⟩ := validB_len hv
  have Hr0 := Lib.hid (hr.alloc (.cells #[] 56)); clear hr
  have Hg0 := Lib.hid (World.grownBy_alloc w (.cells #[] 56) (some R))
  have hv0 : OwnR 56 3 4 (w.alloc (.cells #[] 56)) w.heap.size (w.alloc (.cells #[] 56)).heap.size (.slice (some ⟨w.heap.size, 0, none⟩) 0 0) [] := .nil (World.ownsRow_made w #[] 0 (Nat.le_refl _) (by simp) (by simp)) (fun g e => by cases e; simp)
  have Hv0 := Lib.hid hv0; clear hv0
  have Hc := Lib.hid hc; clear hc
  obtain ⟨rounds, rfl⟩ := Int.eq_ofNat_of_zero_le hn0
  have HWt := Lib.hid (fun ps am cap W (hm : membersB c.length ps = true) (hl : ps.length ≤ 1099511627776) h h' => spec_l1Weight ac capc c am cap ps W hv hm hl h h')
  have HQt := Lib.hid (fun W h => spec_l1Quorum ac capc c W hv h)
  have HVx := Lib.hid (fun r a d pa pc ps W (hl : ps.length ≤ 1099511627776) h h' => spec_l11Vertex ac capc c r a d pa pc ps W hv hl h h')
  go_enter Tryd.func78, Tryd.ntmps78
  go_wp2_with fail
  go_loopw [7, 8] (fun v i wr => ∃ (n : Nat) (g : List Vx) (q : Nat), n ≤ rounds ∧ i = .int .i64 n ∧ OwnR 56 3 4 wr w.heap.size wr.heap.size v (g.map Vx.fd) ∧ GOk c g ∧ (∀ x ∈ g, x.r < n) ∧ g.length ≤ 7 * n ∧ Rdr wr R q ∧ q ≤ p + 2000 * n ∧ w.grownBy wr (some R)) (fun _ i _ => rounds - (intOf i).toNat)
  case atStart => exact ⟨0, [], p, Nat.zero_le _, rfl, Hv0.out, gOk_nil c, by simp, by simp, Hr0.out, by omega, Hg0.out⟩
  case round =>
    obtain ⟨n, g0, q0, hn, rfl, hown, hok, hlt0, hgl, hrd, hq, hgr⟩ := hrel
    have Hown := Lib.hid hown; clear hown
    have Hrd := Lib.hid hrd; clear hrd
    have Hgr := Lib.hid hgr; clear hgr
    have Hok := Lib.hid hok; clear hok
    have Hlt0 := Lib.hid hlt0; clear hlt0
    by_cases hlt : n < rounds
    case neg =>
      have hn40 : n ≤ 40 := by omega
      go_wp2
      go_ret
      exact ⟨_, g0, q0, rfl, Hown.out, Hok.out, by omega, Hrd.out, by omega, Hgr.out⟩
    case pos =>
    obtain ⟨fo, hro⟩ := Hown.out.reads
    have hwn : IntKind.i64.wrap ((n : Int) - 1) = n - 1 := IntWalk.i64_in _ (by omega)
    have Hau := Lib.hid (spec_l11Authors g0 _ fo ((n : Int) - 1) wr (by omega) hro); clear hro
    have Hasc := Lib.hid (gOk_auth Hok.out ((n : Int) - 1))
    have hHl := authZ_len g0 ((n : Int) - 1)
    generalize authZ g0 ((n : Int) - 1) = H at *
    go_wp2_with fail
    refine Hau.out.mono ?_
    rintro e w2 ⟨uh, rfl, hoh, hb2⟩
    have hs2 := hb2.size
    have Hown2 := Lib.hid (Hown.out.below hb2 (Nat.le_refl _))
    have Hrd2 := Lib.hid (Hrd.out.kept (below_grown hb2) (fun g e => by cases e))
    have Hgr2 := Lib.hid (grown_row Hgr.out (below_grown hb2) (fun g e => by cases e))
    have hRw := Hgr.out.size
    have Hoh := Lib.hid (hoh.mono hRw)
    obtain ⟨ah, ch, rfl, hih, hsh, _⟩ := hoh.src
    clear hb2 hoh hih hsh
    go_wp2
    go_loopw [7, 10] (fun v i wr => ∃ (a : Nat) (g : List Vx) (q : Nat), a ≤ c.length ∧ i = .int .i64 a ∧ OwnR 56 3 4 wr w.heap.size wr.heap.size v (g.map Vx.fd) ∧ GOk c g ∧ (∀ x ∈ g, x.r < n ∨ x.r = n ∧ x.a < a) ∧ g.length ≤ 7 * n + a ∧ Rdr wr R q ∧ q ≤ p + 2000 * n + 283 * a ∧ w.grownBy wr (some R) ∧ Own 3 wr w.heap.size (.slice ah H.length ch) H ∧ w2.heap.size ≤ wr.heap.size) (fun _ i _ => c.length - (intOf i).toNat)
    case atStart => exact ⟨0, g0, q0, Nat.zero_le _, rfl, Hown2.out.mono hs2, Hok.out, fun x hx => .inl (Hlt0.out x hx), by omega, Hrd2.out, by omega, Hgr2.out, Hoh.out, Nat.le_refl _⟩
    case round =>
      obtain ⟨a, g, q, ha, rfl, hown, hok, hord, hgl, hrd, hq, hgr, hoh, hsz⟩ := hrel
      have Hown := Lib.hid hown; clear hown
      have Hrd := Lib.hid hrd; clear hrd
      have Hgr := Lib.hid hgr; clear hgr
      have Hok := Lib.hid hok; clear hok
      have Hord := Lib.hid hord; clear hord
      have Hoh := Lib.hid hoh; clear hoh
      by_cases hal : a < c.length
      case neg =>
        have hac : a = c.length := by omega
        subst hac
        go_wp2
        go_roundw
        case rel => exact ⟨n + 1, g, q, by omega, by go_num, Hown.out, Hok.out, fun x hx => by have := Hord.out x hx; omega, by omega, Hrd.out, by omega, Hgr.out⟩
        case measure => simp [intOf]; omega
      case pos =>
      go_wp2_with fail
      refine (pick_any R 6 q _ (by omega) Hrd.out (by omega)).mono ?_
      rintro e w3 ⟨z, rfl, hz0, hz1, hr3, hg3⟩
      have hs3 := hg3.size
      have Hrd3 := Lib.hid hr3; clear hr3
      have Hgr3 := Lib.hid (grownBy_trans Hgr.out hg3)
      have Hown3 := Lib.hid ((Hown.out.same fun b h1 h2 => hg3.block b (by omega) (fun e => by cases e; omega)).mono hs3)
      have Hoh3 := Lib.hid (Hoh.out.kept hg3 (.inr fun e => by have := (Hoh.out.lt R e).1; omega))
      clear hg3
      by_cases hz : z = 0
      · subst hz
        go_wp2
        go_roundw
        case rel => exact ⟨a + 1, g, q + 1, by omega, by go_num, Hown3.out, Hok.out, fun x hx => by have := Hord.out x hx; omega, by omega, Hrd3.out, by omega, Hgr3.out, Hoh3.out, by omega⟩
        case measure => simp [intOf]; omega
      have hz' : (z == 0) = false := by simpa using hz
      clear hz hz0 hz1 Hrd Hgr Hown Hoh
      have hwa : IntKind.i64.wrap (31 * (n : Int)) = 31 * n := IntWalk.i64_in _ (by omega)
      have hwb : IntKind.i64.wrap (7 * (a : Int)) = 7 * a := IntWalk.i64_in _ (by omega)
      have hwc : IntKind.i64.wrap (31 * (n : Int) + 7 * (a : Int)) = 31 * n + 7 * a := IntWalk.i64_in _ (by omega)
      go_wp2_with fail
      refine (pick_any R 90 (q + 1) _ (by omega) (Hrd3.out.alloc _) (by omega)).mono ?_
      rintro e w5 ⟨y, rfl, hy0, hy1, hr5, hg5⟩
      have ho5 := (own_empty 3 w3 (Nat.le_refl _)).kept hg5 (.inr fun e => by have := Hrd3.out.lt; simp [Value.ownBlock] at e; omega)
      have hg5' := grownBy_trans (World.grownBy_alloc w3 (.cells #[] 3) (some R)) hg5
      have hs5 : w3.heap.size + 1 ≤ w5.heap.size := by have := hg5.size; simpa using this
      have Hrd5 := Lib.hid hr5; clear hr5
      have Ho5 := Lib.hid ho5; clear ho5
      have Hg5 := Lib.hid hg5'; clear hg5' hg5
      have hwd : IntKind.i64.wrap (31 * (n : Int) + 7 * (a : Int) + y) = 31 * n + 7 * a + y := IntWalk.i64_in _ (by omega)
      obtain ⟨D, hD⟩ : ∃ D, (31 * (n : Int) + 7 * (a : Int) + y).tmod 991 = D := ⟨_, rfl⟩
      have hDb : -9223372036854775808 ≤ D ∧ D ≤ 9223372036854775807 := by
        rw [← hD, Int.tmod_eq_emod_of_nonneg (by omega)]; omega
      have hs0 := Str.new w5 56 #[.int .i64 n, .int .i64 a, .slice (some ⟨w3.heap.size, 0, none⟩) 0 0, .int .i64 D]
      have hgA := grownBy_trans Hg5.out (World.grownBy_alloc w5 (.cells #[.int .i64 n, .int .i64 a, .slice (some ⟨w3.heap.size, 0, none⟩) 0 0, .int .i64 D] 56) (some R))
      have hoA := Ho5.out.alloc (.cells #[.int .i64 n, .int .i64 a, .slice (some ⟨w3.heap.size, 0, none⟩) 0 0, .int .i64 D] 56)
      have hrA := Hrd5.out.alloc (.cells #[.int .i64 n, .int .i64 a, .slice (some ⟨w3.heap.size, 0, none⟩) 0 0, .int .i64 D] 56)
      have HsA := Lib.hid hs0; clear hs0
      have HgA := Lib.hid hgA; clear hgA
      have HoA := Lib.hid hoA; clear hoA
      have HrA := Lib.hid hrA; clear hrA Hrd5 Ho5 Hg5
      have hw3 := Hgr3.out.size
      go_wp2
      clear hwa hwb hwc hwd hD
      generalize w5.alloc (.cells #[.int .i64 n, .int .i64 a, .slice (some ⟨w3.heap.size, 0, none⟩) 0 0, .int .i64 D] 56) = w6 at *
      generalize w5.heap.size = Bv at *
      go_loopw [12] (fun i wr => ∃ (k : Nat) (ps : List Int) (vp : Value) (q2 : Nat), k ≤ H.length ∧ i = .int .i64 k ∧ ps.Sublist (H.take k) ∧ Str wr Bv 56 #[.int .i64 n, .int .i64 a, vp, .int .i64 D] ∧ Own 3 wr w3.heap.size vp ps ∧ vp.ownBlock ≠ some Bv ∧ Rdr wr R q2 ∧ q2 ≤ q + 2 + k ∧ w3.grownBy wr (some R)) (fun i _ => H.length - (intOf i).toNat)
      case atStart => exact ⟨0, [], _, q + 1 + 1, Nat.zero_le _, rfl, by simp, HsA.out, HoA.out, by simp [Value.ownBlock]; omega, HrA.out, by omega, HgA.out⟩
      case round =>
        obtain ⟨k, ps, vp, q2, hk, rfl, hsub, hst, hop, hne, hrd, hq2, hg3r⟩ := hrel
        have Hst := Lib.hid hst; clear hst
        have Hop := Lib.hid hop; clear hop
        have Hrd := Lib.hid hrd; clear hrd
        have Hg3r := Lib.hid hg3r; clear hg3r
        have Hsub := Lib.hid hsub; clear hsub
        have Hne := Lib.hid hne; clear hne
        have hBw := Hst.out.lt
        have Hohr := Lib.hid (Hoh3.out.kept Hg3r.out (.inr fun e => by have := (Hoh3.out.lt R e).1; omega))
        by_cases hlt2 : k < H.length
        · obtain ⟨bh, ch', e, hbB, hbs, _, hcells, _⟩ := Hohr.out.row (by omega)
          simp only [Value.slice.injEq, true_and] at e
          obtain ⟨rfl, rfl⟩ := e
          have hch := hcells k hlt2
          have hb3 : bh < w3.heap.size := by
            exact (Hoh3.out.lt bh rfl).2
          clear hcells
          by_cases hn0 : n = 0
          · exfalso; omega
          have hnn : decide ((0 : Int) < (n : Int)) = true := decide_eq_true (by omega)
          have hnn' : (0 : Int) < (n : Int) := by omega
          clear hn0
          go_wp2_with fail
          refine (pick_any R 8 q2 _ (by omega) Hrd.out (by omega)).mono ?_
          rintro e w7 ⟨u, rfl, hu0, hu1, hr7, hg7⟩
          have hs7 := hg7.size
          have Hrd7 := Lib.hid hr7; clear hr7
          have Hst7 := Lib.hid (Hst.out.kept hg7 (by simp; omega))
          have Hop7 := Lib.hid (Hop.out.kept hg7 (.inr fun e => by have := (Hop.out.lt R e).1; have := Hgr3.out.size; omega))
          have Hg37 := Lib.hid (grownBy_trans Hg3r.out hg7)
          have hch7 : w7.cell? ⟨bh, k, none⟩ = some (.int .i64 H[k]) := hg7.cell hch (by simp; omega)
          clear hg7 hch
          by_cases hu : 0 < u
          · have hud : decide ((0 : Int) < u) = true := decide_eq_true hu
            have Hsub' := Lib.hid (show (ps ++ [H[k]]).Sublist (H.take (k + 1)) by
              rw [List.take_succ_eq_append_getElem hlt2]
              exact Hsub.out.append (List.Sublist.refl _))
            generalize H[k] = x at *
            have h2 : w7.drew.cell? ⟨Bv, 2, none⟩ = some vp := Hst7.out.cell 2 (v := vp) rfl
            have h3 : w7.drew.cell? ⟨bh, k, none⟩ = some (.int .i64 x) := hch7
            go_wp2_with fail
            refine wp_region_L 9 (fun w' => w'.cell? ⟨Bv, 2, none⟩ = some vp ∧ w'.cell? ⟨bh, k, none⟩ = some (.int .i64 x)) (by kernel_rfl) ⟨h2, h3⟩ (fun hH => ?_)
            refine takeL 0 (v := ?v0) rfl (by kernel_rfl) (by kernel_rfl) (by kernel_rfl) (by kernel_rfl) (by kernel_rfl) (fun _ _ _ h => h) hH rfl ?y0 ?r0
            case y0 => intro W hSw; go_simp; try with_reducible rfl
            try simp only [Act.put, List.setIfInBounds_toArray, List.set_cons_zero, List.set_cons_succ]
            refine takeL 1 (v := ?v1) rfl (by kernel_rfl) (by kernel_rfl) (by kernel_rfl) (by kernel_rfl) (by kernel_rfl) (fun _ _ _ h => h) hH rfl ?y1 ?r1
            case y1 => intro W hSw; go_simp; try with_reducible rfl
            try simp only [Act.put, List.setIfInBounds_toArray, List.set_cons_zero, List.set_cons_succ]
            refine takeL 2 (v := ?v2) rfl (by kernel_rfl) (by kernel_rfl) (by kernel_rfl) (by kernel_rfl) (by kernel_rfl) (fun _ _ _ h => h) hH rfl ?y2 ?r2
            case y2 => intro W hSw; go_simp; try with_reducible rfl
            try simp only [Act.put, List.setIfInBounds_toArray, List.set_cons_zero, List.set_cons_succ]
            refine takeL 3 (v := ?v3) rfl (by kernel_rfl) (by kernel_rfl) (by kernel_rfl) (by kernel_rfl) (by kernel_rfl) (fun _ _ _ h => h) hH rfl ?y3 ?r3
            case y3 => intro W hSw; go_simp; try with_reducible rfl
            try simp only [Act.put, List.setIfInBounds_toArray, List.set_cons_zero, List.set_cons_succ]
            refine takeL 4 (v := ?v4) rfl (by kernel_rfl) (by kernel_rfl) (by kernel_rfl) (by kernel_rfl) (by kernel_rfl) (fun _ _ _ h => h) hH rfl ?y4 ?r4
            case y4 => intro W hSw; go_simp; try with_reducible rfl
            try simp only [Act.put, List.setIfInBounds_toArray, List.set_cons_zero, List.set_cons_succ]
            refine takeL 5 (v := ?v5) rfl (by kernel_rfl) (by kernel_rfl) (by kernel_rfl) (by kernel_rfl) (by kernel_rfl) (fun _ _ _ h => h) hH rfl ?y5 ?r5
            case y5 => intro W hSw; go_simp; try with_reducible rfl
            try simp only [Act.put, List.setIfInBounds_toArray, List.set_cons_zero, List.set_cons_succ]
            refine callL 6 rfl (by kernel_rfl) rfl (fun K hK => ?_)
            go_simp
            refine hK.out _ _ ⟨(World.grownBy_alloc w7.drew _ none).cell h2 (by simp), (World.grownBy_alloc w7.drew _ none).cell h3 (by simp)⟩ (fun hH => ?_)
            clear hK K
            try simp only [Act.put, List.setIfInBounds_toArray, List.set_cons_zero, List.set_cons_succ]
            have hown7 : Own 3 w7.drew w3.heap.size vp ps := Hop7.out
            have hst7 : Str w7.drew Bv 56 #[.int .i64 n, .int .i64 a, vp, .int .i64 D] := Hst7.out
            have hpl : ps.length ≤ 1099511627776 := by have := Hsub.out.length_le; rw [List.length_take] at this; omega
            have hB7 : w3.heap.size ≤ w7.drew.heap.size := Hg37.out.size
            have hg37 : w3.grownBy w7.drew (some R) := grownBy_drewN Hg37.out 1
            have hrd7 : Rdr w7.drew R (q2 + 1) := Hrd7.out.drewN 1
            refine callL 7 rfl (by kernel_rfl) rfl (fun K hK => ?_)
            refine op_push_at TIg w7.drew (.tmp 59) (.tmp 64) rfl w3.heap.size vp ps x rfl hown7 hpl rfl hB7 ?_
            intro v9 w9 hown9 hg9 hat9
            obtain ⟨g9, c9, rfl⟩ := own_succ hown9
            have s9 := hst7.kept hg9 (fun e => Hne.out e.symm)
            have h9 := s9.cell 2 (v := vp) rfl
            have f9 := s9.frozen 2
            have h39 : w9.cell? ⟨bh, k, none⟩ = some (.int .i64 x) := hg9.cell h3 (by intro e; have h' : w3.heap.size ≤ bh := (hown7.lt _ e.symm).1; omega)
            refine hK.out _ _ ⟨h9, h39⟩ (fun hH => ?_)
            clear hK K
            try simp only [Act.put, List.setIfInBounds_toArray, List.set_cons_zero, List.set_cons_succ]
            refine takeL 8 (v := ?v8) rfl (by kernel_rfl) (by kernel_rfl) (by kernel_rfl) (by kernel_rfl) (by kernel_rfl) (fun _ _ _ h => h) hH rfl ?y8 ?r8
            case y8 => intro W hSw; go_simp; try with_reducible rfl
            try simp only [Act.put, List.setIfInBounds_toArray, List.set_cons_zero, List.set_cons_succ]
            refine lastL rfl (by kernel_rfl) (by kernel_rfl) (by kernel_rfl) rfl (fun K hK => ?_)
            go_simp
            refine hK.out _ _ ?_
            clear hK K
            try simp only [Act.put, List.setIfInBounds_toArray, List.set_cons_zero, List.set_cons_succ]
            have hBs : Bv < w7.drew.heap.size := hst7.lt
            have hne9 : (Value.slice (some ⟨g9, 0, none⟩) (ps.length + 1) c9).ownBlock ≠ some Bv := by
              rcases hat9 with h | ⟨g', h, h'⟩
              · rw [h]; exact Hne.out
              · rw [h]; simp; omega
            have hRB : R < Bv := by omega
            go_wp2
            go_roundw
            case rel => exact ⟨k + 1, ps ++ [x], _, q2 + 1, by omega, by go_num, Hsub'.out, (by have := s9.set 2 (.slice (some ⟨g9, 0, none⟩) (ps.length + 1) c9); simpa using this), hown9.set_other hne9 2 _, hne9, (hrd7.kept hg9 (fun g e => by have := (hown7.lt g e).1; omega)).kept (grownBy_set w9 Bv 2 _) (fun g e => by cases e; exact hRB), by omega, grown_row (grown_row hg37 hg9 (fun g e => (hown7.lt g e).1)) (grownBy_set w9 Bv 2 _) (fun g e => by cases e; omega)⟩
            case measure => simp [intOf]; omega
          · have hud : decide ((0 : Int) < u) = false := decide_eq_false hu
            clear hu0 hu1
            go_wp2
            go_roundw
            case rel => exact ⟨k + 1, ps, vp, q2 + 1, by omega, by go_num, Hsub.out.trans (List.take_sublist_take_left (by omega)), Hst7.out, Hop7.out, Hne.out, Hrd7.out, by omega, Hg37.out⟩
            case measure => simp [intOf]; omega
        · have hke : k = H.length := by omega
          subst hke
          rw [List.take_length] at Hsub
          have hpl : ps.length ≤ 1099511627776 := by have := Hsub.out.length_le; omega
          obtain ⟨ap, cp, rfl, hip, _⟩ := Hop.out.ints
          clear hip
          by_cases hn0 : n = 0
          · have hnn : decide ((0 : Int) < (n : Int)) = false := decide_eq_false (by omega)
            have hnn' : ¬ (0 : Int) < (n : Int) := by omega
            clear hn0
            have hgW := grownBy_trans Hgr3.out Hg3r.out
            have hcW := Hc.out _ hgW
            have HgW := Lib.hid hgW; clear hgW
            have st := Hst.out
            have c0 := st.cell 0 (v := .int .i64 n) rfl
            have c1 := st.cell 1 (v := .int .i64 a) rfl
            have c2 := st.cell 2 (v := .slice ap ps.length cp) rfl
            have c3 := st.cell 3 (v := .int .i64 D) rfl
            have Hcall := Lib.hid (HVx.out n a D ap cp ps _ hpl hcW Hop.out.at)
            clear st hcW
            cases hvx : vtxB c ⟨n, a, ps, D⟩ with
            | false =>
              rw [hvx] at Hcall
              clear Hst Hop Hne
              go_wp2_with fail
              refine Hcall.out.mono ?_
              rintro e w8 ⟨rfl, hb8⟩
              have Hg38 := Lib.hid (grown_row (w := w3) Hg3r.out (below_grown hb8) (fun g e => by cases e))
              have Hown8 := Lib.hid (Hown3.out.same fun b h1 h2 => Hg38.out.block b h2 (fun e => by cases e; omega))
              have Hoh8 := Lib.hid (Hoh3.out.kept Hg38.out (.inr fun e => by have := (Hoh3.out.lt R e).1; omega))
              have Hrd8 := Lib.hid (Hrd.out.kept (below_grown hb8) (fun g e => by cases e))
              have hs8 := Hg38.out.size
              have HgW8 := Lib.hid (grownBy_trans Hgr3.out Hg38.out)
              clear hb8 c0 c1 c2 c3
              go_wp2
              go_roundw
              case rel => exact ⟨a + 1, g, q2, by omega, by go_num, Hown8.out.mono hs8, Hok.out, fun x hx => by have := Hord.out x hx; omega, by omega, Hrd8.out, by omega, HgW8.out, Hoh8.out, by omega⟩
              case measure => simp [intOf]; omega
            | true =>
              rw [hvx] at Hcall
              have Hok' := Lib.hid (gOk_push Hok.out hvx Hord.out)
              clear hvx
              go_wp2_with fail
              refine Hcall.out.mono ?_
              rintro e w8 ⟨rfl, hb8⟩
              have Hg38 := Lib.hid (grown_row (w := w3) Hg3r.out (below_grown hb8) (fun g e => by cases e))
              have Hown8 := Lib.hid (Hown3.out.same fun b h1 h2 => Hg38.out.block b h2 (fun e => by cases e; omega))
              have Hoh8 := Lib.hid (Hoh3.out.kept Hg38.out (.inr fun e => by have := (Hoh3.out.lt R e).1; omega))
              have Hrd8 := Lib.hid (Hrd.out.kept (below_grown hb8) (fun g e => by cases e))
              have hs8 := Hg38.out.size
              have HgW8 := Lib.hid (grownBy_trans Hgr3.out Hg38.out)
              have st := (hb8.block _ Hst.out.lt).trans Hst.out
              have hop8 := Hop.out.below hb8
              have c0 := Str.cell st 0 (v := .int .i64 n) rfl
              have c1 := Str.cell st 1 (v := .int .i64 a) rfl
              have c2 := Str.cell st 2 (v := .slice ap ps.length cp) rfl
              have c3 := Str.cell st 3 (v := .int .i64 D) rfl
              obtain ⟨hfd, hap, hnew⟩ := vertex_new (B := w.heap.size) n a D hop8 hw3
              have Hfd := Lib.hid hfd; clear hfd
              have Hap := Lib.hid hap; clear hap
              have Hnew := Lib.hid hnew; clear hnew hop8 st hb8
              have hel : (g.map Vx.fd).length ≤ 1048576 := by rw [List.length_map]; omega
              have Hex := Lib.hid (show (g ++ [(⟨n, a, ps, D⟩ : Vx)]).map Vx.fd = g.map Vx.fd ++ [[.i n, .i a, .l ps, .i D]] by rw [List.map_append]; rfl)
              have hB8 : w.heap.size ≤ w8.heap.size := by omega
              generalize g.map Vx.fd = es at *
              go_wp2_with (at_builtin; refine wpList_push_own (Ei := 3) Tryd.underlying24 vertex_inf rfl (by decide) (by decide) rfl (.tmp 85) (.tmp 87) rfl w.heap.size _ es _ _ _ rfl rfl (by intro u hu; simp at hu; rcases hu with rfl | rfl | rfl | rfl <;> rfl) rfl rfl Hfd.out Hap.out w3.heap.size Hown8.out hs8 Hnew.out hel rfl hB8 ?_; intro v9 w9 hown9 hg9 hat9)
              go_roundw
              case rel => exact ⟨a + 1, g ++ [⟨n, a, ps, D⟩], q2, by omega, by go_num, by rw [Hex.out]; exact hown9, Hok'.out, fun x hx => by
                rcases List.mem_append.1 hx with hx | hx
                · have := Hord.out x hx; omega
                · simp at hx; subst hx; exact .inr ⟨rfl, (show (a : Int) < ((a + 1 : Nat) : Int) by omega)⟩, by have := hgl; rw [List.length_append]; simp only [List.length_singleton]; omega, Hrd8.out.kept hg9 (fun g e => by have := (Hown8.out.lt g e).1; omega), by omega, grown_row HgW8.out hg9 (fun g e => (Hown8.out.lt g e).1), Hoh8.out.kept hg9 (Hown8.out.apartI Hoh8.out (by decide)), by have := hg9.size; omega⟩
              case measure => simp [intOf]; omega
          have hnn : decide ((0 : Int) < (n : Int)) = true := decide_eq_true (by omega)
          have hnn' : (0 : Int) < (n : Int) := by omega
          clear hn0
          have hmb := members_sub Hasc.out Hsub.out
          have hcW0 := Hc.out _ (grownBy_trans Hgr3.out Hg3r.out)
          have k2 := Hst.out.cell 2 (v := .slice ap ps.length cp) rfl
          have HW1 := Lib.hid (HWt.out ps ap cp wr hmb hpl hcW0 Hop.out.at)
          have HQ1 := Lib.hid (HQt.out wr hcW0)
          clear hcW0 hmb
          go_wp2_with fail
          refine HW1.out.mono ?_
          rintro e w7 ⟨rfl, rfl⟩
          go_wp2_with fail
          refine HQ1.out.mono ?_
          rintro e w7 ⟨rfl, rfl⟩
          by_cases hlow : weightZ c ps < 2 * totalZ c / 3 + 1
          · have hld : decide (weightZ c ps < 2 * totalZ c / 3 + 1) = true := decide_eq_true hlow
            have hoE := own_empty 3 wr (Nat.le_refl wr.heap.size)
            have hsrc : SrcAt (wr.alloc (.cells #[] 3)) ah ch H := by
              obtain ⟨_, _, e, _, hs, _⟩ := (Hohr.out.alloc (.cells #[] 3)).src
              cases e
              exact hs
            have stE := Hst.out.alloc (.cells #[] 3)
            have hzE : (wr.alloc (.cells #[] 3)).heap.size = wr.heap.size + 1 := by simp
            have rdE := Hrd.out.alloc (.cells #[] 3)
            have hgE := grownBy_trans Hg3r.out (World.grownBy_alloc wr (.cells #[] 3) (some R))
            have hsr := Hg3r.out.size
            have hHl2 : H.length ≤ 1099511627776 := by omega
            have hRB : R < Bv := by omega
            have HoE := Lib.hid hoE; clear hoE
            have Hsrc := Lib.hid hsrc; clear hsrc
            have HstE := Lib.hid stE; clear stE
            have HrdE := Lib.hid rdE; clear rdE
            have HgE := Lib.hid hgE; clear hgE
            clear k2 hlow Hop Hst Hrd HW1 HQ1
            go_wp2_with (at_builtin; refine wpList_appI TIg rfl (.tmp 78) (.tmp 79) rfl wr.heap.size (.slice (some ⟨wr.heap.size, 0, none⟩) 0 0) [] H _ _ rfl HoE.out rfl Hsrc.out (by simp; omega) (by rw [hzE]; omega) ?_; intro v7 w7 hown7 hg7; (rw [List.nil_append] at hown7); (generalize wr.alloc (.cells #[] 3) = w71 at *); (have st7 := HstE.out.kept hg7 (by simp [Value.ownBlock]; omega)); (have Hrd7 := Lib.hid (HrdE.out.kept hg7 (fun g e => by have := (HoE.out.lt g e).1; omega))); (have Hg7 := Lib.hid (grown_row HgE.out hg7 (fun g e => by have := (HoE.out.lt g e).1; omega))); (have Hown7 := Lib.hid hown7); (obtain ⟨a7, c7, rfl, _, _⟩ := Hown7.out.ints); (have k2 := st7.cell 2 (v := .slice ap ps.length cp) rfl); (have f2 := st7.frozen 2); (have u := st7.set 2 (.slice a7 H.length c7)); (have e0 := u.cell 0 (v := .int .i64 n) rfl); (have e1 := u.cell 1 (v := .int .i64 a) rfl); (have e2 := u.cell 2 (v := .slice a7 H.length c7) rfl); (have e3 := u.cell 3 (v := .int .i64 D) rfl); (have Hu := Lib.hid u); (clear u st7 hown7 hg7))
            have hne7 : (Value.slice a7 H.length c7).ownBlock ≠ some Bv := fun e => by have := (Hown7.out.lt _ e).1; omega
            have Hrd := Lib.hid (Hrd7.out.kept (grownBy_set w7 Bv 2 (.slice a7 H.length c7)) (fun g e => by cases e; exact hRB))
            have Hg3r := Lib.hid (grown_row Hg7.out (grownBy_set w7 Bv 2 (.slice a7 H.length c7)) (fun g e => by cases e; omega))
            have Hop := Lib.hid ((Hown7.out.mono (show w3.heap.size ≤ wr.heap.size from hsr)).set_other hne7 2 (.slice a7 H.length c7))
            have Hst : Hid (Str (w7.setCell ⟨Bv, 2, none⟩ (.slice a7 H.length c7)) Bv 56 #[.int .i64 n, .int .i64 a, .slice a7 H.length c7, .int .i64 D]) := Lib.hid (by simpa using Hu.out)
            clear k2 f2 Hu Hown7 Hrd7 Hg7 hne7
            generalize w7.setCell ⟨Bv, 2, none⟩ (.slice a7 H.length c7) = wz at *
            have hBz := Hst.out.lt
            have hgW := grownBy_trans Hgr3.out Hg3r.out
            have hcW := Hc.out _ hgW
            have HgW := Lib.hid hgW; clear hgW
            have st := Hst.out
            clear e0 e1 e2 e3
            have c0 := st.cell 0 (v := .int .i64 n) rfl
            have c1 := st.cell 1 (v := .int .i64 a) rfl
            have c2 := st.cell 2 (v := .slice a7 H.length c7) rfl
            have c3 := st.cell 3 (v := .int .i64 D) rfl
            have Hcall := Lib.hid (HVx.out n a D a7 c7 H _ hHl2 hcW Hop.out.at)
            clear st hcW
            cases hvx : vtxB c ⟨n, a, H, D⟩ with
            | false =>
              rw [hvx] at Hcall
              clear Hst Hop
              refine Hcall.out.mono ?_
              rintro e w8 ⟨rfl, hb8⟩
              have Hg38 := Lib.hid (grown_row (w := w3) Hg3r.out (below_grown hb8) (fun g e => by cases e))
              have Hown8 := Lib.hid (Hown3.out.same fun b h1 h2 => Hg38.out.block b h2 (fun e => by cases e; omega))
              have Hoh8 := Lib.hid (Hoh3.out.kept Hg38.out (.inr fun e => by have := (Hoh3.out.lt R e).1; omega))
              have Hrd8 := Lib.hid (Hrd.out.kept (below_grown hb8) (fun g e => by cases e))
              have hs8 := Hg38.out.size
              have HgW8 := Lib.hid (grownBy_trans Hgr3.out Hg38.out)
              clear hb8 c0 c1 c2 c3
              go_wp2
              go_roundw
              case rel => exact ⟨a + 1, g, q2, by omega, by go_num, Hown8.out.mono hs8, Hok.out, fun x hx => by have := Hord.out x hx; omega, by omega, Hrd8.out, by omega, HgW8.out, Hoh8.out, by omega⟩
              case measure => simp [intOf]; omega
            | true =>
              rw [hvx] at Hcall
              have Hok' := Lib.hid (gOk_push Hok.out hvx Hord.out)
              clear hvx
              refine Hcall.out.mono ?_
              rintro e w8 ⟨rfl, hb8⟩
              have Hg38 := Lib.hid (grown_row (w := w3) Hg3r.out (below_grown hb8) (fun g e => by cases e))
              have Hown8 := Lib.hid (Hown3.out.same fun b h1 h2 => Hg38.out.block b h2 (fun e => by cases e; omega))
              have Hoh8 := Lib.hid (Hoh3.out.kept Hg38.out (.inr fun e => by have := (Hoh3.out.lt R e).1; omega))
              have Hrd8 := Lib.hid (Hrd.out.kept (below_grown hb8) (fun g e => by cases e))
              have hs8 := Hg38.out.size
              have HgW8 := Lib.hid (grownBy_trans Hgr3.out Hg38.out)
              have st := (hb8.block _ Hst.out.lt).trans Hst.out
              have hop8 := Hop.out.below hb8
              have c0 := Str.cell st 0 (v := .int .i64 n) rfl
              have c1 := Str.cell st 1 (v := .int .i64 a) rfl
              have c2 := Str.cell st 2 (v := .slice a7 H.length c7) rfl
              have c3 := Str.cell st 3 (v := .int .i64 D) rfl
              obtain ⟨hfd, hap, hnew⟩ := vertex_new (B := w.heap.size) n a D hop8 hw3
              have Hfd := Lib.hid hfd; clear hfd
              have Hap := Lib.hid hap; clear hap
              have Hnew := Lib.hid hnew; clear hnew hop8 st hb8
              have hel : (g.map Vx.fd).length ≤ 1048576 := by rw [List.length_map]; omega
              have Hex := Lib.hid (show (g ++ [(⟨n, a, H, D⟩ : Vx)]).map Vx.fd = g.map Vx.fd ++ [[.i n, .i a, .l H, .i D]] by rw [List.map_append]; rfl)
              have hB8 : w.heap.size ≤ w8.heap.size := by omega
              generalize g.map Vx.fd = es at *
              go_wp2_with (at_builtin; refine wpList_push_own (Ei := 3) Tryd.underlying24 vertex_inf rfl (by decide) (by decide) rfl (.tmp 85) (.tmp 87) rfl w.heap.size _ es _ _ _ rfl rfl (by intro u hu; simp at hu; rcases hu with rfl | rfl | rfl | rfl <;> rfl) rfl rfl Hfd.out Hap.out w3.heap.size Hown8.out hs8 Hnew.out hel rfl hB8 ?_; intro v9 w9 hown9 hg9 hat9)
              go_roundw
              case rel => exact ⟨a + 1, g ++ [⟨n, a, H, D⟩], q2, by omega, by go_num, by rw [Hex.out]; exact hown9, Hok'.out, fun x hx => by
                rcases List.mem_append.1 hx with hx | hx
                · have := Hord.out x hx; omega
                · simp at hx; subst hx; exact .inr ⟨rfl, (show (a : Int) < ((a + 1 : Nat) : Int) by omega)⟩, by have := hgl; rw [List.length_append]; simp only [List.length_singleton]; omega, Hrd8.out.kept hg9 (fun g e => by have := (Hown8.out.lt g e).1; omega), by omega, grown_row HgW8.out hg9 (fun g e => (Hown8.out.lt g e).1), Hoh8.out.kept hg9 (Hown8.out.apartI Hoh8.out (by decide)), by have := hg9.size; omega⟩
              case measure => simp [intOf]; omega
          · have hld : decide (weightZ c ps < 2 * totalZ c / 3 + 1) = false := decide_eq_false hlow
            clear k2
            have hgW := grownBy_trans Hgr3.out Hg3r.out
            have hcW := Hc.out _ hgW
            have HgW := Lib.hid hgW; clear hgW
            have st := Hst.out
            have c0 := st.cell 0 (v := .int .i64 n) rfl
            have c1 := st.cell 1 (v := .int .i64 a) rfl
            have c2 := st.cell 2 (v := .slice ap ps.length cp) rfl
            have c3 := st.cell 3 (v := .int .i64 D) rfl
            have Hcall := Lib.hid (HVx.out n a D ap cp ps _ hpl hcW Hop.out.at)
            clear st hcW
            cases hvx : vtxB c ⟨n, a, ps, D⟩ with
            | false =>
              rw [hvx] at Hcall
              clear Hst Hop Hne
              go_wp2_with fail
              refine Hcall.out.mono ?_
              rintro e w8 ⟨rfl, hb8⟩
              have Hg38 := Lib.hid (grown_row (w := w3) Hg3r.out (below_grown hb8) (fun g e => by cases e))
              have Hown8 := Lib.hid (Hown3.out.same fun b h1 h2 => Hg38.out.block b h2 (fun e => by cases e; omega))
              have Hoh8 := Lib.hid (Hoh3.out.kept Hg38.out (.inr fun e => by have := (Hoh3.out.lt R e).1; omega))
              have Hrd8 := Lib.hid (Hrd.out.kept (below_grown hb8) (fun g e => by cases e))
              have hs8 := Hg38.out.size
              have HgW8 := Lib.hid (grownBy_trans Hgr3.out Hg38.out)
              clear hb8 c0 c1 c2 c3
              go_wp2
              go_roundw
              case rel => exact ⟨a + 1, g, q2, by omega, by go_num, Hown8.out.mono hs8, Hok.out, fun x hx => by have := Hord.out x hx; omega, by omega, Hrd8.out, by omega, HgW8.out, Hoh8.out, by omega⟩
              case measure => simp [intOf]; omega
            | true =>
              rw [hvx] at Hcall
              have Hok' := Lib.hid (gOk_push Hok.out hvx Hord.out)
              clear hvx
              go_wp2_with fail
              refine Hcall.out.mono ?_
              rintro e w8 ⟨rfl, hb8⟩
              have Hg38 := Lib.hid (grown_row (w := w3) Hg3r.out (below_grown hb8) (fun g e => by cases e))
              have Hown8 := Lib.hid (Hown3.out.same fun b h1 h2 => Hg38.out.block b h2 (fun e => by cases e; omega))
              have Hoh8 := Lib.hid (Hoh3.out.kept Hg38.out (.inr fun e => by have := (Hoh3.out.lt R e).1; omega))
              have Hrd8 := Lib.hid (Hrd.out.kept (below_grown hb8) (fun g e => by cases e))
              have hs8 := Hg38.out.size
              have HgW8 := Lib.hid (grownBy_trans Hgr3.out Hg38.out)
              have st := (hb8.block _ Hst.out.lt).trans Hst.out
              have hop8 := Hop.out.below hb8
              have c0 := Str.cell st 0 (v := .int .i64 n) rfl
              have c1 := Str.cell st 1 (v := .int .i64 a) rfl
              have c2 := Str.cell st 2 (v := .slice ap ps.length cp) rfl
              have c3 := Str.cell st 3 (v := .int .i64 D) rfl
              obtain ⟨hfd, hap, hnew⟩ := vertex_new (B := w.heap.size) n a D hop8 hw3
              have Hfd := Lib.hid hfd; clear hfd
              have Hap := Lib.hid hap; clear hap
              have Hnew := Lib.hid hnew; clear hnew hop8 st hb8
              have hel : (g.map Vx.fd).length ≤ 1048576 := by rw [List.length_map]; omega
              have Hex := Lib.hid (show (g ++ [(⟨n, a, ps, D⟩ : Vx)]).map Vx.fd = g.map Vx.fd ++ [[.i n, .i a, .l ps, .i D]] by rw [List.map_append]; rfl)
              have hB8 : w.heap.size ≤ w8.heap.size := by omega
              generalize g.map Vx.fd = es at *
              go_wp2_with (at_builtin; refine wpList_push_own (Ei := 3) Tryd.underlying24 vertex_inf rfl (by decide) (by decide) rfl (.tmp 85) (.tmp 87) rfl w.heap.size _ es _ _ _ rfl rfl (by intro u hu; simp at hu; rcases hu with rfl | rfl | rfl | rfl <;> rfl) rfl rfl Hfd.out Hap.out w3.heap.size Hown8.out hs8 Hnew.out hel rfl hB8 ?_; intro v9 w9 hown9 hg9 hat9)
              go_roundw
              case rel => exact ⟨a + 1, g ++ [⟨n, a, ps, D⟩], q2, by omega, by go_num, by rw [Hex.out]; exact hown9, Hok'.out, fun x hx => by
                rcases List.mem_append.1 hx with hx | hx
                · have := Hord.out x hx; omega
                · simp at hx; subst hx; exact .inr ⟨rfl, (show (a : Int) < ((a + 1 : Nat) : Int) by omega)⟩, by have := hgl; rw [List.length_append]; simp only [List.length_singleton]; omega, Hrd8.out.kept hg9 (fun g e => by have := (Hown8.out.lt g e).1; omega), by omega, grown_row HgW8.out hg9 (fun g e => (Hown8.out.lt g e).1), Hoh8.out.kept hg9 (Hown8.out.apartI Hoh8.out (by decide)), by have := hg9.size; omega⟩
              case measure => simp [intOf]; omega

end Go.Proofs.YtjekgjlnaochiabDoor

/- A list that reads as rows is appended to a list that the call builds; a row's cell of such a list is written over; general steps, nothing here speaks of the program. -/
namespace Go.Proofs.YtjekgjlnaochiabDoor
open Go.RowKit

theorem Rd.one {w : World} {d : Dt} {c : Value} {fp : List Nat} (h : Rd w d c fp) : c.oneCell' = true := by
  cases h <;> rfl
/-- The cells of a list of rows, one after the other, and how they read. -/
theorem Rd.rows {w : World} {es : List (List Dt)} {u : Value} {fp : List Nat} (h : Rd w (.l es) u fp) {sz : Nat} (hsz : ∀ e ∈ es, e.length = sz) (hpos : 0 < sz) :
    (u = .slice none 0 0 ∧ es = []) ∨ ∃ (ad : Addr) (c : Nat) (vals : List Value), u = .slice (some ad) es.length c ∧ vals.length = es.length * sz ∧ (∀ j x, vals[j]? = some x → w.cell? (ad.add j) = some x) ∧ (∀ x ∈ vals, x.oneCell' = true) ∧
      ∀ k (hk : k < es.length) j (hj : j < (es[k]).length), ∃ c fp', (vals.drop (k * sz))[j]? = some c ∧ Rd w ((es[k])[j]) c fp' ∧ ∀ r ∈ fp', r ∈ fp := by
  generalize hd : Dt.l es = d at h
  cases h with
  | i n => cases hd
  | b x => cases hd
  | s t => cases hd
  | nil a cap hn =>
    cases hd
    cases a with
    | none => rw [hn rfl]; exact .inl ⟨rfl, rfl⟩
    | some ad => exact .inr ⟨ad, cap, [], rfl, by simp, by simp, by simp, fun k hk => by simp at hk⟩
  | l sz' es' g off cap V F hne hsz' hcap hgl hc hrd =>
    cases hd
    have hss : sz' = sz := by
      have h0 := List.getElem_mem hne
      rw [← hsz' _ h0, hsz _ h0]
    subst hss
    have hlt : ∀ p, p < es.length * sz' → p / sz' < es.length ∧ p % sz' < sz' := fun p hp => ⟨by rw [Nat.div_lt_iff_lt_mul hpos]; exact hp, Nat.mod_lt _ hpos⟩
    have hget : ∀ p, p < es.length * sz' → ((List.range (es.length * sz')).map fun p => V (p / sz') (p % sz'))[p]? = some (V (p / sz') (p % sz')) := by
      intro p hp
      simp [List.getElem?_map, List.getElem?_range hp]
    refine .inr ⟨⟨g, off, none⟩, cap, (List.range (es.length * sz')).map fun p => V (p / sz') (p % sz'), rfl, by simp, fun j x hx => ?_, fun x hx => ?_, fun k hk j hj => ?_⟩
    · have hj : j < es.length * sz' := by
        obtain ⟨h, _⟩ := List.getElem?_eq_some_iff.1 hx
        simpa using h
      rw [hget j hj] at hx
      cases hx
      obtain ⟨h1, h2⟩ := hlt j hj
      have := hc (j / sz') (j % sz') h1 h2
      rw [addr_add', ← this]
      congr 3
      rw [Nat.mul_comm]; exact (Nat.div_add_mod _ _).symm
    · obtain ⟨p, hp, rfl⟩ := List.mem_map.1 hx
      obtain ⟨h1, h2⟩ := hlt p (List.mem_range.1 hp)
      exact (hrd _ _ h1 (by rw [hsz _ (List.getElem_mem h1)]; exact h2)).one
    · have hj' : j < sz' := by rw [← hsz _ (List.getElem_mem hk)]; exact hj
      have hp : k * sz' + j < es.length * sz' := by
        have := Nat.mul_le_mul_right sz' (show k + 1 ≤ es.length by omega)
        rw [Nat.add_mul] at this; omega
      have e1 : (k * sz' + j) / sz' = k := by rw [Nat.add_comm, Nat.add_mul_div_right _ _ hpos, Nat.div_eq_of_lt hj', Nat.zero_add]
      have e2 : (k * sz' + j) % sz' = j := by rw [Nat.add_comm, Nat.add_mul_mod_self_right, Nat.mod_eq_of_lt hj']
      refine ⟨V k j, F k j, ?_, hrd k j hk hj, fun r hr => List.mem_cons_of_mem _ (List.mem_flatMap.2 ⟨k, List.mem_range.2 hk, List.mem_flatMap.2 ⟨j, List.mem_range.2 hj', hr⟩⟩)⟩
      rw [List.getElem?_drop, hget _ hp, e1, e2]
/-- 'append(s, t...)' at an operation: s is being built, t reads as rows in memory that is not the outer row's. -/
theorem op_app_rows {P : Program} {T E : TypeId} {z0 : Value} {sz bytes : Nat} (hsl : P.underlying T = some (.slice E)) (hinf : (P.info? E).map (fun i => (i.zero, i.size, i.bytes)) = some (some z0, sz, bytes)) (hz0 : z0.cells.size = sz) (hpos : 0 < sz) (hby : bytes ≤ 1000)
    (w : World) {o : Oper} {a : Act} {K : Act → World → Prop} {Q : Exit → Act → World → Prop} (s x : Operand) (ho : o.op = .call { callee := .builtin .append, args := #[s, x], argTypes := #[T, T] }) (B : Nat) (v u : Value) (es es2 : List (List Dt)) (fp2 : List Nat)
    (hs : a.eval s = v) (hb : Bld E sz w B v es) (hx : a.eval x = u) (hr : Rd w (.l es2) u fp2) (hsz2 : ∀ e ∈ es2, e.length = sz) (hfp : ∀ r ∈ fp2, B ≤ r ∧ v.ownBlock ≠ some r) (hlen : es.length + es2.length ≤ 1048576) (hB : B ≤ w.heap.size)
    (h : ∀ v' w', Bld E sz w' B v' (es ++ es2) → w.grownBy w' v.ownBlock → (∀ g, v'.ownBlock = some g → v.ownBlock = some g ∨ w.heap.size ≤ g) → K (a.put o.dst v') w') : Oper.wp P o a w K Q := by
  obtain ⟨i, hi, hz, hsz, hbb⟩ := info_parts hinf
  obtain ⟨cs, hown, hc⟩ := hb.row
  have hcl : cs.length = es.length * sz := hown.1
  have run : ∃ v' w' vals, (Builtin.append_ #[T, T] o.type #[v, u]).run P w = .ok v' w' ∧ w'.ownsRow B E sz v' (es.length + es2.length) (cs ++ vals) ∧ w.grownBy w' v.ownBlock ∧ (v'.ownBlock = v.ownBlock ∨ v'.ownBlock = some w.heap.size) ∧
      ∀ k (hk : k < es2.length) j (hj : j < (es2[k]).length), ∃ c fp', (vals.drop (k * sz))[j]? = some c ∧ Rd w ((es2[k])[j]) c fp' ∧ ∀ r ∈ fp', r ∈ fp2 := by
    rcases hr.rows hsz2 hpos with ⟨rfl, rfl⟩ | ⟨ad, c, vals, rfl, hvl, hcells, hone, hrd⟩
    · exact ⟨v, w, [], run_append_owned_none (P := P) (w := w) B T o.type E i sz hsl hi v es.length _ hown, by simpa using hown, ⟨rfl, rfl, rfl, Nat.le_refl _, fun _ _ _ => rfl⟩, .inl rfl, fun k hk => by simp at hk⟩
    · obtain ⟨v', w', h1, h2, h3, _, h4⟩ := run_append_own_at (P := P) w B T o.type E i z0 sz bytes hsl hi hz hsz hbb hz0 hpos v es.length _ hown ad es2.length c vals hvl hcells hone (by unfold maxLen; omega) (by
        have := Nat.mul_le_mul hlen hby; omega) hB
      exact ⟨v', w', vals, h1, h2, h3, h4, hrd⟩
  obtain ⟨v', w', vals, hrun, h1, hg, h4, hrd⟩ := run
  unfold Oper.wp execOp
  simp only [ho, resolve, invoke, builtin, Sem.run_bind, Sem.run_pure, Result.andThen_ok, List.map_toArray, List.map_cons, List.map_nil, hs, hx, hrun]
  have hloc : ∀ g, v'.ownBlock = some g → v.ownBlock = some g ∨ w.heap.size ≤ g := fun g e => by
    rcases h4 with h4 | h4
    · exact .inl (by rw [← h4]; exact e)
    · rw [h4] at e; cases e; exact .inr (Nat.le_refl _)
  refine h v' w' ⟨?_, cs ++ vals, by rw [List.length_append]; exact h1, fun k hk => ?_⟩ hg hloc
  · intro d hd
    rcases List.mem_append.1 hd with hd | hd
    · exact hb.szs d hd
    · exact hsz2 d hd
  · by_cases hke : k < es.length
    · have hkk : (es ++ es2)[k] = es[k] := List.getElem_append_left hke
      rw [hkk]
      have hcr := (hc k hke).step (blk' := v'.ownBlock) hg (fun r e => .inr e) hloc
      intro j hj
      obtain ⟨c, fp, hcc, hrest⟩ := hcr j hj
      refine ⟨c, fp, ?_, hrest⟩
      rw [List.getElem?_drop] at hcc ⊢
      rw [List.getElem?_append_left (by obtain ⟨h, _⟩ := List.getElem?_eq_some_iff.1 hcc; exact h)]
      exact hcc
    · have hk2 : k - es.length < es2.length := by rw [List.length_append] at hk; omega
      have hkk : (es ++ es2)[k] = es2[k - es.length] := List.getElem_append_right (by omega)
      rw [hkk]
      intro j hj
      obtain ⟨c, fp', hcc, hr', hin⟩ := hrd (k - es.length) hk2 j hj
      refine ⟨c, fp', ?_, hr'.grown hg (fun r e hm => (hfp r (hin r hm)).2 e), fun r hm => ⟨(hfp r (hin r hm)).1, fun e => ?_⟩⟩
      · rw [List.getElem?_drop] at hcc ⊢
        have hge : cs.length ≤ k * sz + j := by
          rw [hcl]
          have := Nat.mul_le_mul_right sz (show es.length ≤ k by omega)
          omega
        rw [List.getElem?_append_right hge, hcl]
        have hq : k * sz + j - es.length * sz = (k - es.length) * sz + j := by
          rw [Nat.sub_mul]
          have := Nat.mul_le_mul_right sz (show es.length ≤ k by omega)
          omega
        rw [hq]; exact hcc
      · rcases hloc r e with e' | e'
        · exact (hfp r (hin r hm)).2 e'
        · have := hr'.lt r hm; omega

end Go.Proofs.YtjekgjlnaochiabDoor

/- The draw of a graph that is seldom invalid: what is drawn reads as a graph in new memory; by a walk of its text; condition: at most 10^4 picks before. -/
namespace Go.Proofs.YtjekgjlnaochiabDoor
open Go.RowKit

theorem members_geG {n : Nat} {ms : List Int} (h : membersB n ms = true) : ∀ k (hk : k < ms.length), (k : Int) ≤ ms[k] := by
  intro k
  induction k with
  | zero => intro hk; have := (okAt_bd hk (allB_upto h 0 hk)).1; omega
  | succ k ih =>
    intro hk
    have h1 := ih (by omega)
    have := (okAt_bd hk (allB_upto h (k + 1) hk)).2.2
    rcases this with h0 | h0
    · omega
    · rw [Nat.add_sub_cancel, getD_get (by omega)] at h0; omega
theorem members_lenG {n : Nat} {ms : List Int} (h : membersB n ms = true) : ms.length ≤ n := by
  rcases Nat.eq_zero_or_pos ms.length with h0 | h0
  · omega
  · have h1 := members_geG h (ms.length - 1) (by omega)
    have h2 := (membersB_at h (ms.length - 1) (by omega)).2
    omega
theorem gOk_ps {c : List Int} {g : List Vx} (h : GOk c g) : ∀ x ∈ g, x.ps.length ≤ c.length := fun x hx => by
  have := h.1 x hx
  unfold vtxB at this
  simp only [Bool.and_eq_true] at this
  exact members_lenG this.2.2.1
theorem ownR_gr {E Ei : TypeId} {sz : Nat} {w : World} {B hi : Nat} {v : Value} {g : List Vx} (h : OwnR E Ei sz w B hi v (g.map Vx.fd)) : ∃ fp, Gr w g v fp ∧ ∀ r ∈ fp, B ≤ r := by
  obtain ⟨fp, hr, hf⟩ := h.bld.rd
  exact ⟨fp, hr, hf⟩
theorem set_mem {g : List Vx} {k : Nat} {x : Vx} {m : Nat} (h : ∀ y ∈ g, y.ps.length ≤ m) (hx : x.ps.length ≤ m) : ∀ y ∈ g.set k x, y.ps.length ≤ m := fun y hy => by
  rcases List.mem_or_eq_of_mem_set hy with hy | rfl
  · exact h y hy
  · exact hx
section
variable {E Ei : TypeId} {w : World} {B hi gb n cap : Nat} {g : List Vx} {k : Nat}
theorem vx_cells (h : OwnR E Ei 4 w B hi (.slice (some ⟨gb, 0, none⟩) n cap) (g.map Vx.fd)) (hk : k < g.length) :
    w.cell? ⟨gb, k * 4, none⟩ = some (.int .i64 g[k].r) ∧ w.cell? ⟨gb, k * 4 + 1, none⟩ = some (.int .i64 g[k].a) ∧ (∃ pa pc, w.cell? ⟨gb, k * 4 + 2, none⟩ = some (.slice pa g[k].ps.length pc)) ∧ w.cell? ⟨gb, k * 4 + 3, none⟩ = some (.int .i64 g[k].d) ∧
    w.frozen? ⟨gb, k * 4, none⟩ = false ∧ w.frozen? ⟨gb, k * 4 + 1, none⟩ = false ∧ w.frozen? ⟨gb, k * 4 + 2, none⟩ = false ∧ w.frozen? ⟨gb, k * 4 + 3, none⟩ = false := by
  have hk' : k < (g.map Vx.fd).length := by simpa using hk
  have he : (g.map Vx.fd)[k] = g[k].fd := by simp
  have h0 := h.fieldI (k := k) (j := 0) hk' (by rw [he]; simp [Vx.fd]) (x := g[k].r) (by simp only [he]; rfl)
  have h1 := h.fieldI (k := k) (j := 1) hk' (by rw [he]; simp [Vx.fd]) (x := g[k].a) (by simp only [he]; rfl)
  obtain ⟨pa, pc, h2, _, f2, _⟩ := h.fieldL (k := k) (j := 2) hk' (by rw [he]; simp [Vx.fd]) (xs := g[k].ps) (by simp only [he]; rfl)
  have h3 := h.fieldI (k := k) (j := 3) hk' (by rw [he]; simp [Vx.fd]) (x := g[k].d) (by simp only [he]; rfl)
  exact ⟨h0.1, h1.1, ⟨pa, pc, h2⟩, h3.1, h0.2, h1.2, f2, h3.2⟩
theorem vx_setI (h : OwnR E Ei 4 w B hi (.slice (some ⟨gb, 0, none⟩) n cap) (g.map Vx.fd)) (hn : n = g.length) (hk : k < g.length) (j : Nat) (hj : j < 4) (z : Int) (x : Vx) (hx : (g[k].fd).set j (.i z) = x.fd) :
    OwnR E Ei 4 (w.setCell ⟨gb, k * 4 + j, none⟩ (.int .i64 z)) B hi (.slice (some ⟨gb, 0, none⟩) n cap) ((g.set k x).map Vx.fd) := by
  have := h.setI (by simpa using hn) (k := k) (j := j) (by simpa using hk) hj z
  rwa [List.getElem_map, hx, ← List.map_set] at this
theorem vx_setP {hi' : Nat} {u : Value} {ps : List Int} (h : OwnR E Ei 4 w B hi (.slice (some ⟨gb, 0, none⟩) n cap) (g.map Vx.fd)) (hn : n = g.length) (hk : k < g.length) (ho : Own Ei w B u ps) (hhi : hi ≤ hi') (hu : ∀ b, u.ownBlock = some b → hi ≤ b ∧ b < hi') :
    OwnR E Ei 4 (w.setCell ⟨gb, k * 4 + 2, none⟩ u) B hi' (.slice (some ⟨gb, 0, none⟩) n cap) ((g.set k ⟨g[k].r, g[k].a, ps, g[k].d⟩).map Vx.fd) := by
  have := h.setF (by simpa using hn) (k := k) (j := 2) (by simpa using hk) (by omega) (f := .l ps) (show FdOk Ei w B u (.l ps) from ho) hhi hu
  rwa [List.getElem_map, show (g[k].fd).set 2 (.l ps) = Vx.fd ⟨g[k].r, g[k].a, ps, g[k].d⟩ from rfl, ← List.map_set] at this
end

set_option maxRecDepth 8000 in
set_option maxHeartbeats 4000000 in
theorem drawSpoilt (R p : Nat) (rounds : Int) (w : World) (hp : p ≤ 10000) (hn0 : 0 ≤ rounds) (hn1 : rounds ≤ 40) (hr : Rdr w R p) (hR : R < w.heap.size) :
    Calls Tryd.prog 56 #[.pointer (some ⟨R, 0, none⟩), .int .i64 rounds] w fun e w' => ∃ vc c vg g fp p', e = .returned (.tuple #[vc, vg]) ∧ Own 3 w' w.heap.size vc c ∧ c.length ≤ 11 ∧ Gr w' g vg fp ∧ (∀ r ∈ fp, w.heap.size ≤ r) ∧ g.length ≤ 281 ∧ (∀ x ∈ g, x.ps.length ≤ 100) ∧ Rdr w' R p' ∧ p' ≤ p + 90000 ∧ w.grownBy w' (some R) := by
  go_enter Tryd.func56, Tryd.ntmps56
  go_wp2_with fail
  refine (drawGoodV R p _ (by omega) hr hR).mono ?_
  rintro e w1 ⟨vc, c, p1, rfl, hoc, hv, hr1, hp1, hg1⟩
  obtain ⟨ac, cc, rfl, hic, _⟩ := hoc.ints
  obtain ⟨hc1, hc7⟩ := validB_len hv
  have hs1 := hg1.size
  have hR1 : R < w1.heap.size := by omega
  have Hoc := Lib.hid hoc; clear hoc
  have Hcb := Lib.hid (fun b e => (Hoc.out.lt b e).2)
  have Hdg := Lib.hid (drawGraph R p1 rounds w1 ac cc c (by omega) hn0 hn1 hv hr1 hR1 (fun W hW => (Hoc.out.kept hW (.inr fun e => by have := (Hoc.out.lt R e).1; omega)).at))
  have Hg1 := Lib.hid hg1; clear hg1 hr1 hic
  go_wp2_with fail
  refine Hdg.out.mono ?_
  rintro e w2 ⟨vg, g, p2, rfl, hog, hok, hgl, hr2, hp2, hg2⟩
  have hs2 := hg2.size
  have Hoc2 := Lib.hid (Hoc.out.kept hg2 (.inr fun e => by have := (Hoc.out.lt R e).1; omega))
  have Hr2 := Lib.hid hr2; clear hr2
  have Hg2 := Lib.hid (grownBy_trans Hg1.out hg2); clear hg2
  have Hog2 := Lib.hid hog; clear hog
  have hps := gOk_ps hok
  have Hps := Lib.hid (show ∀ x ∈ g, x.ps.length ≤ 100 from fun x hx => Nat.le_trans (hps x hx) (by omega)); clear hps hok hv Hdg Hoc
  by_cases hg0 : g.length = 0
  · have hgn : g = [] := List.eq_nil_of_length_eq_zero hg0
    subst hgn
    obtain ⟨ag, cg, rfl, _⟩ := Hog2.out.slice
    go_wp2
    go_ret2
    obtain ⟨fp, h1, h2⟩ := ownR_gr Hog2.out
    exact ⟨_, c, _, [], fp, p2, rfl, Hoc2.out, by omega, h1, fun r hr => Nat.le_trans hs1 (h2 r hr), by simp, by simp, Hr2.out, by omega, Hg2.out⟩
  obtain ⟨gb, cg, rfl, hBg, hgh, hgs⟩ := Hog2.out.head (by rw [List.length_map]; omega)
  rw [List.length_map] at *
  have hgne : ((g.length : Int) == 0) = false := by rw [beq_eq_false_iff_ne]; omega
  go_wp2_with fail
  refine (pick_any R (g.length : Int) p2 _ (by omega) Hr2.out (by omega)).mono ?_
  rintro e w3 ⟨k, rfl, hk0, hk1, hr3, hg3⟩
  obtain ⟨k, rfl⟩ := Int.eq_ofNat_of_zero_le hk0
  have hk : k < g.length := by omega
  have hs3 := hg3.size
  have Hoc3 := Lib.hid (Hoc2.out.kept hg3 (.inr fun e => by have := (Hoc2.out.lt R e).1; omega))
  have Hog3 := Lib.hid (Hog2.out.same fun b h1 h2 => hg3.block b (by omega) (fun e => by cases e; omega))
  have Hr3 := Lib.hid hr3; clear hr3
  have Hg3 := Lib.hid (grownBy_trans Hg2.out hg3); clear hg3
  go_wp2_with fail
  refine (pick_any R 20 (p2 + 1) _ (by omega) Hr3.out (by omega)).mono ?_
  rintro e w4 ⟨s, rfl, hs0, hs20, hr4, hg4⟩
  have hs4 := hg4.size
  have Hoc4 := Lib.hid (Hoc3.out.kept hg4 (.inr fun e => by have := (Hoc3.out.lt R e).1; omega))
  have Hog4 := Lib.hid (Hog3.out.same fun b h1 h2 => hg4.block b (by omega) (fun e => by cases e; omega))
  have Hr4 := Lib.hid hr4; clear hr4
  have Hg4 := Lib.hid (grownBy_trans Hg3.out hg4); clear hg4
  clear Hoc2 Hoc3 Hog2 Hog3 Hr2 Hr3 Hg1 Hg2 Hg3 hk0 hk1 hg0 hgne hs20 hs0
  by_cases h0 : s = 0
  · subst h0
    go_wp2_with fail
    refine (drawDigest R (p2 + 1 + 1) _ (by omega) Hr4.out).mono ?_
    rintro e w5 ⟨d, p5, rfl, hd0, hd1, hr5, hp5, hg5⟩
    have hs5 := hg5.size
    have Hoc5 := Lib.hid (Hoc4.out.kept hg5 (.inr fun e => by have := (Hoc4.out.lt R e).1; omega))
    have hog5 := Hog4.out.same fun b h1 h2 => hg5.block b (by omega) (fun e => by cases e; omega)
    obtain ⟨q0, q1, ⟨pa, pc, q2⟩, q3, f0, f1, f2, f3⟩ := vx_cells hog5 hk
    have Hog5 := Lib.hid (show OwnR 56 3 4 (w5.setCell ⟨gb, k * 4 + 3, none⟩ (.int .i64 (d))) _ _ _ _ from vx_setI hog5 rfl hk 3 (by omega) (d) ⟨g[k].r, g[k].a, g[k].ps, d⟩ rfl); clear hog5
    have Hr5 := Lib.hid hr5; clear hr5
    have Hg5 := Lib.hid (grownBy_trans Hg4.out hg5); clear hg5
    have hpk := Hps.out _ (List.getElem_mem hk)
    go_wp2
    go_ret2
    obtain ⟨fp, h1, h2⟩ := ownR_gr Hog5.out
    exact ⟨_, c, _, _, fp, p5, rfl, Hoc5.out.set_other (fun e => by have := Hcb.out gb e; omega) _ _, by omega, h1, fun r hr => Nat.le_trans hs1 (h2 r hr), by rw [List.length_set]; omega, set_mem Hps.out hpk, Hr5.out.kept (grownBy_set w5 gb _ _) (fun g e => by cases e; omega), by omega, grown_row Hg5.out (grownBy_set w5 gb _ _) (fun g e => by cases e; omega)⟩
  have e0 : (s == 0) = false := by rw [beq_eq_false_iff_ne]; exact h0
  clear h0
  by_cases h1 : s = 1
  · subst h1
    go_wp2_with fail
    refine (pick_any R 33 (p2 + 1 + 1) _ (by omega) Hr4.out (by omega)).mono ?_
    rintro e w5 ⟨d, rfl, hd0, hd1, hr5, hg5⟩
    have hs5 := hg5.size
    have Hoc5 := Lib.hid (Hoc4.out.kept hg5 (.inr fun e => by have := (Hoc4.out.lt R e).1; omega))
    have hog5 := Hog4.out.same fun b h1 h2 => hg5.block b (by omega) (fun e => by cases e; omega)
    obtain ⟨q0, q1, ⟨pa, pc, q2⟩, q3, f0, f1, f2, f3⟩ := vx_cells hog5 hk
    have Hog5 := Lib.hid (show OwnR 56 3 4 (w5.setCell ⟨gb, k * 4, none⟩ (.int .i64 (d - 1))) _ _ _ _ from by have := vx_setI hog5 rfl hk 0 (by omega) (d - 1) ⟨d - 1, g[k].a, g[k].ps, g[k].d⟩ rfl; rwa [Nat.add_zero] at this); clear hog5
    have Hr5 := Lib.hid hr5; clear hr5
    have Hg5 := Lib.hid (grownBy_trans Hg4.out hg5); clear hg5
    have hpk := Hps.out _ (List.getElem_mem hk)
    have hwd : IntKind.i64.wrap (d - 1) = d - 1 := IntWalk.i64_in _ (by omega)
    go_wp2
    go_ret2
    obtain ⟨fp, h1, h2⟩ := ownR_gr Hog5.out
    exact ⟨_, c, _, _, fp, p2 + 1 + 1 + 1, rfl, Hoc5.out.set_other (fun e => by have := Hcb.out gb e; omega) _ _, by omega, h1, fun r hr => Nat.le_trans hs1 (h2 r hr), by rw [List.length_set]; omega, set_mem Hps.out hpk, Hr5.out.kept (grownBy_set w5 gb _ _) (fun g e => by cases e; omega), by omega, grown_row Hg5.out (grownBy_set w5 gb _ _) (fun g e => by cases e; omega)⟩
  have e1 : (s == 1) = false := by rw [beq_eq_false_iff_ne]; exact h1
  clear h1
  by_cases h2 : s = 2
  · subst h2
    go_wp2_with fail
    refine (pick_any R 9 (p2 + 1 + 1) _ (by omega) Hr4.out (by omega)).mono ?_
    rintro e w5 ⟨d, rfl, hd0, hd1, hr5, hg5⟩
    have hs5 := hg5.size
    have Hoc5 := Lib.hid (Hoc4.out.kept hg5 (.inr fun e => by have := (Hoc4.out.lt R e).1; omega))
    have hog5 := Hog4.out.same fun b h1 h2 => hg5.block b (by omega) (fun e => by cases e; omega)
    obtain ⟨q0, q1, ⟨pa, pc, q2⟩, q3, f0, f1, f2, f3⟩ := vx_cells hog5 hk
    have Hog5 := Lib.hid (show OwnR 56 3 4 (w5.setCell ⟨gb, k * 4 + 1, none⟩ (.int .i64 (d - 1))) _ _ _ _ from vx_setI hog5 rfl hk 1 (by omega) (d - 1) ⟨g[k].r, d - 1, g[k].ps, g[k].d⟩ rfl); clear hog5
    have Hr5 := Lib.hid hr5; clear hr5
    have Hg5 := Lib.hid (grownBy_trans Hg4.out hg5); clear hg5
    have hpk := Hps.out _ (List.getElem_mem hk)
    have hwd : IntKind.i64.wrap (d - 1) = d - 1 := IntWalk.i64_in _ (by omega)
    go_wp2
    go_ret2
    obtain ⟨fp, h1, h2⟩ := ownR_gr Hog5.out
    exact ⟨_, c, _, _, fp, p2 + 1 + 1 + 1, rfl, Hoc5.out.set_other (fun e => by have := Hcb.out gb e; omega) _ _, by omega, h1, fun r hr => Nat.le_trans hs1 (h2 r hr), by rw [List.length_set]; omega, set_mem Hps.out hpk, Hr5.out.kept (grownBy_set w5 gb _ _) (fun g e => by cases e; omega), by omega, grown_row Hg5.out (grownBy_set w5 gb _ _) (fun g e => by cases e; omega)⟩
  have e2 : (s == 2) = false := by rw [beq_eq_false_iff_ne]; exact h2
  clear h2
  by_cases h3 : s = 3
  · subst h3
    go_wp2_with fail
    refine (drawMembers R (p2 + 1 + 1) c.length _ (by omega) (by omega) Hr4.out (by omega)).mono ?_
    rintro e w5 ⟨u, ps, p5, rfl, hu, hul, hr5, hp5, hg5⟩
    have hs5 := hg5.size
    have Hoc5 := Lib.hid (Hoc4.out.kept hg5 (.inr fun e => by have := (Hoc4.out.lt R e).1; omega))
    have hog5 := Hog4.out.same fun b h1 h2 => hg5.block b (by omega) (fun e => by cases e; omega)
    obtain ⟨q0, q1, ⟨pa, pc, q2⟩, q3, f0, f1, f2, f3⟩ := vx_cells hog5 hk
    have hul2 := hu.lt
    obtain ⟨au, cu, rfl, _, _⟩ := hu.ints
    have Hog5 := Lib.hid (vx_setP (hi' := w5.heap.size) hog5 rfl hk (hu.mono (show w1.heap.size ≤ w4.heap.size by omega)) (by omega) (fun b e => by have := hul2 b e; omega)); clear hog5 hu hul2
    have Hr5 := Lib.hid hr5; clear hr5
    have Hg5 := Lib.hid (grownBy_trans Hg4.out hg5); clear hg5
    go_wp2
    go_ret2
    obtain ⟨fp, h1, h2⟩ := ownR_gr Hog5.out
    exact ⟨_, c, _, _, fp, p5, rfl, Hoc5.out.set_other (fun e => by have := Hcb.out gb e; omega) _ _, by omega, h1, fun r hr => Nat.le_trans hs1 (h2 r hr), by rw [List.length_set]; omega, set_mem Hps.out (by simp only; omega), Hr5.out.kept (grownBy_set w5 gb _ _) (fun g e => by cases e; omega), by omega, grown_row Hg5.out (grownBy_set w5 gb _ _) (fun g e => by cases e; omega)⟩
  have e3 : (s == 3) = false := by rw [beq_eq_false_iff_ne]; exact h3
  clear h3
  by_cases h4 : s = 4
  · subst h4
    obtain ⟨fp, hgr, hfp⟩ := ownR_gr Hog4.out
    have hfl := hgr.lt
    obtain ⟨_, _, e, _, _, h9, hcg, h8⟩ := Rd.at hgr (sz := 4) (by simp; omega) (by intro e he; obtain ⟨e', he', rfl⟩ := List.mem_map.1 he; obtain ⟨y, _, rfl⟩ := List.mem_map.1 he'; rfl)
    clear e h9 h8
    have hsz4 : ∀ e ∈ (g.map Vx.fd).map (fun e => e.map Fd.dt), e.length = 4 := by intro e he; obtain ⟨e', he', rfl⟩ := List.mem_map.1 he; obtain ⟨y, _, rfl⟩ := List.mem_map.1 he'; rfl
    obtain ⟨fpA, hA, hAf⟩ := Rd.cut hgr hsz4 0 k 0 cg (by simp; omega) (fun _ => by simp) (fun _ => by omega)
    obtain ⟨o2, hif, fpB, hB, hBf⟩ := Rd.tail hgr hsz4 (k + 1) (by simp; omega)
    rw [Nat.zero_add] at hif
    rw [List.drop_zero] at hA
    simp only [List.length_map] at hB
    have HA := Lib.hid hA; clear hA
    have HB := Lib.hid hB; clear hB
    have HAf := Lib.hid (show ∀ r ∈ fpA, w1.heap.size ≤ r ∧ r < w4.heap.size from fun r hr => ⟨hfp r (hAf r hr), hfl r (hAf r hr)⟩)
    have HBf := Lib.hid (show ∀ r ∈ fpB, w1.heap.size ≤ r ∧ r < w4.heap.size from fun r hr => ⟨hfp r (hBf r hr), hfl r (hBf r hr)⟩)
    have Hszs := Lib.hid hsz4; clear hsz4 hgr hfp hfl hAf hBf Hog4
    have hwk : IntKind.i64.wrap ((k : Int) + 1) = (k : Int) + 1 := IntWalk.i64_in _ (by omega)
    have e1 : ((k : Int) + 1).toNat = k + 1 := by omega
    have e2 : 0 ≤ (k : Int) + 1 := by omega
    have e3' : (k : Int) + 1 ≤ (g.length : Int) := by omega
    have e4' : (k : Int) ≤ (cg : Int) := by omega
    have e5' : k ≤ cg := by omega
    have e6' : k + 1 ≤ g.length := by omega
    have e7' : (g.length : Int) ≤ (cg : Int) := by omega
    go_wp2_with fail
    refine wp_region_held_drew (S := fun _ => True) (by kernel_rfl) trivial (fun hH => ?_)
    refine takeH 1 (v := ?v1) rfl (by kernel_rfl) (by kernel_rfl) (by kernel_rfl) (fun _ _ _ h => h) hH rfl ?y1 ?r1
    case y1 => intro W hSw; go_simp; try with_reducible rfl
    try simp only [Act.put, List.setIfInBounds_toArray, List.set_cons_zero, List.set_cons_succ]
    refine takeH 2 (v := ?v2) rfl (by kernel_rfl) (by kernel_rfl) (by kernel_rfl) (fun _ _ _ h => h) hH rfl ?y2 ?r2
    case y2 => intro W hSw; go_simp; try with_reducible rfl
    try simp only [Act.put, List.setIfInBounds_toArray, List.set_cons_zero, List.set_cons_succ]
    refine takeH 3 (v := ?v3) rfl (by kernel_rfl) (by kernel_rfl) (by kernel_rfl) (fun _ _ _ h => h) hH rfl ?y3 ?r3
    case y3 => intro W hSw; go_simp; try with_reducible rfl
    try simp only [Act.put, List.setIfInBounds_toArray, List.set_cons_zero, List.set_cons_succ]
    refine takeH 5 (v := ?v5) rfl (by kernel_rfl) (by kernel_rfl) (by kernel_rfl) (fun _ _ _ h => h) hH rfl ?y5 ?r5
    case y5 => intro W hSw; go_simp; try with_reducible rfl
    try simp only [Act.put, List.setIfInBounds_toArray, List.set_cons_zero, List.set_cons_succ]
    refine takeH 6 (v := ?v6) rfl (by kernel_rfl) (by kernel_rfl) (by kernel_rfl) (fun _ _ _ h => h) hH rfl ?y6 ?r6
    case y6 => intro W hSw; go_simp; try with_reducible rfl
    try simp only [Act.put, List.setIfInBounds_toArray, List.set_cons_zero, List.set_cons_succ]
    refine takeH 7 (v := ?v7) rfl (by kernel_rfl) (by kernel_rfl) (by kernel_rfl) (fun _ _ _ h => h) hH rfl ?y7 ?r7
    case y7 => intro W hSw; go_simp; try with_reducible rfl
    try simp only [Act.put, List.setIfInBounds_toArray, List.set_cons_zero, List.set_cons_succ]
    refine takeH 8 (v := ?v8) rfl (by kernel_rfl) (by kernel_rfl) (by kernel_rfl) (fun _ _ _ h => h) hH rfl ?y8 ?r8
    case y8 => intro W hSw; go_simp; try with_reducible rfl
    try simp only [Act.put, List.setIfInBounds_toArray, List.set_cons_zero, List.set_cons_succ]
    refine callH 0 rfl (by kernel_rfl) rfl (fun K hK => ?_)
    go_simp
    refine hK.out _ _ trivial (fun hH => ?_)
    clear hK K
    try simp only [Act.put, List.setIfInBounds_toArray, List.set_cons_zero, List.set_cons_succ]
    have hga : w4.grownBy ((w4.alloc (.cells #[] 56)).drew) none := grownBy_drewN (World.grownBy_alloc w4 (.cells #[] 56) none) 1
    have hbn : Bld 56 4 ((w4.alloc (.cells #[] 56)).drew) w1.heap.size (.slice (some ⟨w4.heap.size, 0, none⟩) 0 0) [] := Bld.nil (World.ownsRow_made w4 #[] 0 (show w1.heap.size ≤ w4.heap.size by omega) (by simp) (by simp))
    have hza : ((w4.alloc (.cells #[] 56)).drew).heap.size = w4.heap.size + 1 := by show (w4.alloc (.cells #[] 56)).heap.size = _; rw [World.size_alloc]
    have hA1 := HA.out.grown hga (fun r e => by cases e)
    have hB1 := HB.out.grown hga (fun r e => by cases e)
    generalize (w4.alloc (.cells #[] 56)).drew = w5 at *
    refine callH 4 rfl (by kernel_rfl) rfl (fun K hK => ?_)
    refine op_app_rows Tryd.underlying24 vertex_inf rfl (by decide) (by decide) w5 (.tmp 64) (.tmp 67) rfl w1.heap.size (.slice (some ⟨w4.heap.size, 0, none⟩) 0 0) (.slice (some ⟨gb, 0, none⟩) k cg) [] _ fpA rfl hbn rfl hA1 (fun e he => Hszs.out e (List.mem_of_mem_take he)) (fun r hr => ⟨(HAf.out r hr).1, fun e => by have := (HAf.out r hr).2; simp [Value.ownBlock] at e; omega⟩) (by simp; omega) (by omega) ?_
    intro v6 w6 hbl6 hg6 hlo6
    rw [List.nil_append] at hbl6
    have hB2 := hB1.grown hg6 (fun r e hm => by have := (HBf.out r hm).2; simp [Value.ownBlock] at e; omega)
    have hs6 := hg6.size
    refine hK.out _ _ trivial (fun hH => ?_)
    clear hK K
    try simp only [Act.put, List.setIfInBounds_toArray, List.set_cons_zero, List.set_cons_succ]
    refine callH 9 rfl (by kernel_rfl) rfl (fun K hK => ?_)
    refine op_app_rows Tryd.underlying24 vertex_inf rfl (by decide) (by decide) w6 (.tmp 68) (.tmp 72) rfl w1.heap.size v6 (.slice (some ⟨gb, o2, none⟩) (g.length - (k + 1)) (cg - (k + 1))) _ _ fpB rfl hbl6 (by first | rfl | (rw [← hif]; rfl)) hB2 (fun e he => Hszs.out e (List.mem_of_mem_drop he)) (fun r hr => ⟨(HBf.out r hr).1, fun e => by
      have := (HBf.out r hr).2
      rcases hlo6 r e with h | h
      · simp [Value.ownBlock] at h; omega
      · omega⟩) (by simp; omega) (by omega) ?_
    intro v7 w7 hbl7 hg7 hlo7
    refine hK.out _ _ trivial (fun hH => ?_)
    clear hK K
    try simp only [Act.put, List.setIfInBounds_toArray, List.set_cons_zero, List.set_cons_succ]
    refine takeH 10 (v := ?v10) rfl (by kernel_rfl) (by kernel_rfl) (by kernel_rfl) (fun _ _ _ h => h) hH rfl ?y10 ?r10
    case y10 => intro W hSw; go_simp; try with_reducible rfl
    try simp only [Act.put, List.setIfInBounds_toArray, List.set_cons_zero, List.set_cons_succ]
    refine wpAnyH_done (by kernel_rfl) ?_ _
    try simp only [Act.put]
    have hv6 : ∀ q, v6.ownBlock = some q → w4.heap.size ≤ q := fun q e => by
      rcases hlo6 q e with h | h
      · simp [Value.ownBlock] at h; omega
      · omega
    have hr5 := (Hr4.out.kept hga (fun q e => by cases e)).kept hg6 (fun q e => by have h : w4.heap.size = q := (by simpa [Value.ownBlock] using e); omega)
    have hoc7 := ((Hoc4.out.kept hga (by cases (Value.slice ac c.length cc).ownBlock <;> simp)).kept hg6 (.inr (fun e => by have h : w4.heap.size < w1.heap.size := Hcb.out _ e; omega))).kept hg7 (by
      cases hvc : (Value.slice ac c.length cc).ownBlock with
      | none => exact .inl rfl
      | some q => exact .inr fun e => by have := Hcb.out q hvc; have := hv6 q e.symm; omega)
    have Hr7 := Lib.hid (hr5.kept hg7 (fun q e => by have := hv6 q e; omega))
    have Hoc7 := Lib.hid hoc7
    have Hg7 := Lib.hid (grown_row (grown_row (grown_row Hg4.out hga (fun q e => by cases e)) hg6 (fun q e => by have h : w4.heap.size = q := (by simpa [Value.ownBlock] using e); omega)) hg7 (fun q e => by have := hv6 q e; omega))
    obtain ⟨fp, h1, h2⟩ := hbl7.rd
    have hgr : Gr w7 (g.take k ++ g.drop (k + 1)) v7 fp := by unfold Gr rowsD; rw [List.map_append, List.map_append, List.map_take, List.map_take, List.map_drop, List.map_drop]; exact h1
    have Hgr := Lib.hid hgr
    have Hfp := Lib.hid h2
    have Hps7 := Lib.hid (show ∀ x ∈ g.take k ++ g.drop (k + 1), x.ps.length ≤ 100 from fun x hx => by
      rcases List.mem_append.1 hx with hx | hx
      · exact Hps.out x (List.mem_of_mem_take hx)
      · exact Hps.out x (List.mem_of_mem_drop hx))
    clear hgr h1 h2 hoc7 hr5 hbl7 hbl6 hB2 hA1 hB1 hg7 hg6 hga
    go_wp2
    go_ret2
    exact ⟨_, c, v7, _, fp, p2 + 1 + 1, rfl, Hoc7.out, by omega, Hgr.out, fun r hr => Nat.le_trans hs1 (Hfp.out r hr), by rw [List.length_append, List.length_take, List.length_drop]; omega, Hps7.out, Hr7.out, by omega, Hg7.out⟩
  have e4 : (s == 4) = false := by rw [beq_eq_false_iff_ne]; exact h4
  clear h4
  by_cases h5 : s = 5
  · subst h5
    have hk' : k < (g.map Vx.fd).length := by simpa using hk
    have he : (g.map Vx.fd)[k] = g[k].fd := by simp
    obtain ⟨q0, q1, _, q3, _⟩ := vx_cells Hog4.out hk
    obtain ⟨pa, pc, q2, ho2, _, hne2, _⟩ := Hog4.out.fieldL (k := k) (j := 2) hk' (by rw [he]; simp [Vx.fd]) (xs := g[k].ps) (by simp only [he]; rfl)
    obtain ⟨fp2, hr2, hf2⟩ := Rd.of_own ho2
    have hcr : CellsRd w4 w1.heap.size (Value.slice (some ⟨gb, 0, none⟩) g.length cg).ownBlock [.int .i64 g[k].r, .int .i64 g[k].a, .slice pa g[k].ps.length pc, .int .i64 g[k].d] [.i g[k].r, .i g[k].a, intsD g[k].ps, .i g[k].d] := by
      intro j hj
      match j, hj with
      | 0, _ => exact ⟨_, [], rfl, .i _, by simp⟩
      | 1, _ => exact ⟨_, [], rfl, .i _, by simp⟩
      | 2, _ => exact ⟨_, fp2, rfl, hr2, fun r hr => ⟨(hf2 r hr).1, fun e => hne2 ((hf2 r hr).2.trans e.symm)⟩⟩
      | 3, _ => exact ⟨_, [], rfl, .i _, by simp⟩
    have Hcr := Lib.hid hcr; clear hcr ho2 hr2 hf2 hne2
    have Hbl := Lib.hid Hog4.out.bld
    have hel : ((g.map Vx.fd).map fun e => e.map Fd.dt).length ≤ 1048576 := by rw [List.length_map, List.length_map]; omega
    have Hex := Lib.hid (show ((g ++ [g[k]]).map Vx.fd).map (fun e => e.map Fd.dt) = (g.map Vx.fd).map (fun e => e.map Fd.dt) ++ [[.i g[k].r, .i g[k].a, intsD g[k].ps, .i g[k].d]] by rw [List.map_append, List.map_append]; rfl)
    have Hlt4 := Lib.hid Hog4.out.lt
    have hB4 : w1.heap.size ≤ w4.heap.size := by omega
    have hpk := Hps.out _ (List.getElem_mem hk)
    have Hap := Lib.hid (Hog4.out.apartI Hoc4.out (by decide))
    clear Hog4 he hk'
    generalize (g.map Vx.fd).map (fun e => e.map Fd.dt) = es at *
    generalize hy : g[k] = y at *
    go_wp2_with (at_builtin; refine wpList_push_row Tryd.underlying24 vertex_inf rfl (by decide) (by decide) rfl (.tmp 76) (.tmp 81) rfl w1.heap.size (.slice (some ⟨gb, 0, none⟩) g.length cg) es _ _ _ rfl rfl (by intro u hu; simp at hu; rcases hu with rfl | rfl | rfl | rfl <;> rfl) rfl Hbl.out rfl Hcr.out hel rfl hB4 ?_; intro v8 w8 hbl8 hg8 hat8)
    go_ret2
    obtain ⟨fp, h1, h2⟩ := hbl8.rd
    have hgr : Gr w8 (g ++ [y]) v8 fp := by unfold Gr rowsD; rw [Hex.out]; exact h1
    exact ⟨_, c, v8, g ++ [y], fp, p2 + 1 + 1, rfl, Hoc4.out.kept hg8 Hap.out, by omega, hgr, fun r hr => Nat.le_trans hs1 (h2 r hr), by rw [List.length_append]; simp; omega, fun x hx => by
      rcases List.mem_append.1 hx with hx | hx
      · exact Hps.out x hx
      · simp at hx; subst hx; exact hpk, Hr4.out.kept hg8 (fun q e => by have := (Hbl.out.lt q e).1; omega), by omega, grown_row Hg4.out hg8 (fun q e => by have := (Hbl.out.lt q e).1; omega)⟩
  have e5 : (s == 5) = false := by rw [beq_eq_false_iff_ne]; exact h5
  clear h5
  by_cases h6 : s = 6
  · subst h6
    go_wp2_with fail
    refine (drawCommittee R (p2 + 1 + 1) _ (by omega) Hr4.out (by omega)).mono ?_
    rintro e w5 ⟨u, c5, p5, rfl, hu, hul, _, hr5, hp5, hg5⟩
    have hs5 := hg5.size
    have Hog5 := Lib.hid (Hog4.out.same fun b h1 h2 => hg5.block b (by omega) (fun e => by cases e; omega))
    obtain ⟨au, cu, rfl, _, _⟩ := hu.ints
    have Hu := Lib.hid (hu.mono (show w.heap.size ≤ w4.heap.size by omega)); clear hu
    have Hr5 := Lib.hid hr5; clear hr5
    have Hg5 := Lib.hid (grownBy_trans Hg4.out hg5); clear hg5
    go_wp2
    go_ret2
    obtain ⟨fp, h1, h2⟩ := ownR_gr Hog5.out
    exact ⟨_, c5, _, g, fp, p5, rfl, Hu.out, hul, h1, fun r hr => Nat.le_trans hs1 (h2 r hr), by omega, Hps.out, Hr5.out, by omega, Hg5.out⟩
  have e6 : (s == 6) = false := by rw [beq_eq_false_iff_ne]; exact h6
  clear h6
  go_wp2
  go_ret2
  obtain ⟨fp, h1, h2⟩ := ownR_gr Hog4.out
  exact ⟨_, c, _, g, fp, p2 + 1 + 1, rfl, Hoc4.out, by omega, h1, fun r hr => Nat.le_trans hs1 (h2 r hr), by omega, Hps.out, Hr4.out, by omega, Hg4.out⟩

end Go.Proofs.YtjekgjlnaochiabDoor

/- append(s, make([]int, n)...) at a list of ints of the call's own; condition: both are shorter than 2^20. -/
namespace Go.Proofs.YtjekgjlnaochiabDoor
open Go.RowKit

theorem zeros_list (n : Nat) : (Builtin.zeroCells (Value.int .i64 0).cells n).toList = (List.replicate n (0 : Int)).map (Value.int .i64) := by
  apply List.ext_getElem
  · simp [Builtin.zeroCells, Value.cells]
  · intro j h1 h2
    simp [Builtin.zeroCells, Value.cells]
    rw [Nat.mod_one]; rfl
theorem own_newZ {E : TypeId} {w : World} {B cap n : Nat} {xs : List Int} (hB : B ≤ w.heap.size) (h1 : xs.length + n ≤ cap) (h2 : cap ≤ maxLen) (c : Array Value) (hc : c.toList = (xs.map (Value.int .i64)) ++ ((List.replicate n (0 : Int)).map (Value.int .i64)) ++ (List.replicate (cap - (xs.length + n)) (0 : Int)).map (Value.int .i64)) :
    Own E (w.drew.alloc (.cells c E)) B (.slice (some ⟨w.heap.size, 0, none⟩) (xs.length + n) cap) (xs ++ List.replicate n 0) := by
  have hl : (xs ++ List.replicate n (0 : Int)).length = xs.length + n := by simp
  refine ⟨by simp, .inr ⟨w.heap.size, cap, c, by rw [hl], hB, heap_alloc_new w.drew _, by rw [hl]; exact h1, h2, ?_, ?_⟩⟩
  · rw [← Array.length_toList, hc]; simp; omega
  · rw [hc, Nat.mul_one, ← List.map_append]
    rw [show (xs ++ List.replicate n (0 : Int)).length = ((xs ++ List.replicate n (0 : Int)).map (Value.int .i64)).length by simp]
    exact List.take_left
theorem run_appZ {P : Program} {T E tn : TypeId} (hT : IntT P T E) (htn : P.underlying tn = some (.int .i64)) (ty : TypeId) {w : World} {B : Nat} {v : Value} {xs : List Int} (n : Nat) (h0 : 0 < n) (hown : Own E w B v xs)
    (hlen : xs.length + n ≤ 1048576) (hB : B ≤ w.heap.size) :
    ∃ v' w', (Builtin.append_ #[T, tn] ty #[v, .int .i64 n]).run P w = .ok v' w' ∧ Own E w' B v' (xs ++ List.replicate n 0) ∧ w.grownBy w' v.ownBlock := by
  obtain ⟨i, hi, hz, hsz, hby⟩ := info_parts hT.info
  have ht := hT.sl
  have hml : (1048576 : Nat) ≤ maxLen := by unfold maxLen; omega
  have hn : n ≠ 0 := by omega
  have hw : IntKind.i64.wrap (n : Int) = n := by rw [IntKind.wrap_i64]; omega
  have hneg : ¬ ((n : Int) < 0) := by omega
  have hns : ¬ (n * i.size = 0) := Nat.mul_ne_zero hn (by omega)
  have h48i : ¬ (281474976710656 < (n : Int) * (i.bytes : Int)) := by rw [hby]; omega
  have hown' := hown
  rcases hown'.2 with ⟨rfl, hx⟩ | ⟨g, cap, cur, rfl, hbg, hg, hnc, hcm, hcs, htake⟩
  · obtain rfl : xs = [] := List.eq_nil_of_length_eq_zero hx
    have hge := grownCap_ge w n 0 E
    have hcm : grownCap w n 0 E ≤ maxLen := grownCap_le_maxLen w n 0 E (by simp at hlen; omega)
    have hr := Go.Lib.run_append_nil_zeros (P := P) w T tn ty E i (.int .i64 0) .i64 .i64 ht htn hi hz n h0 (by omega) (by simp at hlen; omega) (by rw [hby]; simp at hlen; omega)
    refine ⟨_, _, hr, ?_, ⟨rfl, rfl, rfl, by simp, fun k hk _ => by first | exact heap_alloc_old w.drew _ hk | exact heap_alloc_old w.drew _ k hk⟩⟩
    have := own_newZ (E := E) (w := w) (B := B) (cap := grownCap w n 0 E) (n := n) (xs := []) hB (by simpa using hge) hcm (Builtin.zeroCells (Value.int .i64 0).cells n ++ Builtin.zeroCells (Value.int .i64 0).cells (grownCap w n 0 E - n)) (by rw [Array.toList_append, zeros_list, zeros_list]; simp)
    simpa using this
  · by_cases hroom : xs.length + n ≤ cap
    · have hst := run_storeCells_at P g (xs.length * i.size) E (Builtin.zeroCells (Value.int .i64 0).cells n).toList 0 cur w hg (by rw [hsz, zeros_list, hcs]; simp; omega) (by rw [zeros_list]; intro u hu; obtain ⟨_, _, rfl⟩ := List.mem_map.1 hu; rfl)
      simp only [Nat.add_zero] at hst
      have hst2 : (storeCells ⟨g, xs.length * i.size, none⟩ (Builtin.zeroCells (Value.int .i64 0).cells n).toList).run P w = .ok () _ := hst
      refine ⟨.slice (some ⟨g, 0, none⟩) (xs.length + n) cap, w.setRow g (cur.toList.take (xs.length * i.size) ++ (Builtin.zeroCells (Value.int .i64 0).cells n).toList ++ cur.toList.drop (xs.length * i.size + (Builtin.zeroCells (Value.int .i64 0).cells n).toList.length)).toArray, ?_, ?_, ?_⟩
      · simp [Builtin.append_, run_underlying ht, run_underlying htn, sizeOf, typeInfo, zeroValue, hi, hz, asInt, asIntOf, hw, hneg, hns, h48i, hroom, Addr.add_lit, hst2]
      · have hl : (xs ++ List.replicate n (0 : Int)).length = xs.length + n := by simp
        refine ⟨by simp, .inr ⟨g, cap, _, by rw [hl], hbg, setRow_heap w g cur _ E _ hg, by rw [hl]; exact hroom, hcm, ?_, ?_⟩⟩
        · rw [hsz, zeros_list]
          simp only [List.size_toArray, List.length_append, List.length_take, List.length_drop, Array.length_toList, List.length_map, List.length_replicate]
          omega
        · rw [hsz, hl, zeros_list]
          rw [Nat.mul_one] at htake
          rw [Nat.mul_one, Nat.mul_one, htake, ← List.map_append]
          rw [show xs.length + n = ((xs ++ List.replicate n (0 : Int)).map (Value.int .i64)).length by simp]
          exact List.take_left
      · exact ⟨rfl, rfl, rfl, by simp, fun k _ hk => setRow_other w g k _ (fun e => hk (by simp [Value.ownBlock, e]))⟩
    · have holds : ∀ j u, (xs.map (Value.int .i64))[j]? = some u → w.cell? ((⟨g, 0, none⟩ : Addr).add j) = some u := World.ownsRow.cells hown (g := g) rfl
      have hfo := run_firstCells_some (P := P) w.drew i.size xs.length ⟨g, 0, none⟩ xs.length cap (xs.map (Value.int .i64)) (by rw [hsz]; simp) (by simpa using holds)
      have h63' : ¬ (9223372036854775807 < ((xs.length : Int) + (n : Int))) := by omega
      have hgf := growslice_fits (need := xs.length + n) (old := cap) (bytes := i.bytes) (by omega) (by rw [hby]; omega)
      have h48' : ¬ (281474976710656 < Builtin.nextslicecap (xs.length + n) cap * i.bytes) := by omega
      have hge := grownCap_ge w (xs.length + n) cap E
      have hcm' : grownCap w (xs.length + n) cap E ≤ maxLen := grownCap_le_maxLen w (xs.length + n) cap E (by omega)
      refine ⟨.slice (some ⟨w.heap.size, 0, none⟩) (xs.length + n) (grownCap w (xs.length + n) cap E), w.drew.alloc (.cells ((xs.map (Value.int .i64)).toArray ++ Builtin.zeroCells (Value.int .i64 0).cells n ++ Builtin.zeroCells (Value.int .i64 0).cells (grownCap w (xs.length + n) cap E - (xs.length + n))) E), ?_, ?_, ?_⟩
      · simp [Builtin.append_, run_underlying ht, run_underlying htn, sizeOf, typeInfo, zeroValue, hi, hz, asInt, asIntOf, hw, hneg, hns, h48i, hroom, h63', h48', Question.forced, hfo, newRow, grownCap]
      · refine own_newZ hB hge hcm' _ ?_
        rw [Array.toList_append, Array.toList_append, zeros_list, zeros_list]
      · exact ⟨rfl, rfl, rfl, by simp, fun k hk _ => by first | exact heap_alloc_old w.drew _ hk | exact heap_alloc_old w.drew _ k hk⟩
theorem wpList_appZ {P : Program} {T E tn : TypeId} (hT : IntT P T E) (htn : P.underlying tn = some (.int .i64)) {w : World} {ops : Array Oper} {rest : List Oper} {o : Oper} {a : Act} {Q : Exit → Act → World → Prop} (hgd : o.guard = none) (s x : Operand)
    (ho : o.op = .call { callee := .builtin .append, args := #[s, x], argTypes := #[T, tn] }) (B : Nat) (v : Value) (xs : List Int) (n : Nat) (h0 : 0 < n) (hs : a.eval s = v) (hx : a.eval x = .int .i64 n) (hown : Own E w B v xs)
    (hlen : xs.length + n ≤ 1048576) (hB : B ≤ w.heap.size)
    (h : ∀ v' w', Own E w' B v' (xs ++ List.replicate n 0) → w.grownBy w' v.ownBlock → wpList P ops Q rest (a.put o.dst v') w') : wpList P ops Q (o :: rest) a w := by
  obtain ⟨v', w', hr, h1, h2⟩ := run_appZ hT htn o.type n h0 hown hlen hB
  exact Go.Lib.wpList_append_run w hgd s x T tn ho v (.int .i64 n) hs hx v' w' hr (h v' w' h1 h2)

end Go.Proofs.YtjekgjlnaochiabDoor

/- The draws of leaders and of waves: what is drawn reads as lists in new memory; each by a walk of its text; condition: the code is shorter than 2^20. -/
namespace Go.Proofs.YtjekgjlnaochiabDoor
open Go.RowKit

set_option maxHeartbeats 1000000 in
theorem drawLeaders (R p : Nat) (m : Int) (ac : Option Addr) (capc : Nat) (nc : Nat) (w : World) (hp : p ≤ 1000000) (hm0 : 0 ≤ m) (hm1 : m ≤ 100) (hnc : nc ≤ 1000) (hr : Rdr w R p) (hR : R < w.heap.size) :
    Calls Tryd.prog 57 #[.pointer (some ⟨R, 0, none⟩), .slice ac nc capc, .int .i64 m] w fun e w' => ∃ v xs p', e = .returned v ∧ Own 3 w' w.heap.size v xs ∧ xs.length ≤ m.toNat + 15 ∧ Rdr w' R p' ∧ p' ≤ p + 200 ∧ w.grownBy w' (some R) := by
  obtain ⟨n, rfl⟩ := Int.eq_ofNat_of_zero_le hm0
  have hn : n ≤ 100 := by omega
  rw [show ((n : Int)).toNat = n from Int.toNat_natCast n]
  have Hr1 := Lib.hid (hr.alloc (.cells #[] 3)); clear hr
  go_enter Tryd.func57, Tryd.ntmps57
  go_wp2_with fail
  go_loopw [7, 8] (fun v i wr => ∃ (xs : List Int) (k : Nat), k ≤ n ∧ xs.length ≤ k ∧ i = .int .i64 (k : Nat) ∧ Own 3 wr w.heap.size v xs ∧ Rdr wr R (p + k) ∧ w.grownBy wr (some R)) (fun _ i _ => n - (intOf i).toNat)
  case atStart => exact ⟨[], 0, by simp, by simp, rfl, own_empty _ _ (Nat.le_refl _), Hr1.out, World.grownBy_alloc _ _ _⟩
  case round =>
    obtain ⟨xs, k, hkn, hxk, rfl, hown, hrd, hgr⟩ := hrel
    have Hrd := Lib.hid hrd; clear hrd
    have Hown := Lib.hid hown; clear hown
    by_cases hlt : k < n
    · go_wp2_with fail
      all_goals (
        refine (pick_any R _ (p + k) _ (by omega) Hrd.out (by omega)).mono ?_
        rintro e w3 ⟨x, rfl, hx0, hx1, hr3, hg3⟩
        have Hr3 := Lib.hid hr3; clear hr3
        have Hg3 := Lib.hid (grownBy_trans hgr hg3)
        have Ho3 := Lib.hid (Hown.out.kept hg3 (.inr (fun e => by have := (Hown.out.lt R e).1; omega)))
        have hB := Hg3.out.size
        clear hg3
        go_wp2_with (at_builtin; refine wpList_push TI' rfl (.tmp 15) (.tmp 21) rfl w.heap.size _ xs _ rfl Ho3.out (by omega) rfl hB ?_; intro v' w5 hown5 hg5)
        go_roundw
        case rel => exact ⟨_, k + 1, by omega, by simp; omega, by go_num, hown5, Hr3.out.kept hg5 (fun g e => by have := (Ho3.out.lt g e).1; omega), grown_row Hg3.out hg5 (fun g e => (Ho3.out.lt g e).1)⟩
        case measure => simp [intOf]; omega)
    · have hk : k = n := by omega
      have hkn' : (k : Int) = n := by omega
      go_wp2_with fail
      refine (pick_any R 24 (p + k) _ (by omega) Hrd.out (by omega)).mono ?_
      rintro e w3 ⟨x, rfl, hx0, hx1, hr3, hg3⟩
      have Hr3 := Lib.hid hr3; clear hr3
      have Hg3 := Lib.hid (grownBy_trans hgr hg3)
      have Ho3 := Lib.hid (Hown.out.kept hg3 (.inr (fun e => by have := (Hown.out.lt R e).1; omega)))
      have hB := Hg3.out.size
      clear hg3
      have Hk := Lib.hid hk; clear hk hkn'
      by_cases h0 : x = 0
      · subst h0
        go_wp2_with (at_builtin; refine wpList_push TI' rfl (.tmp 27) (.tmp 30) rfl w.heap.size _ xs _ rfl Ho3.out (by omega) rfl hB ?_; intro v' w5 hown5 hg5)
        go_ret
        exact ⟨_, _, _, rfl, hown5, by simp; omega, Hr3.out.kept hg5 (fun g e => by have := (Ho3.out.lt g e).1; omega), by omega, grown_row Hg3.out hg5 (fun g e => (Ho3.out.lt g e).1)⟩
      have h0' : (x == 0) = false := by rw [beq_eq_false_iff_ne]; exact h0
      by_cases h1 : x = 1
      · subst h1
        go_wp2_with (at_builtin; refine wpList_appZ TI' Tryd.underlying3 rfl (.tmp 34) (.const (.int .i64 15)) rfl w.heap.size _ xs 15 (by omega) rfl rfl Ho3.out (by omega) hB ?_; intro v' w5 hown5 hg5)
        go_ret
        exact ⟨_, _, _, rfl, hown5, by simp; omega, Hr3.out.kept hg5 (fun g e => by have := (Ho3.out.lt g e).1; omega), by omega, grown_row Hg3.out hg5 (fun g e => (Ho3.out.lt g e).1)⟩
      have h1' : (x == 1) = false := by rw [beq_eq_false_iff_ne]; exact h1
      go_wp2
      go_ret
      exact ⟨_, _, _, rfl, Ho3.out, by omega, Hr3.out, by omega, Hg3.out⟩

set_option maxHeartbeats 2000000 in
theorem drawWaves (R p : Nat) (w : World) (hp : p ≤ 1000) (hr : Rdr w R p) (hR : R < w.heap.size) :
    Calls Tryd.prog 32 #[.pointer (some ⟨R, 0, none⟩)] w fun e w' => ∃ ac cc c vg g fp al cl ls p', e = .returned (.tuple #[.slice ac c.length cc, vg, .slice al ls.length cl]) ∧ Own 3 w' w.heap.size (.slice ac c.length cc) c ∧ c.length ≤ 11 ∧ Gr w' g vg fp ∧ (∀ r ∈ fp, w.heap.size ≤ r) ∧ g.length ≤ 281 ∧ (∀ x ∈ g, x.ps.length ≤ 100) ∧ Own 3 w' w.heap.size (.slice al ls.length cl) ls ∧ ls.length ≤ 22 ∧ Rdr w' R p' ∧ p' ≤ 200000 ∧ w.grownBy w' (some R) := by
  go_enter Tryd.func32, Tryd.ntmps32
  go_wp2_with fail
  refine (pick_any R 13 p _ (by omega) hr (by omega)).mono ?_
  rintro e w2 ⟨n, rfl, hn0, hn1, hr2, hg2⟩
  have hs2 := hg2.size
  have Hr2 := Lib.hid hr2; clear hr2 hr
  have Hg2 := Lib.hid hg2; clear hg2
  have hwn : IntKind.i64.wrap (1 + n) = 1 + n := IntWalk.i64_in _ (by omega)
  go_wp2_with fail
  refine (drawSpoilt R (p + 1) (1 + n) w2 (by omega) (by omega) (by omega) Hr2.out (by omega)).mono ?_
  rintro e w3 ⟨vc, c, vg, g, fp, p3, rfl, hoc, hcl, hgr, hfp, hgl, hps, hr3, hp3, hg3⟩
  have hs3 := hg3.size
  obtain ⟨ac, cc, rfl, _, _⟩ := hoc.ints
  have Hoc3 := Lib.hid hoc; clear hoc
  have Hgr3 := Lib.hid hgr; clear hgr
  have Hfp := Lib.hid hfp; clear hfp
  have Hr3 := Lib.hid hr3; clear hr3
  have Hg3 := Lib.hid (grownBy_trans Hg2.out hg3); clear hg3
  go_wp2_with fail
  refine (pick_any R 8 p3 _ (by omega) Hr3.out (by omega)).mono ?_
  rintro e w4 ⟨x, rfl, hx0, hx1, hr4, hg4⟩
  have hs4 := hg4.size
  have Hoc4 := Lib.hid (Hoc3.out.kept hg4 (.inr fun e => by have := (Hoc3.out.lt R e).1; omega))
  have Hgr4 := Lib.hid (show Gr w4 g vg fp from Rd.grown hg4 Hgr3.out (fun r e hm => by cases e; have := Hfp.out R hm; omega))
  have Hr4 := Lib.hid hr4; clear hr4
  have Hg4 := Lib.hid (grownBy_trans Hg3.out hg4); clear hg4
  have hx7 : x ≤ 7 := by omega
  go_wp2_with fail
  refine (drawLeaders R (p3 + 1) x ac cc c.length w4 (by omega) hx0 (by omega) (by omega) Hr4.out (by omega)).mono ?_
  rintro e w5 ⟨vl, ls, p5, rfl, hol, hll, hr5, hp5, hg5⟩
  have hs5 := hg5.size
  obtain ⟨al, cl, rfl, _, _⟩ := hol.ints
  have Hoc5 := Lib.hid (Hoc4.out.kept hg5 (.inr fun e => by have := (Hoc4.out.lt R e).1; omega))
  have Hgr5 := Lib.hid (show Gr w5 g vg fp from Rd.grown hg5 Hgr4.out (fun r e hm => by cases e; have := Hfp.out R hm; omega))
  have Hol := Lib.hid hol; clear hol
  have Hr5 := Lib.hid hr5; clear hr5
  have Hg5 := Lib.hid (grownBy_trans Hg4.out hg5); clear hg5
  go_wp2
  refine bodyPost_ret (v := .tuple #[.slice ac c.length cc, vg, .slice al ls.length cl]) (by simp [results, Tryd.f32, go_sem]) rfl ?_
  exact ⟨ac, cc, c, vg, g, fp, al, cl, ls, p5, rfl, Hoc5.out.mono (by omega), hcl, Hgr5.out, fun r hr => Nat.le_trans (by omega) (Hfp.out r hr), hgl, hps, Hol.out.mono (by omega), by omega, Hr5.out, by omega, Hg5.out⟩

theorem spec_DrawCommitWaves (a : Option Addr) (cap : Nat) (zs : List Int) (w : World) (h : CodeAt w a cap zs) :
    Calls Tryd.prog 10 #[.slice a zs.length cap] w fun e w' => ∃ ac cc c vg g fp al cl ls, e = .returned (.tuple #[.slice ac c.length cc, vg, .slice al ls.length cl]) ∧ Own 3 w' w.heap.size (.slice ac c.length cc) c ∧ c.length ≤ 11 ∧ Gr w' g vg fp ∧ (∀ r ∈ fp, w.heap.size ≤ r) ∧ g.length ≤ 281 ∧ (∀ x ∈ g, x.ps.length ≤ 100) ∧ Own 3 w' w.heap.size (.slice al ls.length cl) ls ∧ ls.length ≤ 22 ∧ Below w.heap.size w w' := by
  go_enter Tryd.func10, Tryd.ntmps10
  go_wp2_with fail
  refine (open_any a cap zs _ h).mono ?_
  rintro e w1 ⟨R, rfl, hR0, hR1, hr1, hb1⟩
  have Hr1 := Lib.hid hr1; clear hr1
  have Hb1 := Lib.hid hb1; clear hb1
  have hsz := Hb1.out.size
  go_wp2_with fail
  refine (drawWaves R 0 _ (by omega) Hr1.out hR1).mono ?_
  rintro e w2 ⟨ac, cc, c, vg, g, fp, al, cl, ls, p2, rfl, hoc, hcl, hgr, hfp, hgl, hps, hol, hll, hr2, hp2, hg2⟩
  have Hoc := Lib.hid hoc; have Hgr := Lib.hid hgr; have Hol := Lib.hid hol; have Hfp := Lib.hid hfp
  have Hb2 := Lib.hid (Hb1.out.grown hg2 Hb1.out.size (fun g e => by cases e; exact hR0))
  clear hoc hgr hol hfp hr2 hg2
  go_wp2
  refine bodyPost_ret (v := .tuple #[.slice ac c.length cc, vg, .slice al ls.length cl]) (by simp [results, Tryd.f10, go_sem]) rfl ?_
  exact ⟨ac, cc, c, vg, g, fp, al, cl, ls, rfl, Hoc.out.mono (by omega), hcl, Hgr.out, fun r hr => Nat.le_trans (by omega) (Hfp.out r hr), hgl, hps, Hol.out.mono (by omega), hll, Hb2.out⟩

end Go.Proofs.YtjekgjlnaochiabDoor

/- Plain arithmetic of sets of members and their weights; no walk and no condition of our own. -/
namespace Go.Proofs.YtjekgjlnaochiabDoor

/-- Ascending members below n. -/
def AscP (n : Nat) (ms : List Int) : Prop := ms.Pairwise (· < ·) ∧ ∀ m ∈ ms, 0 ≤ m ∧ m < n
theorem ascP_of {n : Nat} {ms : List Int} (h : membersB n ms = true) : AscP n ms := by
  have step : ∀ d i (hi : i + 1 + d < ms.length), ms[i] < ms[i + 1 + d] := by
    intro d
    induction d with
    | zero =>
      intro i hi
      have := okAt_bd hi (allB_upto h (i + 1) hi)
      rcases this.2.2 with h0 | h0
      · omega
      · rw [show i + 1 + 0 - 1 = i by omega, getD_get (by omega)] at h0; exact h0
    | succ d ih =>
      intro i hi
      have h1 := ih i (by omega)
      have := okAt_bd hi (allB_upto h (i + 1 + (d + 1)) hi)
      rcases this.2.2 with h0 | h0
      · omega
      · rw [show i + 1 + (d + 1) - 1 = i + 1 + d by omega, getD_get (by omega)] at h0
        exact Int.lt_trans h1 h0
  refine ⟨List.pairwise_iff_getElem.2 fun i j hi hj hij => ?_, fun m hm => ?_⟩
  · have := step (j - i - 1) i (by omega)
    simpa [show i + 1 + (j - i - 1) = j by omega] using this
  · obtain ⟨j, hj, rfl⟩ := List.mem_iff_getElem.1 hm
    exact membersB_at h j hj
theorem of_ascP {n : Nat} {ms : List Int} (h : AscP n ms) : membersB n ms = true := by
  unfold membersB
  refine allB_yes (k := ms.length) (fun j hj => ?_) (Nat.le_refl _)
  have hb := h.2 ms[j] (List.getElem_mem hj)
  refine okAt_yes hj hb.1 hb.2 ?_
  by_cases h0 : j = 0
  · exact .inl h0
  · refine .inr ?_
    rw [getD_get (by omega)]
    exact List.pairwise_iff_getElem.1 h.1 (j - 1) j (by omega) hj (by omega)
theorem ascP_filter {n : Nat} {ms : List Int} (p : Int → Bool) (h : AscP n ms) : AscP n (ms.filter p) :=
  ⟨h.1.filter p, fun m hm => h.2 m (List.mem_filter.1 hm).1⟩
theorem ascP_rangeF (p : Nat → Bool) (n : Nat) : AscP n (rangeF p n) := by
  induction n with
  | zero => exact ⟨by simp [rangeF], by simp [rangeF]⟩
  | succ n ih =>
    cases hp : p n with
    | false => rw [rangeF_no hp]; exact ⟨ih.1, fun m hm => by have := ih.2 m hm; omega⟩
    | true =>
      rw [rangeF_yes hp]
      refine ⟨List.pairwise_append.2 ⟨ih.1, by simp, fun a ha b hb => ?_⟩, fun m hm => ?_⟩
      · simp at hb; subst hb; exact (ih.2 a ha).2
      · rcases List.mem_append.1 hm with hm | hm
        · have := ih.2 m hm; omega
        · simp at hm; omega
theorem mem_rangeF {p : Nat → Bool} {n i : Nat} : (i : Int) ∈ rangeF p n ↔ i < n ∧ p i = true := by
  unfold rangeF
  simp only [List.mem_map, List.mem_filter, List.mem_range]
  constructor
  · rintro ⟨a, h, e⟩
    obtain rfl : a = i := by omega
    exact h
  · intro h; exact ⟨i, h, rfl⟩

/-- f 0 + .. + f (n - 1). -/
def isum (f : Nat → Int) : Nat → Int
  | 0 => 0
  | n + 1 => isum f n + f n
theorem isum_congr {f g : Nat → Int} {n : Nat} (h : ∀ i, i < n → f i = g i) : isum f n = isum g n := by
  induction n with
  | zero => rfl
  | succ n ih => simp only [isum]; rw [ih (fun i hi => h i (by omega)), h n (by omega)]
theorem isum_add (f g : Nat → Int) (n : Nat) : isum (fun i => f i + g i) n = isum f n + isum g n := by
  induction n with
  | zero => rfl
  | succ n ih => simp only [isum]; rw [ih]; omega
theorem isum_le {f g : Nat → Int} {n : Nat} (h : ∀ i, i < n → f i ≤ g i) : isum f n ≤ isum g n := by
  induction n with
  | zero => exact Int.le_refl _
  | succ n ih => simp only [isum]; have := ih (fun i hi => h i (by omega)); have := h n (by omega); omega
theorem isum_total (c : List Int) : isum (fun i => c.getD i 0) c.length = totalZ c := by
  have : ∀ k, k ≤ c.length → isum (fun i => c.getD i 0) k = sumTo c k := by
    intro k
    induction k with
    | zero => intro _; rfl
    | succ k ih => intro hk; simp only [isum]; rw [ih (by omega), sumTo_succ (by omega), getD_get (by omega)]
  exact this _ (Nat.le_refl _)

/-- The weight of i if it is among ms. -/
def wAt (c ms : List Int) (i : Nat) : Int := if hasB ms i = true then c.getD i 0 else 0
theorem weightTo_app (c ms : List Int) (x : Int) : weightZ c (ms ++ [x]) = weightZ c ms + c.getD x.toNat 0 := by
  unfold weightZ
  rw [List.length_append]
  simp only [List.length_cons, List.length_nil]
  rw [weightTo_succ (by simp)]
  congr 1
  · unfold weightTo; simp
  · simp
theorem weight_isum (c : List Int) : ∀ (n : Nat) (ms : List Int), AscP n ms → weightZ c ms = isum (wAt c ms) n := by
  intro n
  induction n with
  | zero =>
    intro ms h
    cases ms with
    | nil => rfl
    | cons m ms => have := h.2 m (by simp); omega
  | succ n ih =>
    intro ms h
    simp only [isum]
    rcases List.eq_nil_or_concat ms with rfl | ⟨l, x, rfl⟩
    · rw [← ih [] ⟨by simp, by simp⟩]; simp [wAt, hasB]
    · rw [List.concat_eq_append] at h ⊢
      have hp := List.pairwise_append.1 h.1
      have hx := h.2 x (by simp)
      have hl : ∀ m ∈ l, 0 ≤ m ∧ m < x := fun m hm => ⟨(h.2 m (by simp [hm])).1, hp.2.2 m hm x (by simp)⟩
      by_cases hxn : x = n
      · subst hxn
        have h1 := ih l ⟨hp.1, fun m hm => ⟨(hl m hm).1, by have := hl m hm; omega⟩⟩
        rw [weightTo_app, h1]
        congr 1
        · refine isum_congr fun i hi => ?_
          unfold wAt hasB
          have : ((i : Int) ∈ l ++ [(n : Int)]) = ((i : Int) ∈ l) := by
            rw [List.mem_append]; simp; omega
          simp only [this]
        · unfold wAt hasB; simp
      · have h1 := ih (l ++ [x]) ⟨h.1, fun m hm => by
          have := h.2 m hm
          rcases List.mem_append.1 hm with hm | hm
          · have := hl m hm; omega
          · simp at hm; omega⟩
        rw [h1]
        have : wAt c (l ++ [x]) n = 0 := by
          unfold wAt hasB
          rw [if_neg]
          rw [decide_eq_true_eq]
          intro hm
          rcases List.mem_append.1 hm with hm | hm
          · have := hl _ hm; omega
          · simp at hm; omega
        omega

theorem hasB_common (a b : List Int) (i : Int) : hasB (commonZ a b) i = (hasB a i && hasB b i) := by
  rw [commonZ_eq, Bool.eq_iff_iff]
  simp [hasB, List.mem_filter]
theorem c_nonneg {c : List Int} (h : validB c = true) (i : Nat) (hi : i < c.length) : 0 ≤ c.getD i 0 := by have := good_getD h hi; omega

/-- Two sets weigh no more together than all members and what is common. -/
theorem weights_meet {c a b : List Int} (h : validB c = true) (ha : AscP c.length a) (hb : AscP c.length b) : weightZ c a + weightZ c b ≤ totalZ c + weightZ c (commonZ a b) := by
  have hc : AscP c.length (commonZ a b) := by rw [commonZ_eq]; exact ascP_filter _ ha
  rw [weight_isum c _ a ha, weight_isum c _ b hb, weight_isum c _ _ hc, ← isum_total, ← isum_add, ← isum_add]
  refine isum_le fun i hi => ?_
  have := c_nonneg h i hi
  unfold wAt
  rw [hasB_common]
  generalize c.getD i 0 = x at *
  cases hasB a i <;> cases hasB b i <;> simp <;> omega
/-- Weights are added. -/
theorem weights_add {c a b : List Int} (ha : AscP c.length a) (hb : AscP c.length b) :
    weightZ c a + weightZ c b = weightZ c (rangeF (fun i => hasB a i || hasB b i) c.length) + weightZ c (commonZ a b) := by
  have hc : AscP c.length (commonZ a b) := by rw [commonZ_eq]; exact ascP_filter _ ha
  have hu := ascP_rangeF (fun i => hasB a i || hasB b i) c.length
  rw [weight_isum c _ a ha, weight_isum c _ b hb, weight_isum c _ _ hc, weight_isum c _ _ hu, ← isum_add, ← isum_add]
  refine isum_congr fun i hi => ?_
  unfold wAt
  rw [hasB_common]
  have : hasB (rangeF (fun i => hasB a i || hasB b i) c.length) i = (hasB a i || hasB b i) := by
    rw [Bool.eq_iff_iff]; unfold hasB; rw [decide_eq_true_eq, mem_rangeF]; simp [hi]
  rw [this]
  cases hasB a i <;> cases hasB b i <;> simp

/-- The weight of all members. -/
theorem weight_all {c : List Int} (h : validB c = true) : weightZ c (rangeF (bitB 127) c.length) = totalZ c := by
  rw [weight_isum c _ _ (ascP_rangeF _ _), ← isum_total]
  refine isum_congr fun i hi => ?_
  have hl := validB_len h
  have h7 : bitB 127 i = true := by
    have : i < 7 := by omega
    match i, this with
    | 0, _ => rfl
    | 1, _ => rfl
    | 2, _ => rfl
    | 3, _ => rfl
    | 4, _ => rfl
    | 5, _ => rfl
    | 6, _ => rfl
  have : hasB (rangeF (bitB 127) c.length) i = true := decide_eq_true (mem_rangeF.2 ⟨hi, h7⟩)
  unfold wAt
  rw [if_pos this]

theorem mwZ_of {c ms : List Int} (h : validB c = true) (hm : AscP c.length ms) : mwZ c ms = weightZ c ms := mwZ_yes (by rw [mvB_yes h]; exact of_ascP hm)
theorem mwZ_rangeF {c : List Int} (h : validB c = true) (p : Nat → Bool) : mwZ c (rangeF p c.length) = weightZ c (rangeF p c.length) := mwZ_of h (ascP_rangeF p _)

theorem weight_bd {c a : List Int} (h : validB c = true) (ha : AscP c.length a) : 0 ≤ weightZ c a ∧ weightZ c a ≤ totalZ c := by
  have h0 : isum (fun _ => 0) c.length = 0 := by
    generalize c.length = n
    induction n with
    | zero => rfl
    | succ n ih => simp only [isum]; rw [ih]; rfl
  rw [weight_isum c _ a ha, ← isum_total]
  refine ⟨Int.le_trans (Int.le_of_eq h0.symm) (isum_le fun i hi => ?_), isum_le fun i hi => ?_⟩ <;> (have := c_nonneg h i hi; unfold wAt; split <;> omega)
theorem ascP_common {n : Nat} {a b : List Int} (ha : AscP n a) : AscP n (commonZ a b) := by rw [commonZ_eq]; exact ascP_filter _ ha
theorem common_pos {c a b : List Int} (h : 0 < weightZ c (commonZ a b)) : 0 < (commonZ a b).length := by
  rcases Nat.eq_zero_or_pos (commonZ a b).length with h0 | h0
  · rw [List.eq_nil_of_length_eq_zero h0] at h; exact absurd h (by simp [weightZ, weightTo])
  · exact h0

theorem validB_iff (c : List Int) : validB c = true ↔ (1 ≤ c.length ∧ c.length ≤ 7) ∧ ∀ x ∈ c, 1 ≤ x ∧ x ≤ 9 := by
  unfold validB goodB
  rw [Bool.and_eq_true, decide_eq_true_eq, List.all_eq_true]
  simp
theorem valid_less {c : List Int} {k : Nat} (h : validB c = true) (hk : k < c.length) (h1 : c.length ≠ 1) : validB (c.take k ++ c.drop (k + 1)) = true := by
  rw [validB_iff] at h ⊢
  refine ⟨?_, fun x hx => h.2 x ?_⟩
  · rw [List.length_append, List.length_take, List.length_drop]; omega
  · rcases List.mem_append.1 hx with hx | hx
    · exact List.mem_of_mem_take hx
    · exact List.mem_of_mem_drop hx
theorem valid_zero {c : List Int} {k : Nat} (hk : k < c.length) : validB (c.set k 0) = false := by
  rw [Bool.eq_false_iff]
  intro h
  rw [validB_iff] at h
  have := h.2 0 (List.mem_set hk 0)
  omega

theorem members_less {n : Nat} {ms : List Int} {k : Nat} (h : AscP n ms) : AscP n (ms.take k ++ ms.drop (k + 1)) := by
  have hsub : (ms.take k ++ ms.drop (k + 1)).Sublist ms := by rw [← List.eraseIdx_eq_take_drop_succ]; exact List.eraseIdx_sublist ms k
  exact ⟨h.1.sublist hsub, fun m hm => h.2 m (hsub.subset hm)⟩
theorem members_twice {n : Nat} {ms : List Int} {k : Nat} (hk : k < ms.length) : membersB n (ms.take (k + 1) ++ ms.drop k) = false := by
  rw [Bool.eq_false_iff]
  intro h
  have hp := (List.pairwise_append.1 (ascP_of h).1).2.2 ms[k] (by rw [List.mem_take_iff_getElem]; exact ⟨k, by omega, rfl⟩) ms[k] (by rw [List.mem_drop_iff_getElem]; exact ⟨0, by omega, by simp⟩)
  omega

end Go.Proofs.YtjekgjlnaochiabDoor

/- A wave that is committed directly is reached by every later vertex: a quorum and a supporting set have a member in common; plain facts, nothing here speaks of the program. -/
namespace Go.Proofs.YtjekgjlnaochiabDoor
open Go.RowKit

/-- Whether the author i votes in round r for the vertex of L. -/
def vB (g : List Vx) (L : Int) (r : Nat) (i : Nat) : Bool := g.any fun y => decide (y.r = (r : Int) ∧ y.a = (i : Int)) && hasB y.ps L
theorem vB_of {g : List Vx} {L : Int} {r i : Nat} (h : vB g L r i = true) : ∃ y ∈ g, y.r = (r : Int) ∧ y.a = (i : Int) ∧ L ∈ y.ps := by
  unfold vB at h
  obtain ⟨y, hy, hh⟩ := List.any_eq_true.1 h
  simp only [Bool.and_eq_true, decide_eq_true_eq] at hh
  exact ⟨y, hy, hh.1.1, hh.1.2, of_decide_eq_true hh.2⟩
theorem votP_isum {c : List Int} {L : Int} {r : Nat} {g : List Vx} (hs : Srt g) (hp : ∀ v ∈ g, inPl v) : ∀ a, votP c L r g a = isum (fun i => if vB g L r i = true then c.getD i 0 else 0) a
  | 0 => by rw [votP_zero hp]; rfl
  | a + 1 => by
    have ih := votP_isum (c := c) (L := L) (r := r) hs hp a
    by_cases he : ∃ y ∈ g, y.r = (r : Int) ∧ y.a = (a : Int)
    · obtain ⟨y, hy, er, ea⟩ := he
      rw [votP_yes hs hy er ea, ih]
      have e : vB g L r a = hasB y.ps L := by
        rw [Bool.eq_iff_iff]
        constructor
        · intro h
          obtain ⟨z, hz, zr, za, hm⟩ := vB_of h
          have : z = y := srt_uni hs hz hy (by omega) (by omega)
          rw [← this]; exact decide_eq_true hm
        · intro h
          unfold vB
          exact List.any_eq_true.2 ⟨y, hy, by rw [h, decide_eq_true ⟨er, ea⟩]; rfl⟩
      show _ = isum _ a + (if vB g L r a = true then c.getD a 0 else 0)
      rw [e]
    · have hn : ∀ v ∈ g, ¬ (v.r = (r : Int) ∧ v.a = (a : Int)) := fun v hv e => he ⟨v, hv, e⟩
      rw [votP_no hs hn, ih]
      have e : vB g L r a = false := by
        cases h : vB g L r a with
        | false => rfl
        | true =>
          obtain ⟨z, hz, zr, za, _⟩ := vB_of h
          exact absurd ⟨zr, za⟩ (hn z hz)
      show _ = isum _ a + (if vB g L r a = true then c.getD a 0 else 0)
      rw [e]; simp

theorem isum_cut {f : Nat → Int} : ∀ (d n : Nat), (∀ i, n ≤ i → f i = 0) → isum f (n + d) = isum f n
  | 0, _, _ => rfl
  | d + 1, n, h => by rw [← Nat.add_assoc]; show isum f (n + d) + f (n + d) = _; rw [isum_cut d n h, h (n + d) (by omega)]; omega
theorem voZ_isum {c : List Int} {g : List Vx} {ls : List Int} {w : Nat} (ok : Good21 c g ls) (h0 : 0 ≤ ldZ g ls w) : voZ c g ls w = isum (fun i => if vB g (ls.getD (w - 1) 0) (2 * w) i = true then c.getD i 0 else 0) c.length := by
  have h7 := (validB_len ok.hv).2
  unfold voZ
  rw [if_pos h0, show (2 * (w : Int)) = ((2 * w : Nat) : Int) by omega, ← votP_all ok.pl, votP_isum ok.srt ok.pl]
  have := isum_cut (f := fun i => if vB g (ls.getD (w - 1) 0) (2 * w) i = true then c.getD i 0 else 0) (7 - c.length) c.length (fun i hi => by
    split
    · simp [List.getD, List.getElem?_eq_none hi]
    · rfl)
  rw [← this, show c.length + (7 - c.length) = 7 by omega]
/-- A quorum and the voters for a wave that is committed directly have a member in common. -/
theorem quo_meet {c : List Int} {g : List Vx} {ls : List Int} {w : Nat} (ok : Good21 c g ls) (hd : dirB c g ls w = true) {ps : List Int} (hm : membersB c.length ps = true) (hq : quorumZ c ≤ weightZ c ps) :
    ∃ y ∈ g, y.r = 2 * (w : Int) ∧ y.a ∈ ps ∧ ls.getD (w - 1) 0 ∈ y.ps := by
  have h0 := dir_has ok.hv hd
  have hd := of_decide_eq_true hd
  rw [voZ_isum ok h0] at hd
  rw [weight_isum c _ ps (ascP_of hm)] at hq
  have hbd := totalZ_bd ok.hv
  unfold quorumZ at hq
  by_cases he : ∃ i, i < c.length ∧ hasB ps i = true ∧ vB g (ls.getD (w - 1) 0) (2 * w) i = true
  · obtain ⟨i, hi, h1, h2⟩ := he
    obtain ⟨y, hy, yr, ya, hl⟩ := vB_of h2
    exact ⟨y, hy, by omega, by rw [ya]; exact of_decide_eq_true h1, hl⟩
  · have hle : isum (fun i => wAt c ps i + (if vB g (ls.getD (w - 1) 0) (2 * w) i = true then c.getD i 0 else 0)) c.length ≤ isum (fun i => c.getD i 0) c.length := isum_le fun i hi => by
      have hc := c_nonneg ok.hv i hi
      have hn : ¬ (hasB ps i = true ∧ vB g (ls.getD (w - 1) 0) (2 * w) i = true) := fun h => he ⟨i, hi, h.1, h.2⟩
      unfold wAt
      by_cases h1 : hasB ps i = true
      · rw [if_pos h1, if_neg (fun h => hn ⟨h1, h⟩)]; omega
      · rw [if_neg h1]
        split <;> omega
    rw [isum_add, isum_total] at hle
    omega

/-- One vertex is reached from another by way of parents. -/
inductive Rch (g : List Vx) : Vx → Vx → Prop where
  | refl (x : Vx) : Rch g x x
  | step {x z y : Vx} (hz : z ∈ g) (hr : z.r = x.r - 1) (ha : z.a ∈ x.ps) (h : Rch g z y) : Rch g x y
theorem Rch.snoc {g : List Vx} {x y z : Vx} (h : Rch g x y) (hz : z ∈ g) (hr : z.r = y.r - 1) (ha : z.a ∈ y.ps) : Rch g x z := by
  induction h with
  | refl x => exact .step hz hr ha (.refl _)
  | step h1 h2 h3 _ ih => exact .step h1 h2 h3 (ih hr ha)
/-- The past of a vertex is what it reaches. -/
theorem past_rch {c : List Int} {g : List Vx} (h : graphB c g = true) {a b : Nat} (ha : a < g.length) (hb : b < g.length) : (pastB g a).getD b false = true ↔ Rch g g[a] g[b] := by
  have hs := graph_sorted h
  obtain ⟨hcl, hca, _⟩ := past_closed h ha
  constructor
  · have key : ∀ n b, (hb : b < g.length) → g.length - b ≤ n → (pastB g a).getD b false = true → Rch g g[a] g[b] := by
      intro n
      induction n with
      | zero => intro b hb hn; omega
      | succ n ih =>
        intro b hb hn hbt
        by_cases e : b = a
        · subst e; exact .refl _
        · obtain ⟨i, hi, hji, hbi, _, er, ep⟩ := past_least h ha b hbt e
          exact (ih i hi (by omega) hbi).snoc (List.getElem_mem hb) (by omega) ep
    exact key (g.length - b) b hb (Nat.le_refl _)
  · have key : ∀ x y, Rch g x y → ∀ i (hi : i < g.length), g[i] = x → (pastB g a).getD i false = true → ∀ j (hj : j < g.length), g[j] = y → (pastB g a).getD j false = true := by
      intro x y hr
      induction hr with
      | refl x =>
        intro i hi e hbt j hj e2
        rwa [pair_uni hs hi hj (by rw [e, e2]) (by rw [e, e2])] at hbt
      | @step x z y hz hzr hza _ ih =>
        intro i hi e hbt j hj e2
        subst e
        obtain ⟨k, hk, ek⟩ := List.mem_iff_getElem.1 hza
        have h1 := hcl i hi (Nat.zero_le _) hbt k hk
        obtain ⟨m, hm, em, em2⟩ := findZ_mem hs hz
        rw [ek, ← hzr, em, Int.toNat_natCast] at h1
        exact ih m hm em2 h1 j hj e2
    intro hr
    exact key _ _ hr a ha rfl hca b hb rfl

/-- What a wave's leader vertex is, as an index. -/
theorem ld_at {g : List Vx} {ls : List Int} {w : Nat} (h : 0 ≤ ldZ g ls w) : ∃ j, ∃ hj : j < g.length, ldZ g ls w = (j : Int) ∧ g[j].r = 2 * (w : Int) - 1 ∧ g[j].a = ls.getD (w - 1) 0 := by
  rcases findZ_cases g (2 * (w : Int) - 1) (ls.getD (w - 1) 0) with ⟨e, _⟩ | ⟨j, hj, e, hsm, _⟩
  · exact absurd (show ldZ g ls w = -1 from e) (by omega)
  · have h2 : g[j].r = 2 * (w : Int) - 1 ∧ g[j].a = ls.getD (w - 1) 0 := of_decide_eq_true hsm
    exact ⟨j, hj, e, h2.1, h2.2⟩
/-- Every later vertex reaches the leader vertex of a wave that is committed directly. -/
theorem dir_reach {c : List Int} {g : List Vx} {ls : List Int} {w : Nat} (ok : Good21 c g ls) (hvx : ∀ y ∈ g, vtxB c y = true) (hw : 1 ≤ w) (hd : dirB c g ls w = true) {L : Vx} (hL : L ∈ g) (hLr : L.r = 2 * (w : Int) - 1) (hLa : L.a = ls.getD (w - 1) 0) :
    ∀ (n : Nat) (v : Vx), v ∈ g → v.r = 2 * (w : Int) + 1 + n → Rch g v L := by
  have quo : ∀ v ∈ g, 1 ≤ v.r → membersB c.length v.ps = true ∧ quorumZ c ≤ weightZ c v.ps := by
    intro v hv h1
    have := hvx v hv
    unfold vtxB quoB at this
    simp only [Bool.and_eq_true] at this
    rw [if_neg (by omega)] at this
    exact ⟨this.2.2.1, of_decide_eq_true this.2.2.2.2⟩
  intro n
  induction n with
  | zero =>
    intro v hv hr
    obtain ⟨hm, hq⟩ := quo v hv (by omega)
    obtain ⟨y, hy, yr, ya, yl⟩ := quo_meet ok hd hm hq
    exact .step hy (by omega) ya (.step hL (by omega) (by rw [hLa]; exact yl) (.refl _))
  | succ n ih =>
    intro v hv hr
    obtain ⟨hm, hq⟩ := quo v hv (by omega)
    have hne : v.ps ≠ [] := by
      intro e
      rw [e] at hq
      have : weightZ c [] = 0 := rfl
      have hbd := totalZ_bd ok.hv
      unfold quorumZ at hq
      omega
    obtain ⟨p, hp⟩ := List.exists_mem_of_ne_nil _ hne
    obtain ⟨z, hz, zr, za⟩ := ok.par v hv p hp
    exact .step hz zr (by rw [za]; exact hp) (ih z hz (by omega))
theorem dir_link {c : List Int} {g : List Vx} {ls : List Int} (ok : Good21 c g ls) (m u : Nat) (hm : 1 ≤ m) (hd : dirB c g ls m = true) (hmu : m < u) (hu : 0 ≤ ldZ g ls u) : lkB g ls u m = true := by
  obtain ⟨j, hj, ej, rj, aj⟩ := ld_at (dir_has ok.hv hd)
  obtain ⟨k, hk, ek, rk, ak⟩ := ld_at hu
  have hr := dir_reach ok (graph_vtx ok.gb) hm hd (List.getElem_mem hj) rj aj (2 * u - 2 - 2 * m) g[k] (List.getElem_mem hk) (by omega)
  unfold lkB linkB
  rw [ej, ek, Int.toNat_natCast, (past_rch ok.gb hk hj).2 hr]
  simp
/-- The committed waves are the whole chain back from the last one that is committed directly. -/
theorem cw_full {c : List Int} {g : List Vx} {ls : List Int} (ok : Good21 c g ls) (m : Nat) : (wvs c g ls m).1 = if (wvs c g ls m).2 = 0 then [] else (fuW (lkB g ls) (wvs c g ls m).2).map Int.ofNat :=
  wvs_full ok.hv (fun m u h1 h2 h3 h4 => dir_link ok m u h1 h2 h3 h4) m

/-- The votes, whether or not there is a leader vertex: without it nobody refers to it. -/
theorem vo_all {c : List Int} {g : List Vx} {ls : List Int} (ok : Good21 c g ls) (w : Nat) : voZ c g ls w = votTo c (ls.getD (w - 1) 0) (2 * (w : Int)) g g.length := by
  unfold voZ
  by_cases h0 : 0 ≤ ldZ g ls w
  · rw [if_pos h0]
  · rw [if_neg h0]
    have hz : ∀ l : List Vx, (∀ y ∈ l, y ∈ g) → (l.map (votC c (ls.getD (w - 1) 0) (2 * (w : Int)))).sum = 0 := by
      intro l
      induction l with
      | nil => intro _; rfl
      | cons y l ih =>
        intro hl
        rw [List.map_cons, List.sum_cons, ih fun z hz => hl z (List.mem_cons_of_mem _ hz)]
        have hy := hl y (by simp)
        unfold votC
        rw [if_neg]
        · omega
        · rintro ⟨hr, hh⟩
          obtain ⟨z, hz, zr, za⟩ := ok.par y hy _ (of_decide_eq_true hh)
          obtain ⟨j, hj, ej, _⟩ := findZ_mem ok.srt hz
          have : ldZ g ls w = j := by unfold ldZ; rw [← ej, zr, za, hr]
          omega
    unfold votTo
    rw [List.take_length]
    exact (hz g fun y hy => hy).symm

theorem hasB_idx {bs : List Bool} {n j : Nat} (hj : j < n) (h : bs.getD j false = true) : hasB (idxTo bs n) (j : Int) = true := by
  unfold hasB idxTo
  refine decide_eq_true (List.mem_map.2 ⟨j, List.mem_filter.2 ⟨List.mem_range.2 hj, h⟩, rfl⟩)
/-- What is committed, element by element. -/
structure CwOk (c : List Int) (g : List Vx) (ls : List Int) (O : List Nat) : Prop where
  ok : waB c g ls = true
  asc : O.Pairwise (· < ·)
  mem : ∀ y ∈ O, 1 ≤ y ∧ y ≤ ls.length ∧ 0 ≤ ldZ g ls y
  lkd : Lkd (lkB g ls) O
  last : ∀ h : O ≠ [], dirB c g ls (O.getLast h) = true
  all : ∀ w, 1 ≤ w → w ≤ ls.length → dirB c g ls w = true → w ∈ O
theorem getLast_snoc {l : List Nat} {x : Nat} (h : l ++ [x] ≠ []) : (l ++ [x]).getLast h = x := by simp
theorem cw_ok {c : List Int} {g : List Vx} {ls : List Int} (ok : waB c g ls = true) (hps : ∀ x ∈ g, x.ps.length ≤ 1099511627776) : ∃ O : List Nat, cwZ c g ls = O.map Int.ofNat ∧ CwOk c g ls O := by
  have gk := good21 ok hps
  have hl := wvs_last (c := c) (g := g) (ls := ls) ls.length
  have hf := cw_full gk ls.length
  have hcw : cwZ c g ls = (wvs c g ls ls.length).1 := by unfold cwZ; rw [if_pos ok]
  by_cases h0 : (wvs c g ls ls.length).2 = 0
  · rw [if_pos h0] at hf
    refine ⟨[], by rw [hcw, hf]; rfl, ok, .nil, (fun y hy => by cases hy), trivial, (fun h => absurd rfl h), fun w h1 h2 h3 => ?_⟩
    have := hl.2.2 w h1 h2 h3
    omega
  · rw [if_neg h0] at hf
    have hd := hl.2.1.resolve_left h0
    have hh := dir_has gk.hv hd
    have hlk : ∀ u x, lkB g ls u x = true → 0 ≤ ldZ g ls x := fun u x => lk_has
    refine ⟨_, by rw [hcw, hf], ok, fuW_asc hlk (by omega), fun y hy => ?_, fuW_lkd _, fun h => ?_, fun w h1 h2 h3 => ?_⟩
    · have := fuW_mem (has := fun u => 0 ≤ ldZ g ls u) hlk (by omega) hh y hy
      exact ⟨this.1, by omega, this.2.2⟩
    · rw [show (fuW (lkB g ls) (wvs c g ls ls.length).2).getLast h = (wvs c g ls ls.length).2 from getLast_snoc h]
      exact hd
    · have hw := hl.2.2 w h1 h2 h3
      have hp := fuW_pre (has := fun u => 0 ≤ ldZ g ls u) hlk h1 hw (fun u hu hh => dir_link gk w u h1 h3 hu hh) hh
      exact hp.subset (by unfold fuW; simp)
theorem cw_none {c : List Int} {g : List Vx} {ls : List Int} (h : waB c g ls = false) : cwZ c g ls = [] := by unfold cwZ; rw [h]; rfl
theorem wl_at {c : List Int} {g : List Vx} {ls : List Int} {y : Nat} (ok : waB c g ls = true) (h1 : 1 ≤ y) (h2 : y ≤ ls.length) : wlZ c g ls (y : Int) = ldZ g ls y ∧ wdB c g ls (y : Int) = dirB c g ls y ∧ wvZ c g ls (y : Int) = voZ c g ls y := by
  have hwl : wlB c g ls (y : Int) = true := by unfold wlB; rw [ok, decide_eq_true ⟨by omega, by omega⟩]; rfl
  refine ⟨?_, ?_, ?_⟩
  · unfold wlZ; rw [hwl]; simp
  · unfold wdB dirB; rw [hwl]; simp
  · unfold wvZ; rw [hwl]; simp

theorem cw_laws {c : List Int} {g : List Vx} {ls : List Int} (h0 : ¬ (cwZ c g ls).length = 0) (hps : ∀ x ∈ g, x.ps.length ≤ 1099511627776) :
    (∀ i, i < (cwZ c g ls).length → 0 ≤ wlZ c g ls ((cwZ c g ls).getD i 0)) ∧ (∀ i, i < (cwZ c g ls).length → 0 < i → (cwZ c g ls).getD (i - 1) 0 < (cwZ c g ls).getD i 0) ∧ wdB c g ls ((cwZ c g ls).getD ((cwZ c g ls).length - 1) 0) = true := by
  cases hw : waB c g ls with
  | false => rw [cw_none hw] at h0; exact absurd rfl h0
  | true =>
  obtain ⟨O, hO, ok⟩ := cw_ok hw hps
  have hl : (cwZ c g ls).length = O.length := by rw [hO]; simp
  have hat : ∀ i (h : i < O.length), (cwZ c g ls).getD i 0 = ((O[i] : Nat) : Int) := fun i h => by rw [getD_get (by omega)]; simp [hO]
  refine ⟨fun i h => ?_, fun i h hi => ?_, ?_⟩
  · have hm := ok.mem _ (List.getElem_mem (show i < O.length by omega))
    rw [hat i (by omega), (wl_at hw hm.1 hm.2.1).1]; exact hm.2.2
  · rw [hat i (by omega), hat (i - 1) (by omega)]
    have := List.pairwise_iff_getElem.1 ok.asc (i - 1) i (by omega) (by omega) (by omega)
    omega
  · have hne : O ≠ [] := by intro e; rw [e] at hl; exact h0 hl
    have hm := ok.mem _ (List.getElem_mem (show (cwZ c g ls).length - 1 < O.length by omega))
    rw [hat _ (by omega), (wl_at hw hm.1 hm.2.1).2.1]
    have := ok.last hne
    rw [List.getLast_eq_getElem] at this
    simpa [hl] using this

theorem cw_links {c : List Int} {g : List Vx} {ls : List Int} (hps : ∀ x ∈ g, x.ps.length ≤ 1099511627776) (i : Nat) (hi : i < (cwZ c g ls).length) (h0 : 0 < i) :
    ∃ k : Nat, (cwZ c g ls).getD i 0 = (k : Int) ∧ 1 ≤ k ∧ k ≤ ls.length ∧ k ≤ 15 ∧ hasB (gpZ c g (2 * (k : Int) - 1) (ls.getD (k - 1) 0)) (wlZ c g ls ((cwZ c g ls).getD (i - 1) 0)) = true := by
  cases hw : waB c g ls with
  | false => rw [cw_none hw] at hi; simp at hi
  | true =>
  obtain ⟨O, hO, ok⟩ := cw_ok hw hps
  have gk := good21 hw hps
  have hl : (cwZ c g ls).length = O.length := by rw [hO]; simp
  have hat : ∀ i (h : i < O.length), (cwZ c g ls).getD i 0 = ((O[i] : Nat) : Int) := fun i h => by rw [getD_get (by omega)]; simp [hO]
  have hm := ok.mem _ (List.getElem_mem (show i < O.length by omega))
  have hm' := ok.mem _ (List.getElem_mem (show i - 1 < O.length by omega))
  have h15 := gk.l15
  refine ⟨O[i]'(by omega), hat i (by omega), hm.1, hm.2.1, by omega, ?_⟩
  rw [hat (i - 1) (by omega), (wl_at hw hm'.1 hm'.2.1).1]
  have hlk := lkd_at O ok.lkd (i - 1) (by omega)
  have e : O[i - 1 + 1]'(by omega) = O[i]'(by omega) := by congr 1; omega
  rw [e] at hlk
  unfold lkB linkB at hlk
  obtain ⟨j, hj, ej, _⟩ := ld_at hm'.2.2
  rw [ej] at hlk ⊢
  simp only [Bool.and_eq_true] at hlk
  have hgp : gpZ c g (2 * ((O[i]'(by omega) : Nat) : Int) - 1) (ls.getD ((O[i]'(by omega)) - 1) 0) = idxTo (pastB g (ldZ g ls (O[i]'(by omega)))) g.length := by unfold gpZ; rw [if_pos gk.gb]; rfl
  rw [hgp]
  exact hasB_idx hj hlk.2

theorem cw_reach {c : List Int} {g : List Vx} {ls : List Int} (hgb : graphB c g = true) (hps : ∀ x ∈ g, x.ps.length ≤ 1099511627776) (k : Nat) (hk : k < g.length) (m : Nat) (hm : 1 ≤ m) (hm2 : m ≤ ls.length) (hr : 2 * (m : Int) < g[k].r) (hd : wdB c g ls (m : Int) = true) :
    hasB (gpZ c g g[k].r g[k].a) (wlZ c g ls (m : Int)) = true := by
  have hw : waB c g ls = true := (wl_ok (by unfold wdB at hd; simp only [Bool.and_eq_true] at hd; exact hd.1)).1
  have gk := good21 hw hps
  obtain ⟨e1, e2, _⟩ := wl_at hw hm hm2
  rw [e2] at hd
  obtain ⟨j, hj, ej, rj, aj⟩ := ld_at (dir_has gk.hv hd)
  have hrch := dir_reach gk (graph_vtx gk.gb) hm hd (List.getElem_mem hj) rj aj (g[k].r - 2 * (m : Int) - 1).toNat g[k] (List.getElem_mem hk) (by omega)
  have hfz : findZ g g[k].r g[k].a = k := by
    obtain ⟨i, hi, e, e3⟩ := findZ_mem gk.srt (List.getElem_mem hk)
    rw [e, pair_uni gk.srt hi hk (by rw [e3]) (by rw [e3])]
  rw [e1, ej, show gpZ c g g[k].r g[k].a = idxTo (pastB g k) g.length by unfold gpZ; rw [if_pos hgb, hfz]]
  exact hasB_idx hj ((past_rch hgb hk hj).2 hrch)

end Go.Proofs.YtjekgjlnaochiabDoor

/- What a part of a graph commits is a first part of what the whole commits; so is what fewer leaders commit; plain facts, nothing here speaks of the program. -/
namespace Go.Proofs.YtjekgjlnaochiabDoor
open Go.RowKit

/-! fewer leaders -/
theorem ldZ_take {g : List Vx} {ls : List Int} {k w : Nat} (h1 : 1 ≤ w) (h2 : w ≤ k) : ldZ g (ls.take k) w = ldZ g ls w ∧ (ls.take k).getD (w - 1) 0 = ls.getD (w - 1) 0 := by
  have e : (ls.take k).getD (w - 1) 0 = ls.getD (w - 1) 0 := by
    simp only [List.getD_eq_getElem?_getD]
    rw [List.getElem?_take_of_lt (by omega)]
  exact ⟨by unfold ldZ; rw [e], e⟩
theorem chZ_take {g : List Vx} {ls : List Int} {k lo : Nat} : ∀ (x : Nat) (ch : List Int) (at' : Int), x ≤ k → chZ g (ls.take k) lo x ch at' = chZ g ls lo x ch at'
  | 0, _, _, _ => rfl
  | x + 1, ch, at', h => by
    have e := (ldZ_take (g := g) (ls := ls) (k := k) (w := x + 1) (by omega) h).1
    have el : linkB g (ls.take k) at' (x + 1) = linkB g ls at' (x + 1) := by unfold linkB; rw [e]
    unfold chZ
    rw [el, e, chZ_take x _ _ (by omega), chZ_take x _ _ (by omega)]
theorem voZ_take {c : List Int} {g : List Vx} {ls : List Int} {k w : Nat} (h1 : 1 ≤ w) (h2 : w ≤ k) : voZ c g (ls.take k) w = voZ c g ls w := by
  obtain ⟨e1, e2⟩ := ldZ_take (g := g) (ls := ls) h1 h2
  unfold voZ
  rw [e1, e2]
theorem wvs_take {c : List Int} {g : List Vx} {ls : List Int} {k : Nat} : ∀ m, m ≤ k → wvs c g (ls.take k) m = wvs c g ls m
  | 0, _ => rfl
  | m + 1, h => by
    have ih := wvs_take (c := c) (g := g) (ls := ls) (k := k) m (by omega)
    unfold wvs
    rw [ih, voZ_take (by omega) h, (ldZ_take (g := g) (ls := ls) (by omega) h).1, chZ_take m _ _ (by omega)]
theorem wvs_mono {c : List Int} {g : List Vx} {ls : List Int} (k : Nat) : ∀ d, (wvs c g ls k).1 <+: (wvs c g ls (k + d)).1
  | 0 => List.prefix_refl _
  | d + 1 => by
    refine (wvs_mono k d).trans ?_
    show _ <+: (wvs c g ls (k + d + 1)).1
    rw [wvs.eq_2]
    split
    · exact List.prefix_refl _
    · exact List.prefix_append _ _
theorem ldsB_take {n : Nat} {ls : List Int} {k : Nat} (h : ldsB n ls = true) : ldsB n (ls.take k) = true := by
  obtain ⟨h15, h6⟩ := ldAt h
  unfold ldsB
  rw [Bool.and_eq_true, decide_eq_true_eq]
  refine ⟨allB_yes (k := (ls.take k).length) (fun j hj => ?_) (by omega), by rw [List.length_take]; omega⟩
  have hj' : j < (ls.take k).length := hj
  unfold okLd
  rw [getD_get hj', List.getElem_take]
  have := h6 j (by rw [List.length_take] at hj'; omega)
  exact decide_eq_true (by omega)
theorem cw_take {c : List Int} {g : List Vx} {ls : List Int} {k : Nat} (hk : k ≤ ls.length) (h : waB c g ls = true) : cwZ c g (ls.take k) <+: cwZ c g ls := by
  have hw : waB c g (ls.take k) = true := by
    unfold waB at h ⊢
    simp only [Bool.and_eq_true] at h ⊢
    exact ⟨h.1, ldsB_take h.2⟩
  unfold cwZ
  rw [if_pos h, if_pos hw, List.length_take, Nat.min_eq_left hk, wvs_take k (Nat.le_refl _)]
  have := wvs_mono (c := c) (g := g) (ls := ls) k (ls.length - k)
  rwa [show k + (ls.length - k) = ls.length by omega] at this

/-! a part of a graph -/
theorem srt_key {g : List Vx} (h : Srt g) {x y : Vx} (hx : x ∈ g) (hy : y ∈ g) (hr : x.r = y.r) (ha : x.a = y.a) : x = y := srt_uni h hx hy hr ha
section
variable {c : List Int} {g g' : List Vx} {ls : List Int} (ok : Good21 c g ls) (ok' : Good21 c g' ls) (hs : ∀ y ∈ g', y ∈ g)
include ok ok' hs
omit ok' in
theorem ld_part {u : Nat} (h : 0 ≤ ldZ g' ls u) : ∃ i, ∃ hi : i < g'.length, ∃ j, ∃ hj : j < g.length, ldZ g' ls u = (i : Int) ∧ ldZ g ls u = (j : Int) ∧ g'[i] = g[j] := by
  obtain ⟨i, hi, ei, ri, ai⟩ := ld_at h
  have hm := hs _ (List.getElem_mem hi)
  obtain ⟨j, hj, ej, e2⟩ := findZ_mem ok.srt hm
  exact ⟨i, hi, j, hj, ei, by unfold ldZ; rw [← ri, ← ai]; exact ej, e2.symm⟩
theorem rch_part {x y : Vx} (hx : x ∈ g') : Rch g' x y ↔ Rch g x y := by
  constructor
  · intro h
    clear hx
    induction h with
    | refl x => exact .refl _
    | step hz hr ha _ ih => exact .step (hs _ hz) hr ha ih
  · intro h
    induction h with
    | refl x => exact .refl _
    | @step x z y hz hr ha _ ih =>
      obtain ⟨z', hz', hr', ha'⟩ := ok'.par x hx z.a ha
      have e : z' = z := srt_uni ok.srt (hs _ hz') hz (by omega) ha'
      subst e
      exact .step hz' hr' ha (ih hz')
theorem rch_in {x y : Vx} (hx : x ∈ g') (h : Rch g x y) : y ∈ g' := by
  induction h with
  | refl x => exact hx
  | @step x z y hz hr ha _ ih =>
    obtain ⟨z', hz', hr', ha'⟩ := ok'.par x hx z.a ha
    have e : z' = z := srt_uni ok.srt (hs _ hz') hz (by omega) ha'
    subst e
    exact ih hz'
theorem lk_part (u x : Nat) (h : 0 ≤ ldZ g' ls u) : lkB g' ls u x = lkB g ls u x := by
  obtain ⟨i, hi, j, hj, ei, ej, e⟩ := ld_part ok hs h
  rw [Bool.eq_iff_iff]
  unfold lkB linkB
  rw [ei, ej]
  simp only [Bool.and_eq_true, decide_eq_true_eq]
  constructor
  · rintro ⟨h0, h1⟩
    obtain ⟨a, ha, b, hb, ea, eb, e2⟩ := ld_part ok hs h0
    rw [ea, Int.toNat_natCast] at h1
    rw [eb, Int.toNat_natCast]
    refine ⟨by omega, (past_rch ok.gb hj hb).2 ?_⟩
    have := (past_rch ok'.gb hi ha).1 h1
    rw [rch_part ok ok' hs (List.getElem_mem hi), e, e2] at this
    exact this
  · rintro ⟨h0, h1⟩
    obtain ⟨b, hb, eb, rb, ab⟩ := ld_at h0
    rw [eb, Int.toNat_natCast] at h1
    have hr := (past_rch ok.gb hj hb).1 h1
    rw [← e] at hr
    have hin := rch_in ok ok' hs (List.getElem_mem hi) hr
    obtain ⟨a, ha, ea, e3⟩ := findZ_mem ok'.srt hin
    have ea' : ldZ g' ls x = a := by unfold ldZ; rw [← rb, ← ab]; exact ea
    rw [ea', Int.toNat_natCast]
    refine ⟨by omega, (past_rch ok'.gb hi ha).2 ?_⟩
    rw [rch_part ok ok' hs (List.getElem_mem hi), e3]
    exact hr
theorem dir_part {w : Nat} (h : dirB c g' ls w = true) : dirB c g ls w = true := by
  have h0' := dir_has ok'.hv h
  obtain ⟨i, hi, j, hj, ei, ej, e⟩ := ld_part ok hs h0'
  have hle : voZ c g' ls w ≤ voZ c g ls w := by
    rw [voZ_isum ok' h0', voZ_isum ok (by omega)]
    refine isum_le fun a ha => ?_
    have hc := c_nonneg ok.hv a ha
    by_cases h1 : vB g' (ls.getD (w - 1) 0) (2 * w) a = true
    · have h2 : vB g (ls.getD (w - 1) 0) (2 * w) a = true := by
        obtain ⟨y, hy, yr, ya, hl⟩ := vB_of h1
        unfold vB
        exact List.any_eq_true.2 ⟨y, hs y hy, by rw [decide_eq_true ⟨yr, ya⟩, show hasB y.ps _ = true from decide_eq_true hl]; rfl⟩
      rw [if_pos h1, if_pos h2]; exact Int.le_refl _
    · rw [if_neg h1]; split <;> omega
  have := of_decide_eq_true h
  exact decide_eq_true (by omega)
theorem cw_part' : (wvs c g' ls ls.length).1 <+: (wvs c g ls ls.length).1 := by
  have hf := cw_full ok ls.length
  have hf' := cw_full ok' ls.length
  have hl := wvs_last (c := c) (g := g) (ls := ls) ls.length
  have hl' := wvs_last (c := c) (g := g') (ls := ls) ls.length
  by_cases h0' : (wvs c g' ls ls.length).2 = 0
  · rw [hf', if_pos h0']; exact List.nil_prefix
  · have hd' := hl'.2.1.resolve_left h0'
    have hd := dir_part ok ok' hs hd'
    have hle := hl.2.2 _ (by omega) hl'.1 hd
    have h0 : ¬ (wvs c g ls ls.length).2 = 0 := by omega
    have hdl := hl.2.1.resolve_left h0
    rw [hf, hf', if_neg h0, if_neg h0']
    have he : fuW (lkB g' ls) (wvs c g' ls ls.length).2 = fuW (lkB g ls) (wvs c g' ls ls.length).2 := by
      unfold fuW
      rw [chF_same (has' := fun u => 0 ≤ ldZ g' ls u) (fun u x => lk_has) (fun u x h => lk_part ok ok' hs u x h) 0 _ _ (dir_has ok'.hv hd')]
    rw [he]
    exact (fuW_pre (has := fun u => 0 ≤ ldZ g ls u) (fun u x => lk_has) (by omega) hle (fun u hu hh => dir_link ok _ u (by omega) hd hu hh) (dir_has ok.hv hdl)).map _
end
/-- What a part of a graph commits is a first part of what the graph commits. -/
theorem cw_part {c : List Int} {g g' : List Vx} {ls : List Int} (hgb : graphB c g = true) (hps : ∀ x ∈ g, x.ps.length ≤ 1099511627776) (hs : ∀ y ∈ g', y ∈ g) : cwZ c g' ls <+: cwZ c g ls := by
  cases hw' : waB c g' ls with
  | false => rw [cw_none hw']; exact List.nil_prefix
  | true =>
    have hw : waB c g ls = true := by
      unfold waB at hw' ⊢
      simp only [Bool.and_eq_true] at hw' ⊢
      exact ⟨hgb, hw'.2⟩
    have := cw_part' (good21 hw hps) (good21 hw' fun x hx => hps x (hs x hx)) hs
    unfold cwZ
    rw [if_pos hw, if_pos hw']
    exact this

/-- prefixInts. -/
def preB (a b : List Int) : Bool := decide (a.length ≤ b.length) && eqB a (b.take a.length)
theorem preB_of {a b : List Int} (h : a <+: b) : preB a b = true := by
  unfold preB
  rw [decide_eq_true h.length_le, ← List.prefix_iff_eq_take.1 h]
  exact decide_eq_true rfl
theorem preB_two {a b o : List Int} (ha : a <+: o) (hb : b <+: o) : preB a b = true ∨ preB b a = true := by
  by_cases h : a.length ≤ b.length
  · exact .inl (preB_of (List.prefix_of_prefix_length_le ha hb h))
  · exact .inr (preB_of (List.prefix_of_prefix_length_le hb ha (by omega)))

end Go.Proofs.YtjekgjlnaochiabDoor

/- The laws' test for a first part of a list, by a walk of its text; condition: lists are shorter than 2^40. -/
namespace Go.Proofs.YtjekgjlnaochiabDoor
open Go.RowKit

theorem ints_take {w : World} {a : Option Addr} {xs : List Int} (k : Nat) (h : IntsAt w a xs) : IntsAt w a (xs.take k) := by
  rcases h with rfl | ⟨b, off, rfl, hb, hc⟩
  · exact .inl (by simp)
  · refine .inr ⟨b, off, rfl, hb, fun j hj => ?_⟩
    rw [List.length_take] at hj
    rw [hc j (by omega), List.getElem_take]

set_option maxRecDepth 8000 in
theorem laws_prefixInts (a b : Option Addr) (ca cb : Nat) (xs ys : List Int) (w : World) (hx : xs.length ≤ 1099511627776) (_hy : ys.length ≤ 1099511627776) (hcb : ys.length ≤ cb) (hi : IntsAt w a xs) (hi' : IntsAt w b ys) :
    Calls Tryd.prog 16 #[.slice a xs.length ca, .slice b ys.length cb] w fun e w' => e = .returned (.bool (preB xs ys)) ∧ Drawn w w' := by
  by_cases hl : xs.length ≤ ys.length
  · have hl' : decide ((xs.length : Int) ≤ (ys.length : Int)) = true := decide_eq_true (by omega)
    have hl2 : (xs.length : Int) ≤ (ys.length : Int) := by omega
    have hl3 : (xs.length : Int) ≤ (cb : Int) := by omega
    have hlc : xs.length ≤ cb := by omega
    have htl : (ys.take xs.length).length = xs.length := by rw [List.length_take]; omega
    have HS := Lib.hid (laws_sameInts a b ca cb xs (ys.take xs.length) w hx (by omega) hi (ints_take _ hi'))
    rw [htl] at HS
    have Hr := Lib.hid (show preB xs ys = eqB xs (ys.take xs.length) by unfold preB; rw [decide_eq_true hl]; rfl)
    clear hi hi' htl
    generalize eqB xs (ys.take xs.length) = B at *
    go_enter Tryd.func16, Tryd.ntmps16
    go_wp2_with fail
    refine HS.out.mono ?_
    rintro e w1 ⟨rfl, hd⟩
    go_wp2
    go_ret
    exact ⟨by rw [Hr.out]; rfl, hd⟩
  · have hl' : decide ((xs.length : Int) ≤ (ys.length : Int)) = false := decide_eq_false (by omega)
    have hl2 : ¬ (xs.length : Int) ≤ (ys.length : Int) := by omega
    have Hr := Lib.hid (show preB xs ys = false by unfold preB; rw [decide_eq_false hl]; rfl)
    clear hi hi' hl
    go_enter Tryd.func16, Tryd.ntmps16
    go_wp2
    go_ret
    exact ⟨by rw [Hr.out]; rfl, Drawn.refl _⟩

end Go.Proofs.YtjekgjlnaochiabDoor

/- The laws' part of a graph, by a walk of its text: some of the graph's vertices; conditions: the graph is valid, lists are shorter than 2^40 (a graph: 2^20). -/
namespace Go.Proofs.YtjekgjlnaochiabDoor
open Go.RowKit

/-- A vertex's list of parents, as it reads in memory. -/
theorem gr_ps {w : World} {g : List Vx} {va : Option Addr} {vc : Nat} {fp : List Nat} (h : Gr w g (.slice va g.length vc) fp) (k : Nat) (hk : k < g.length) : ∃ b off pa pc fp', va = some ⟨b, off, none⟩ ∧ w.cell? ⟨b, off + k * 4 + 2, none⟩ = some (.slice pa g[k].ps.length pc) ∧ Rd w (intsD g[k].ps) (.slice pa g[k].ps.length pc) fp' := by
  obtain ⟨b, off, rfl, hb, hat⟩ := h.at (by omega)
  obtain ⟨_, _, ⟨pa, pc, c2, _, _⟩, _⟩ := hat k hk
  unfold Gr rowsD at h
  obtain ⟨b', off', e, _, _, _, _, hc⟩ := Rd.at h (by simpa using (show 0 < g.length by omega)) (sz := 4) (by intro e he; simp only [List.map_map, List.mem_map] at he; obtain ⟨x, _, rfl⟩ := he; rfl)
  cases e
  obtain ⟨v, fp', hcell, hr, _⟩ := hc k 2 (by simpa using hk) (by simp [Vx.fd])
  have e1 : off + (k * 4 + 2) = off + k * 4 + 2 := by omega
  rw [e1, c2] at hcell
  cases hcell
  refine ⟨b, off, pa, pc, fp', rfl, c2, ?_⟩
  simpa [Vx.fd, Fd.dt] using hr
set_option maxRecDepth 8000 in
set_option maxHeartbeats 8000000 in
theorem laws_view (ac : Option Addr) (capc : Nat) (c : List Int) (g : List Vx) (va : Option Addr) (vc : Nat) (fp : List Nat) (bits : Int) (w : World) (hgb : graphB c g = true) (hn : c.length ≤ 1099511627776) (hbig : g.length ≤ 1048576) (hps : ∀ x ∈ g, x.ps.length ≤ 1099511627776) (hb0 : 0 ≤ bits) (hb1 : bits ≤ 1099511627776) (hc : IntsAt w ac c) (hg : Gr w g (.slice va g.length vc) fp) :
    Calls Tryd.prog 15 #[.slice ac c.length capc, .slice va g.length vc, .int .i64 bits] w fun e w' => ∃ (g' : List Vx) (u : Value) (fp' : List Nat), e = .returned u ∧ Gr w' g' u fp' ∧ (∀ y ∈ g', y ∈ g) ∧ g'.length ≤ g.length ∧ Below w.heap.size w w' := by
  have hmk : ∀ w, (Instr.makeSlice 59 (.int .i64 (g.length : Int)) (.int .i64 (g.length : Int))).run Tryd.prog w = .ok (.slice (some ⟨w.heap.size, 0, none⟩) g.length g.length) (w.alloc (.cells (madeCells #[.bool false] g.length) 4)) :=
    fun w => run_make_row' 59 4 (.bool false) 1 Tryd.underlying59 (by kernel_rfl) rfl .i64 .i64 g.length (by omega) (by omega) w
  have hbA : Below w.heap.size w (w.alloc (.cells (madeCells #[.bool false] g.length) 4)) := (Below.refl _ _).alloc (Nat.le_refl _) _
  have Ho1 := Lib.hid (ownB_new 4 w g.length (by unfold maxLen; omega))
  have HbA := Lib.hid hbA; clear hbA
  have hszA : w.heap.size < (w.alloc (.cells (madeCells #[.bool false] g.length) 4)).heap.size := by simp
  have HszA := Lib.hid hszA; clear hszA
  have HF := Lib.hid (fun W (hb : Below w.heap.size w W) (r p : Int) => impl_GraphFind' ac capc c g (.slice va g.length vc) fp r p W hn hbig hps (hc.below hb) (hg.under hb))
  have Hgf := Lib.hid (show ∀ r p, gfZ c g r p = findZ g r p from fun r p => by unfold gfZ; rw [if_pos hgb])
  have Hpar := Lib.hid (graph_parents hgb)
  have Hrd := Lib.hid (graph_vtx hgb)
  have HP := Lib.hid hps; have Hg := Lib.hid hg; have Hc := Lib.hid hc
  clear hps hc hgb
  go_enter Tryd.func15, Tryd.ntmps15
  go_wp2
  clear hmk
  generalize w.alloc (.cells (madeCells #[.bool false] g.length) 4) = W1 at *
  go_loopw [2, 8] (fun bt i wr => ∃ (n : Nat) (bv : Int) (bs : List Bool), n ≤ g.length ∧ i = .int .i64 ((n : Int) - 1) ∧ bt = .int .i64 bv ∧ 0 ≤ bv ∧ bv ≤ 1099511627776 ∧ bs.length = g.length ∧ OwnB 4 wr w.heap.size (.slice (some ⟨w.heap.size, 0, none⟩) g.length g.length) bs ∧ Below w.heap.size w wr) (fun _ i _ => (intOf i + 1).toNat)
  case atStart => exact ⟨g.length, bits, _, Nat.le_refl _, by first | rfl | simp, rfl, hb0, hb1, by simp, Ho1.out, HbA.out⟩
  case round =>
    obtain ⟨n, bv, bs, hn9, rfl, rfl, hv0, hv1, hbl, hown, hbel⟩ := hrel
    have Hown := Lib.hid hown; clear hown
    have Hbel := Lib.hid hbel; clear hbel
    clear Ho1 HbA HszA
    by_cases h0 : n = 0
    · subst h0
      rw [show ((0 : Nat) : Int) - 1 = -1 from rfl]
      have hbE : Below wr.heap.size wr (wr.alloc (.cells #[] 56)) := (Below.refl _ _).alloc (Nat.le_refl _) _
      have HoE := Lib.hid (Hown.out.below hbE)
      have HbE := Lib.hid (below_step Hbel.out Hbel.out.size hbE)
      have Hbld0 := Lib.hid (Bld.nil (sz := 4) (World.ownsRow_made (base := 0) (e := 56) (size := 4) wr #[] 0 (Nat.zero_le _) (by simp) (by simp)))
      have hM : w.heap.size < wr.heap.size := by
        exact (Hown.out.lt w.heap.size rfl).2
      clear hbE
      go_wp2
      generalize hWE : wr.alloc (.cells #[] 56) = WE at *
      go_loopw [10, 11] (fun o i wr => ∃ (k : Nat) (g' : List Vx), k ≤ g.length ∧ i = .int .i64 k ∧ g'.length ≤ k ∧ (∀ y ∈ g', y ∈ g) ∧ Bld 56 4 wr 0 o ((g'.map Vx.fd).map fun e => e.map Fd.dt) ∧ (∀ b, o.ownBlock = some b → w.heap.size < b) ∧ OwnB 4 wr w.heap.size (.slice (some ⟨w.heap.size, 0, none⟩) g.length g.length) bs ∧ Below w.heap.size w wr) (fun _ i _ => g.length - (intOf i).toNat)
      case atStart => exact ⟨0, [], Nat.zero_le _, rfl, by simp, by simp, Hbld0.out, fun b e => by cases e; omega, HoE.out, HbE.out⟩
      case round =>
        obtain ⟨k, g', hk, rfl, hgl, hsub, hbld, hloc, hown, hbel⟩ := hrel
        have Hbld := Lib.hid hbld; have Hloc := Lib.hid hloc; have Ho2 := Lib.hid hown; have Hb2 := Lib.hid hbel; have Hsub := Lib.hid hsub
        clear hbld hloc hown hbel hsub
        by_cases hlt : k < g.length
        · have hlt' : (k : Int) < (g.length : Int) := by omega
          obtain ⟨g9, cap9, e9, _, _, _, hbc, _⟩ := Ho2.out.row (by omega)
          simp only [Value.slice.injEq, Option.some.injEq, Addr.mk.injEq, and_true] at e9
          obtain ⟨rfl, h99, rfl⟩ := e9
          clear h99
          have hin := hbc k (by omega)
          cases hbv : bs[k] with
          | false =>
            rw [hbv] at hin
            clear hbc hbv
            go_wp2
            go_roundw
            case rel => exact ⟨k + 1, g', by omega, by go_num, by omega, Hsub.out, Hbld.out, Hloc.out, Ho2.out, Hb2.out⟩
            case measure => simp [intOf]; omega
          | true =>
            rw [hbv] at hin
            clear hbc hbv
            obtain ⟨b, off, pa, pc, fp2, hva, c2', hrp⟩ := gr_ps Hg.out k hlt
            obtain ⟨b', off', hva', hb9, hat⟩ := Hg.out.at (by omega)
            rw [hva] at hva'
            cases hva'
            subst hva
            obtain ⟨d0, d1, ⟨pa', pc', d2, _⟩, d3⟩ := hat k hlt
            rw [c2'] at d2
            cases d2
            have q0 := (Hb2.out.cell (p := ⟨b, off + k * 4, none⟩) hb9).trans d0
            have q1 := (Hb2.out.cell (p := ⟨b, off + k * 4 + 1, none⟩) hb9).trans d1
            have q2 := (Hb2.out.cell (p := ⟨b, off + k * 4 + 2, none⟩) hb9).trans c2'
            have q3 := (Hb2.out.cell (p := ⟨b, off + k * 4 + 3, none⟩) hb9).trans d3
            have hrp2 := hrp.underB Hb2.out hrp.lt
            have hlt2 := hrp.lt
            have hmem := List.getElem_mem hlt
            have hcr : CellsRd wr 0 u10.ownBlock [.int .i64 g[k].r, .int .i64 g[k].a, .slice pa g[k].ps.length pc, .int .i64 g[k].d] [.i g[k].r, .i g[k].a, intsD g[k].ps, .i g[k].d] := by
              intro j hj
              match j, hj with
              | 0, _ => exact ⟨_, [], rfl, .i _, by simp⟩
              | 1, _ => exact ⟨_, [], rfl, .i _, by simp⟩
              | 2, _ => exact ⟨_, fp2, rfl, hrp2, fun r hr => ⟨Nat.zero_le _, fun e => by have := Hloc.out r e; have := hlt2 r hr; omega⟩⟩
              | 3, _ => exact ⟨_, [], rfl, .i _, by simp⟩
            have Hcr := Lib.hid hcr
            have Hex := Lib.hid (show ((g' ++ [g[k]]).map Vx.fd).map (fun e => e.map Fd.dt) = (g'.map Vx.fd).map (fun e => e.map Fd.dt) ++ [[.i g[k].r, .i g[k].a, intsD g[k].ps, .i g[k].d]] by rw [List.map_append, List.map_append]; rfl)
            have Hsub2 := Lib.hid (show ∀ y ∈ g' ++ [g[k]], y ∈ g from fun y hy => by
              rcases List.mem_append.1 hy with h | h
              · exact Hsub.out y h
              · have : y = g[k] := by simpa using h
                rw [this]; exact hmem)
            have hel : ((g'.map Vx.fd).map fun e => e.map Fd.dt).length ≤ 1048576 := by rw [List.length_map, List.length_map]; omega
            have hB0 : 0 ≤ wr.heap.size := Nat.zero_le _
            clear hcr hrp hrp2 hlt2 hat d0 d1 d3 c2' hmem
            generalize (g'.map Vx.fd).map (fun e => e.map Fd.dt) = es at *
            generalize hy : g[k] = y at *
            clear hy
            obtain ⟨yr, ya, yp, yd⟩ := y
            dsimp only at *
            go_wp2_with (at_builtin; refine wpList_push_row Tryd.underlying24 vertex_inf rfl (by decide) (by decide) rfl (.tmp 84) (.tmp 89) rfl 0 u10 es _ _ _ rfl rfl (by intro u hu; simp at hu; rcases hu with rfl | rfl | rfl | rfl <;> rfl) rfl Hbld.out rfl Hcr.out hel rfl hB0 ?_; intro v8 w8 hbl8 hg8 hat8)
            have Hb8 := Lib.hid (Hb2.out.grown hg8 Hb2.out.size (fun r e => Nat.le_of_lt (Hloc.out r e)))
            have Ho8 := Lib.hid (Ho2.out.kept hg8 (.inr (fun e => Nat.lt_irrefl _ (Hloc.out _ e.symm))))
            have Hloc8 := Lib.hid (show ∀ b, v8.ownBlock = some b → w.heap.size < b from fun r e => by
              rcases hat8 r e with h | h
              · exact Hloc.out r h
              · exact Nat.lt_of_lt_of_le (Ho2.out.lt w.heap.size rfl).2 h)
            have Hbl8 := Lib.hid hbl8
            clear hbl8 hg8 hat8 q0 q1 q2 q3
            go_wp2
            go_roundw
            case rel => exact ⟨k + 1, g' ++ [⟨yr, ya, yp, yd⟩], by omega, by go_num, by simp; omega, Hsub2.out, by rw [Hex.out]; exact Hbl8.out, Hloc8.out, Ho8.out, Hb8.out⟩
            case measure => simp [intOf]; omega
        · obtain ⟨fp2, hrd, _⟩ := Hbld.out.rd
          have Hrd2 := Lib.hid hrd; clear hrd
          go_wp2
          go_ret
          exact ⟨g', _, fp2, rfl, Hrd2.out, Hsub.out, by omega, Hb2.out⟩
    · obtain ⟨m, rfl⟩ : ∃ m, n = m + 1 := ⟨n - 1, by omega⟩
      have e1 : ((m + 1 : Nat) : Int) - 1 = m := by omega
      rw [e1]
      have hge' : (0 : Int) ≤ (m : Int) := by omega
      have hw1 : IntKind.i64.wrap ((m : Int) - 1) = m - 1 := IntWalk.i64_in _ (by omega)
      have hmL : m < g.length := by omega
      have hmL' : (m : Int) < (g.length : Int) := by omega
      have hrr := vtx_round (Hrd.out _ (List.getElem_mem hmL))
      have hpsm := HP.out _ (List.getElem_mem hmL)
      have Hpm := Lib.hid (fun k hk => Hpar.out m hmL k hk)
      have Hcell := Lib.hid (fun W (h : Below w.heap.size w W) => by
        obtain ⟨b, off, e, hb, hat⟩ := (Hg.out.under h).at (by omega)
        exact (⟨b, off, e, hat m hmL⟩ : ∃ b off, va = some ⟨b, off, none⟩ ∧ W.cell? ⟨b, off + m * 4, none⟩ = some (.int .i64 g[m].r) ∧ W.cell? ⟨b, off + m * 4 + 1, none⟩ = some (.int .i64 g[m].a) ∧ (∃ pa pc, W.cell? ⟨b, off + m * 4 + 2, none⟩ = some (.slice pa g[m].ps.length pc) ∧ IntsAt W pa g[m].ps ∧ SrcAt W pa pc g[m].ps) ∧ W.cell? ⟨b, off + m * 4 + 3, none⟩ = some (.int .i64 g[m].d)))
      obtain ⟨b, off, rfl, _⟩ := Hcell.out w (Below.refl _ _)
      have hB0 : 0 ≤ (bv * 37 + 11) % 1009 := by omega
      have hB1 : (bv * 37 + 11) % 1009 ≤ 1099511627776 := by omega
      have hB2 : (bv * 37 + 11) % 1009 ≤ 1008 := by omega
      clear e1 h0
      generalize hx : g[m] = x at *
      have Hx := Lib.hid hx; clear hx
      obtain ⟨gq, capq, eq9, _, _, _, hbcq, hbfq⟩ := Hown.out.row (by omega)
      simp only [Value.slice.injEq, Option.some.injEq, Addr.mk.injEq, and_true] at eq9
      obtain ⟨rfl, h98, rfl⟩ := eq9
      clear h98
      have hinq := hbcq m (by omega)
      have hfrq := hbfq m
      clear hbcq hbfq
      cases hbq : bs[m] with
      | true =>
        rw [hbq] at hinq
        clear hbq
        have Hst0 := Lib.hid (Hown.out.store hbl.symm m true)
        obtain ⟨W0, hW0⟩ : ∃ W0, W0 = wr := ⟨wr, rfl⟩
        subst hW0
        go_wp2
        have HbS := Lib.hid (Hbel.out.grown Hst0.out.2 Hbel.out.size (fun g' e => by cases e; exact Nat.le_refl _))
        have HoS := Lib.hid Hst0.out.1
        clear Hst0
        have hbl1 : (bs.set m true).length = g.length := by rw [List.length_set]; exact hbl
        generalize bs.set m true = bs1 at *
        generalize W0.setCell ⟨w.heap.size, m, none⟩ (.bool true) = WS at *
        go_loopw [9] (fun i wr => ∃ (k : Nat) (bs' : List Bool), k ≤ x.ps.length ∧ i = .int .i64 k ∧ bs'.length = g.length ∧ OwnB 4 wr w.heap.size (.slice (some ⟨w.heap.size, 0, none⟩) g.length g.length) bs' ∧ Below w.heap.size w wr) (fun i _ => x.ps.length - (intOf i).toNat)
        case atStart => exact ⟨0, bs1, Nat.zero_le _, rfl, by first | assumption | (simpa using hbl) | omega, HoS.out, HbS.out⟩
        case round =>
          obtain ⟨k, bs', hk, rfl, hbl', hown', hbel'⟩ := hrel
          have Hbel' := Lib.hid hbel'; clear hbel'
          obtain ⟨b', off', e, c0, c1, ⟨pa, pc, c2, i2, _⟩, c3⟩ := Hcell.out wr Hbel'.out
          simp only [Option.some.injEq, Addr.mk.injEq, and_true] at e
          obtain ⟨rfl, rfl⟩ := e
          obtain ⟨g', cap', e, _, _, _, hbc, hbf⟩ := hown'.row (by omega)
          simp only [Value.slice.injEq, Option.some.injEq, Addr.mk.injEq, and_true] at e
          obtain ⟨rfl, h9, rfl⟩ := e
          clear h9
          have hin := hbc m (by omega)
          have Hown' := Lib.hid hown'; clear hown'
          by_cases hlt : k < x.ps.length
          · have hlt' : (k : Int) < (x.ps.length : Int) := by omega
            cases hbv : bs'[m] with
            | true =>
              rw [hbv] at hin
              obtain ⟨j, hjL, hfz⟩ := Hpm.out k hlt
              obtain ⟨b2, off2, rfl, hb2, hat2⟩ := i2.cell (by omega)
              have q3 := hat2 k hlt
              have hw2 : IntKind.i64.wrap (x.r - 1) = x.r - 1 := IntWalk.i64_in _ (by omega)
              have hj2 : (j : Int) < (g.length : Int) := by omega
              have hm2 : (m : Int) < (g.length : Int) := by omega
              have Hfz := Lib.hid (show gfZ c g (x.r - 1) x.ps[k] = j from (Hgf.out _ _).trans hfz)
              clear c1 c3 hfz hat2 hbc hbf hbv
              generalize x.ps[k] = p at *
              go_wp2_with fail
              refine wp_region_L 19 (fun W => Below w.heap.size w W ∧ W.cell? ⟨b, off + m * 4, none⟩ = some (.int .i64 x.r) ∧ W.cell? ⟨b, off + m * 4 + 2, none⟩ = some (.slice (some ⟨b2, off2, none⟩) x.ps.length pc) ∧ W.cell? ⟨b2, off2 + k, none⟩ = some (.int .i64 p)) (by kernel_rfl) ⟨Hbel'.out.drew, c0, c2, q3⟩ (fun hH => ?_)
              have HoD := Lib.hid (show OwnB 4 wr.drew w.heap.size (.slice (some ⟨w.heap.size, 0, none⟩) g.length g.length) bs' from Hown'.out)
              generalize wr.drew = wd at *
              refine takeL 0 (v := ?vu1) rfl (by kernel_rfl) (by kernel_rfl) (by kernel_rfl) (by kernel_rfl) (by kernel_rfl) (fun _ _ _ h => h) hH rfl ?yu1 ?ru1
              case yu1 => intro W hSw; go_simp; try with_reducible rfl
              try simp only [Act.put, List.setIfInBounds_toArray, List.set_cons_zero, List.set_cons_succ]
              refine takeL 1 (v := ?vu2) rfl (by kernel_rfl) (by kernel_rfl) (by kernel_rfl) (by kernel_rfl) (by kernel_rfl) (fun _ _ _ h => h) hH rfl ?yu2 ?ru2
              case yu2 => intro W hSw; go_simp; try with_reducible rfl
              try simp only [Act.put, List.setIfInBounds_toArray, List.set_cons_zero, List.set_cons_succ]
              refine takeL 2 (v := ?vu3) rfl (by kernel_rfl) (by kernel_rfl) (by kernel_rfl) (by kernel_rfl) (by kernel_rfl) (fun _ _ _ h => h) hH rfl ?yu3 ?ru3
              case yu3 => intro W hSw; go_simp; try with_reducible rfl
              try simp only [Act.put, List.setIfInBounds_toArray, List.set_cons_zero, List.set_cons_succ]
              refine takeL 3 (v := ?vu4) rfl (by kernel_rfl) (by kernel_rfl) (by kernel_rfl) (by kernel_rfl) (by kernel_rfl) (fun _ _ _ h => h) hH rfl ?yu4 ?ru4
              case yu4 => intro W hSw; go_simp; try with_reducible rfl
              try simp only [Act.put, List.setIfInBounds_toArray, List.set_cons_zero, List.set_cons_succ]
              refine takeL 4 (v := ?vu5) rfl (by kernel_rfl) (by kernel_rfl) (by kernel_rfl) (by kernel_rfl) (by kernel_rfl) (fun _ _ _ h => h) hH rfl ?yu5 ?ru5
              case yu5 => intro W hSw; go_simp; try with_reducible rfl
              try simp only [Act.put, List.setIfInBounds_toArray, List.set_cons_zero, List.set_cons_succ]
              refine takeL 5 (v := ?vu6) rfl (by kernel_rfl) (by kernel_rfl) (by kernel_rfl) (by kernel_rfl) (by kernel_rfl) (fun _ _ _ h => h) hH rfl ?yu6 ?ru6
              case yu6 => intro W hSw; go_simp; try with_reducible rfl
              try simp only [Act.put, List.setIfInBounds_toArray, List.set_cons_zero, List.set_cons_succ]
              refine takeL 6 (v := ?vu7) rfl (by kernel_rfl) (by kernel_rfl) (by kernel_rfl) (by kernel_rfl) (by kernel_rfl) (fun _ _ _ h => h) hH rfl ?yu7 ?ru7
              case yu7 => intro W hSw; go_simp; try with_reducible rfl
              try simp only [Act.put, List.setIfInBounds_toArray, List.set_cons_zero, List.set_cons_succ]
              refine takeL 7 (v := ?vu8) rfl (by kernel_rfl) (by kernel_rfl) (by kernel_rfl) (by kernel_rfl) (by kernel_rfl) (fun _ _ _ h => h) hH rfl ?yu8 ?ru8
              case yu8 => intro W hSw; go_simp; try with_reducible rfl
              try simp only [Act.put, List.setIfInBounds_toArray, List.set_cons_zero, List.set_cons_succ]
              refine takeL 8 (v := ?vu9) rfl (by kernel_rfl) (by kernel_rfl) (by kernel_rfl) (by kernel_rfl) (by kernel_rfl) (fun _ _ _ h => h) hH rfl ?yu9 ?ru9
              case yu9 => intro W hSw; go_simp; try with_reducible rfl
              try simp only [Act.put, List.setIfInBounds_toArray, List.set_cons_zero, List.set_cons_succ]
              refine takeL 9 (v := ?vu10) rfl (by kernel_rfl) (by kernel_rfl) (by kernel_rfl) (by kernel_rfl) (by kernel_rfl) (fun _ _ _ h => h) hH rfl ?yu10 ?ru10
              case yu10 => intro W hSw; go_simp; try with_reducible rfl
              try simp only [Act.put, List.setIfInBounds_toArray, List.set_cons_zero, List.set_cons_succ]
              refine takeL 10 (v := ?vu11) rfl (by kernel_rfl) (by kernel_rfl) (by kernel_rfl) (by kernel_rfl) (by kernel_rfl) (fun _ _ _ h => h) hH rfl ?yu11 ?ru11
              case yu11 => intro W hSw; go_simp; try with_reducible rfl
              try simp only [Act.put, List.setIfInBounds_toArray, List.set_cons_zero, List.set_cons_succ]
              refine takeL 11 (v := ?vu12) rfl (by kernel_rfl) (by kernel_rfl) (by kernel_rfl) (by kernel_rfl) (by kernel_rfl) (fun _ _ _ h => h) hH rfl ?yu12 ?ru12
              case yu12 => intro W hSw; go_simp; try with_reducible rfl
              try simp only [Act.put, List.setIfInBounds_toArray, List.set_cons_zero, List.set_cons_succ]
              refine takeL 12 (v := ?vu13) rfl (by kernel_rfl) (by kernel_rfl) (by kernel_rfl) (by kernel_rfl) (by kernel_rfl) (fun _ _ _ h => h) hH rfl ?yu13 ?ru13
              case yu13 => intro W hSw; go_simp; try with_reducible rfl
              try simp only [Act.put, List.setIfInBounds_toArray, List.set_cons_zero, List.set_cons_succ]
              refine takeL 13 (v := ?vu14) rfl (by kernel_rfl) (by kernel_rfl) (by kernel_rfl) (by kernel_rfl) (by kernel_rfl) (fun _ _ _ h => h) hH rfl ?yu14 ?ru14
              case yu14 => intro W hSw; go_simp; try with_reducible rfl
              try simp only [Act.put, List.setIfInBounds_toArray, List.set_cons_zero, List.set_cons_succ]
              refine takeL 14 (v := ?vu15) rfl (by kernel_rfl) (by kernel_rfl) (by kernel_rfl) (by kernel_rfl) (by kernel_rfl) (fun _ _ _ h => h) hH rfl ?yu15 ?ru15
              case yu15 => intro W hSw; go_simp; try with_reducible rfl
              try simp only [Act.put, List.setIfInBounds_toArray, List.set_cons_zero, List.set_cons_succ]
              refine takeL 15 (v := ?vu16) rfl (by kernel_rfl) (by kernel_rfl) (by kernel_rfl) (by kernel_rfl) (by kernel_rfl) (fun _ _ _ h => h) hH rfl ?yu16 ?ru16
              case yu16 => intro W hSw; go_simp; try with_reducible rfl
              try simp only [Act.put, List.setIfInBounds_toArray, List.set_cons_zero, List.set_cons_succ]
              refine takeL 16 (v := ?vu17) rfl (by kernel_rfl) (by kernel_rfl) (by kernel_rfl) (by kernel_rfl) (by kernel_rfl) (fun _ _ _ h => h) hH rfl ?yu17 ?ru17
              case yu17 => intro W hSw; go_simp; try with_reducible rfl
              try simp only [Act.put, List.setIfInBounds_toArray, List.set_cons_zero, List.set_cons_succ]
              refine callL 17 rfl (by kernel_rfl) rfl (fun K hK => ?_)
              go_simp
              go_at_call 42
              refine (HF.out _ hH.1 (x.r - 1) p).mono ?_
              rintro e wz ⟨rfl, hbz⟩
              rw [Hfz.out]
              have HoZ := Lib.hid (HoD.out.below hbz)
              refine hK.out _ _ ⟨below_step hH.1 hH.1.size hbz, (hbz.cell (p := ⟨b, off + m * 4, none⟩) (Nat.lt_of_lt_of_le (World.block_lt_of_cell? _ _ hH.2.1) (Nat.le_refl _))).trans hH.2.1, (hbz.cell (p := ⟨b, off + m * 4 + 2, none⟩) (Nat.lt_of_lt_of_le (World.block_lt_of_cell? _ _ hH.2.2.1) (Nat.le_refl _))).trans hH.2.2.1, (hbz.cell (p := ⟨b2, off2 + k, none⟩) (Nat.lt_of_lt_of_le (World.block_lt_of_cell? _ _ hH.2.2.2) (Nat.le_refl _))).trans hH.2.2.2⟩ (fun hH => ?_)
              clear hK K
              try simp only [Act.put, List.setIfInBounds_toArray, List.set_cons_zero, List.set_cons_succ]
              have Hbz := Lib.hid hH.1
              refine takeL 18 (v := ?vu18) rfl (by kernel_rfl) (by kernel_rfl) (by kernel_rfl) (by kernel_rfl) (by kernel_rfl) (fun _ _ _ h => h) hH rfl ?yu18 ?ru18
              case yu18 => intro W hSw; go_simp; try with_reducible rfl
              try simp only [Act.put, List.setIfInBounds_toArray, List.set_cons_zero, List.set_cons_succ]
              obtain ⟨g9, cap9, e9, _, _, _, hbc9, hbf9⟩ := HoZ.out.row (by omega)
              simp only [Value.slice.injEq, Option.some.injEq, Addr.mk.injEq, and_true] at e9
              obtain ⟨rfl, h99, rfl⟩ := e9
              clear h99
              obtain ⟨y9, q4⟩ : ∃ y, wz.cell? ⟨w.heap.size, j, none⟩ = some (.bool y) := ⟨_, hbc9 j (by omega)⟩
              have q5 : wz.frozen? ⟨w.heap.size, j, none⟩ = false := hbf9 j
              clear hbc9 hbf9
              refine lastL rfl (by kernel_rfl) (by kernel_rfl) (by kernel_rfl) rfl (fun K hK => ?_)
              go_simp
              refine hK.out _ _ ?_
              clear hK K
              try simp only [Act.put]
              have Hst := Lib.hid (HoZ.out.store hbl'.symm j true)
              clear q4 q5
              go_wp2
              go_roundw
              case rel => exact ⟨k + 1, bs'.set j true, by omega, by go_num, by rw [List.length_set]; exact hbl', Hst.out.1, Hbz.out.grown Hst.out.2 Hbz.out.size (fun g' e => by cases e; exact Nat.le_refl _)⟩
              case measure => simp [intOf]; omega
            | false =>
              rw [hbv] at hin
              clear hbc hbf hbv
              go_wp2
              go_roundw
              case rel => exact ⟨m, _, bs', by omega, by first | rfl | go_num, rfl, hB0, hB1, hbl', Hown'.out, Hbel'.out⟩
              case measure => simp [intOf]
          · have hke : k = x.ps.length := by omega
            subst hke
            clear hbc hbf
            go_wp2
            go_roundw
            case rel => exact ⟨m, _, bs', by omega, by first | rfl | go_num, rfl, hB0, hB1, hbl', Hown'.out, Hbel'.out⟩
            case measure => simp [intOf]
      | false =>
        rw [hbq] at hinq
        clear hbq
        have Hst0 := Lib.hid (Hown.out.store hbl.symm m (decide (0 < (bv * 37 + 11) % 1009 % 3)))
        obtain ⟨W0, hW0⟩ : ∃ W0, W0 = wr := ⟨wr, rfl⟩
        subst hW0
        go_wp2
        have HbS := Lib.hid (Hbel.out.grown Hst0.out.2 Hbel.out.size (fun g' e => by cases e; exact Nat.le_refl _))
        have HoS := Lib.hid Hst0.out.1
        clear Hst0
        have hbl1 : (bs.set m (decide (0 < (bv * 37 + 11) % 1009 % 3))).length = g.length := by rw [List.length_set]; exact hbl
        generalize bs.set m (decide (0 < (bv * 37 + 11) % 1009 % 3)) = bs1 at *
        generalize W0.setCell ⟨w.heap.size, m, none⟩ (.bool (decide (0 < (bv * 37 + 11) % 1009 % 3))) = WS at *
        go_loopw [9] (fun i wr => ∃ (k : Nat) (bs' : List Bool), k ≤ x.ps.length ∧ i = .int .i64 k ∧ bs'.length = g.length ∧ OwnB 4 wr w.heap.size (.slice (some ⟨w.heap.size, 0, none⟩) g.length g.length) bs' ∧ Below w.heap.size w wr) (fun i _ => x.ps.length - (intOf i).toNat)
        case atStart => exact ⟨0, bs1, Nat.zero_le _, rfl, by first | assumption | (simpa using hbl) | omega, HoS.out, HbS.out⟩
        case round =>
          obtain ⟨k, bs', hk, rfl, hbl', hown', hbel'⟩ := hrel
          have Hbel' := Lib.hid hbel'; clear hbel'
          obtain ⟨b', off', e, c0, c1, ⟨pa, pc, c2, i2, _⟩, c3⟩ := Hcell.out wr Hbel'.out
          simp only [Option.some.injEq, Addr.mk.injEq, and_true] at e
          obtain ⟨rfl, rfl⟩ := e
          obtain ⟨g', cap', e, _, _, _, hbc, hbf⟩ := hown'.row (by omega)
          simp only [Value.slice.injEq, Option.some.injEq, Addr.mk.injEq, and_true] at e
          obtain ⟨rfl, h9, rfl⟩ := e
          clear h9
          have hin := hbc m (by omega)
          have Hown' := Lib.hid hown'; clear hown'
          by_cases hlt : k < x.ps.length
          · have hlt' : (k : Int) < (x.ps.length : Int) := by omega
            cases hbv : bs'[m] with
            | true =>
              rw [hbv] at hin
              obtain ⟨j, hjL, hfz⟩ := Hpm.out k hlt
              obtain ⟨b2, off2, rfl, hb2, hat2⟩ := i2.cell (by omega)
              have q3 := hat2 k hlt
              have hw2 : IntKind.i64.wrap (x.r - 1) = x.r - 1 := IntWalk.i64_in _ (by omega)
              have hj2 : (j : Int) < (g.length : Int) := by omega
              have hm2 : (m : Int) < (g.length : Int) := by omega
              have Hfz := Lib.hid (show gfZ c g (x.r - 1) x.ps[k] = j from (Hgf.out _ _).trans hfz)
              clear c1 c3 hfz hat2 hbc hbf hbv
              generalize x.ps[k] = p at *
              go_wp2_with fail
              refine wp_region_L 19 (fun W => Below w.heap.size w W ∧ W.cell? ⟨b, off + m * 4, none⟩ = some (.int .i64 x.r) ∧ W.cell? ⟨b, off + m * 4 + 2, none⟩ = some (.slice (some ⟨b2, off2, none⟩) x.ps.length pc) ∧ W.cell? ⟨b2, off2 + k, none⟩ = some (.int .i64 p)) (by kernel_rfl) ⟨Hbel'.out.drew, c0, c2, q3⟩ (fun hH => ?_)
              have HoD := Lib.hid (show OwnB 4 wr.drew w.heap.size (.slice (some ⟨w.heap.size, 0, none⟩) g.length g.length) bs' from Hown'.out)
              generalize wr.drew = wd at *
              refine takeL 0 (v := ?vv1) rfl (by kernel_rfl) (by kernel_rfl) (by kernel_rfl) (by kernel_rfl) (by kernel_rfl) (fun _ _ _ h => h) hH rfl ?yv1 ?rv1
              case yv1 => intro W hSw; go_simp; try with_reducible rfl
              try simp only [Act.put, List.setIfInBounds_toArray, List.set_cons_zero, List.set_cons_succ]
              refine takeL 1 (v := ?vv2) rfl (by kernel_rfl) (by kernel_rfl) (by kernel_rfl) (by kernel_rfl) (by kernel_rfl) (fun _ _ _ h => h) hH rfl ?yv2 ?rv2
              case yv2 => intro W hSw; go_simp; try with_reducible rfl
              try simp only [Act.put, List.setIfInBounds_toArray, List.set_cons_zero, List.set_cons_succ]
              refine takeL 2 (v := ?vv3) rfl (by kernel_rfl) (by kernel_rfl) (by kernel_rfl) (by kernel_rfl) (by kernel_rfl) (fun _ _ _ h => h) hH rfl ?yv3 ?rv3
              case yv3 => intro W hSw; go_simp; try with_reducible rfl
              try simp only [Act.put, List.setIfInBounds_toArray, List.set_cons_zero, List.set_cons_succ]
              refine takeL 3 (v := ?vv4) rfl (by kernel_rfl) (by kernel_rfl) (by kernel_rfl) (by kernel_rfl) (by kernel_rfl) (fun _ _ _ h => h) hH rfl ?yv4 ?rv4
              case yv4 => intro W hSw; go_simp; try with_reducible rfl
              try simp only [Act.put, List.setIfInBounds_toArray, List.set_cons_zero, List.set_cons_succ]
              refine takeL 4 (v := ?vv5) rfl (by kernel_rfl) (by kernel_rfl) (by kernel_rfl) (by kernel_rfl) (by kernel_rfl) (fun _ _ _ h => h) hH rfl ?yv5 ?rv5
              case yv5 => intro W hSw; go_simp; try with_reducible rfl
              try simp only [Act.put, List.setIfInBounds_toArray, List.set_cons_zero, List.set_cons_succ]
              refine takeL 5 (v := ?vv6) rfl (by kernel_rfl) (by kernel_rfl) (by kernel_rfl) (by kernel_rfl) (by kernel_rfl) (fun _ _ _ h => h) hH rfl ?yv6 ?rv6
              case yv6 => intro W hSw; go_simp; try with_reducible rfl
              try simp only [Act.put, List.setIfInBounds_toArray, List.set_cons_zero, List.set_cons_succ]
              refine takeL 6 (v := ?vv7) rfl (by kernel_rfl) (by kernel_rfl) (by kernel_rfl) (by kernel_rfl) (by kernel_rfl) (fun _ _ _ h => h) hH rfl ?yv7 ?rv7
              case yv7 => intro W hSw; go_simp; try with_reducible rfl
              try simp only [Act.put, List.setIfInBounds_toArray, List.set_cons_zero, List.set_cons_succ]
              refine takeL 7 (v := ?vv8) rfl (by kernel_rfl) (by kernel_rfl) (by kernel_rfl) (by kernel_rfl) (by kernel_rfl) (fun _ _ _ h => h) hH rfl ?yv8 ?rv8
              case yv8 => intro W hSw; go_simp; try with_reducible rfl
              try simp only [Act.put, List.setIfInBounds_toArray, List.set_cons_zero, List.set_cons_succ]
              refine takeL 8 (v := ?vv9) rfl (by kernel_rfl) (by kernel_rfl) (by kernel_rfl) (by kernel_rfl) (by kernel_rfl) (fun _ _ _ h => h) hH rfl ?yv9 ?rv9
              case yv9 => intro W hSw; go_simp; try with_reducible rfl
              try simp only [Act.put, List.setIfInBounds_toArray, List.set_cons_zero, List.set_cons_succ]
              refine takeL 9 (v := ?vv10) rfl (by kernel_rfl) (by kernel_rfl) (by kernel_rfl) (by kernel_rfl) (by kernel_rfl) (fun _ _ _ h => h) hH rfl ?yv10 ?rv10
              case yv10 => intro W hSw; go_simp; try with_reducible rfl
              try simp only [Act.put, List.setIfInBounds_toArray, List.set_cons_zero, List.set_cons_succ]
              refine takeL 10 (v := ?vv11) rfl (by kernel_rfl) (by kernel_rfl) (by kernel_rfl) (by kernel_rfl) (by kernel_rfl) (fun _ _ _ h => h) hH rfl ?yv11 ?rv11
              case yv11 => intro W hSw; go_simp; try with_reducible rfl
              try simp only [Act.put, List.setIfInBounds_toArray, List.set_cons_zero, List.set_cons_succ]
              refine takeL 11 (v := ?vv12) rfl (by kernel_rfl) (by kernel_rfl) (by kernel_rfl) (by kernel_rfl) (by kernel_rfl) (fun _ _ _ h => h) hH rfl ?yv12 ?rv12
              case yv12 => intro W hSw; go_simp; try with_reducible rfl
              try simp only [Act.put, List.setIfInBounds_toArray, List.set_cons_zero, List.set_cons_succ]
              refine takeL 12 (v := ?vv13) rfl (by kernel_rfl) (by kernel_rfl) (by kernel_rfl) (by kernel_rfl) (by kernel_rfl) (fun _ _ _ h => h) hH rfl ?yv13 ?rv13
              case yv13 => intro W hSw; go_simp; try with_reducible rfl
              try simp only [Act.put, List.setIfInBounds_toArray, List.set_cons_zero, List.set_cons_succ]
              refine takeL 13 (v := ?vv14) rfl (by kernel_rfl) (by kernel_rfl) (by kernel_rfl) (by kernel_rfl) (by kernel_rfl) (fun _ _ _ h => h) hH rfl ?yv14 ?rv14
              case yv14 => intro W hSw; go_simp; try with_reducible rfl
              try simp only [Act.put, List.setIfInBounds_toArray, List.set_cons_zero, List.set_cons_succ]
              refine takeL 14 (v := ?vv15) rfl (by kernel_rfl) (by kernel_rfl) (by kernel_rfl) (by kernel_rfl) (by kernel_rfl) (fun _ _ _ h => h) hH rfl ?yv15 ?rv15
              case yv15 => intro W hSw; go_simp; try with_reducible rfl
              try simp only [Act.put, List.setIfInBounds_toArray, List.set_cons_zero, List.set_cons_succ]
              refine takeL 15 (v := ?vv16) rfl (by kernel_rfl) (by kernel_rfl) (by kernel_rfl) (by kernel_rfl) (by kernel_rfl) (fun _ _ _ h => h) hH rfl ?yv16 ?rv16
              case yv16 => intro W hSw; go_simp; try with_reducible rfl
              try simp only [Act.put, List.setIfInBounds_toArray, List.set_cons_zero, List.set_cons_succ]
              refine takeL 16 (v := ?vv17) rfl (by kernel_rfl) (by kernel_rfl) (by kernel_rfl) (by kernel_rfl) (by kernel_rfl) (fun _ _ _ h => h) hH rfl ?yv17 ?rv17
              case yv17 => intro W hSw; go_simp; try with_reducible rfl
              try simp only [Act.put, List.setIfInBounds_toArray, List.set_cons_zero, List.set_cons_succ]
              refine callL 17 rfl (by kernel_rfl) rfl (fun K hK => ?_)
              go_simp
              go_at_call 42
              refine (HF.out _ hH.1 (x.r - 1) p).mono ?_
              rintro e wz ⟨rfl, hbz⟩
              rw [Hfz.out]
              have HoZ := Lib.hid (HoD.out.below hbz)
              refine hK.out _ _ ⟨below_step hH.1 hH.1.size hbz, (hbz.cell (p := ⟨b, off + m * 4, none⟩) (Nat.lt_of_lt_of_le (World.block_lt_of_cell? _ _ hH.2.1) (Nat.le_refl _))).trans hH.2.1, (hbz.cell (p := ⟨b, off + m * 4 + 2, none⟩) (Nat.lt_of_lt_of_le (World.block_lt_of_cell? _ _ hH.2.2.1) (Nat.le_refl _))).trans hH.2.2.1, (hbz.cell (p := ⟨b2, off2 + k, none⟩) (Nat.lt_of_lt_of_le (World.block_lt_of_cell? _ _ hH.2.2.2) (Nat.le_refl _))).trans hH.2.2.2⟩ (fun hH => ?_)
              clear hK K
              try simp only [Act.put, List.setIfInBounds_toArray, List.set_cons_zero, List.set_cons_succ]
              have Hbz := Lib.hid hH.1
              refine takeL 18 (v := ?vv18) rfl (by kernel_rfl) (by kernel_rfl) (by kernel_rfl) (by kernel_rfl) (by kernel_rfl) (fun _ _ _ h => h) hH rfl ?yv18 ?rv18
              case yv18 => intro W hSw; go_simp; try with_reducible rfl
              try simp only [Act.put, List.setIfInBounds_toArray, List.set_cons_zero, List.set_cons_succ]
              obtain ⟨g9, cap9, e9, _, _, _, hbc9, hbf9⟩ := HoZ.out.row (by omega)
              simp only [Value.slice.injEq, Option.some.injEq, Addr.mk.injEq, and_true] at e9
              obtain ⟨rfl, h99, rfl⟩ := e9
              clear h99
              obtain ⟨y9, q4⟩ : ∃ y, wz.cell? ⟨w.heap.size, j, none⟩ = some (.bool y) := ⟨_, hbc9 j (by omega)⟩
              have q5 : wz.frozen? ⟨w.heap.size, j, none⟩ = false := hbf9 j
              clear hbc9 hbf9
              refine lastL rfl (by kernel_rfl) (by kernel_rfl) (by kernel_rfl) rfl (fun K hK => ?_)
              go_simp
              refine hK.out _ _ ?_
              clear hK K
              try simp only [Act.put]
              have Hst := Lib.hid (HoZ.out.store hbl'.symm j true)
              clear q4 q5
              go_wp2
              go_roundw
              case rel => exact ⟨k + 1, bs'.set j true, by omega, by go_num, by rw [List.length_set]; exact hbl', Hst.out.1, Hbz.out.grown Hst.out.2 Hbz.out.size (fun g' e => by cases e; exact Nat.le_refl _)⟩
              case measure => simp [intOf]; omega
            | false =>
              rw [hbv] at hin
              clear hbc hbf hbv
              go_wp2
              go_roundw
              case rel => exact ⟨m, _, bs', by omega, by first | rfl | go_num, rfl, hB0, hB1, hbl', Hown'.out, Hbel'.out⟩
              case measure => simp [intOf]
          · have hke : k = x.ps.length := by omega
            subst hke
            clear hbc hbf
            go_wp2
            go_roundw
            case rel => exact ⟨m, _, bs', by omega, by first | rfl | go_num, rfl, hB0, hB1, hbl', Hown'.out, Hbel'.out⟩
            case measure => simp [intOf]

end Go.Proofs.YtjekgjlnaochiabDoor
