/- Texts that the laws of this folder share, one behind another; no conditions. -/
import Derived.Test.YteglefchkecfjaaRows
import Derived.Test.YteglefchkecfjaaBu1
import Derived.Test.YteglefchkecfjaaBu2
import Derived.Test.YteglefchkecfjaaBu0
import Derived.Maps.AppendAt

/- The draws of graphs: what is drawn is a graph in new memory, each by a walk of its text; condition: at most 10^5 picks before. -/
namespace Go.Proofs.Yteglefchkecfjaa
open Go.RowKit

theorem own_litG (E : TypeId) (w : World) {B : Nat} (xs : List Int) (hB : B ≤ w.heap.size) (hm : xs.length ≤ maxLen) :
    Own E (w.alloc (.cells (xs.map (Value.int .i64)).toArray E)) B (.slice (some ⟨w.heap.size, 0, none⟩) xs.length xs.length) xs :=
  ⟨by simp, .inr ⟨w.heap.size, xs.length, _, rfl, hB, heap_alloc_new w _, Nat.le_refl _, hm, by simp, by simp [List.take_of_length_le]⟩⟩

theorem drawGoodV (R p : Nat) (w : World) (hp : p ≤ 1000000) (hr : Rdr w R p) (hR : R < w.heap.size) :
    Calls Try.prog 105 #[.pointer (some ⟨R, 0, none⟩)] w fun e w' => ∃ v xs p', e = .returned v ∧ Own 3 w' w.heap.size v xs ∧ validB xs = true ∧ Rdr w' R p' ∧ p' ≤ p + 20 ∧ w.grownBy w' (some R) := by
  go_enter Try.func105, Try.ntmps105
  go_wp2_with fail
  refine (drawCommittee R p _ hp hr hR).mono ?_
  rintro e w2 ⟨v, c, p', rfl, hown, hcl, hsm, hr2, hp', hg2⟩
  obtain ⟨a, cap, rfl, hi, _⟩ := hown.ints
  have hz := hg2.size
  have hv' := spec_CommitteeValid a cap c w2 (by omega) hi
  have Hr2 := Lib.hid hr2; clear hr2
  have Hg2 := Lib.hid hg2; clear hg2
  cases hv : validB c with
  | true =>
    rw [hv] at hv'
    have Hvv := Lib.hid hv
    have Hv := Lib.hid hv'; clear hv' hv hi
    have Hown := Lib.hid hown; clear hown
    go_wp2_with fail
    refine Hv.out.mono ?_
    rintro e w3 ⟨rfl, rfl⟩
    go_wp2
    go_ret
    exact ⟨_, c, p', rfl, Hown.out, Hvv.out, Hr2.out, hp', Hg2.out⟩
  | false =>
    rw [hv] at hv'
    have Hv := Lib.hid hv'; clear hv' hv hi hown
    go_wp2_with fail
    refine Hv.out.mono ?_
    rintro e w3 ⟨rfl, rfl⟩
    go_wp2
    go_ret
    exact ⟨_, [1, 1, 1, 1], p', rfl, own_litG 3 w2 [1, 1, 1, 1] hz (by unfold maxLen; simp), by decide, Hr2.out.alloc _, hp', grownBy_trans Hg2.out (World.grownBy_alloc _ _ _)⟩

/-- Valid vertices in order. -/
def GOk (c : List Int) (g : List Vx) : Prop := (∀ x ∈ g, vtxB c x = true) ∧ g.Pairwise fun a b => befB a b = true
theorem gOk_nil (c : List Int) : GOk c [] := ⟨by simp, .nil⟩
theorem gOk_push {c : List Int} {g : List Vx} {x : Vx} (h : GOk c g) (hx : vtxB c x = true) (hb : ∀ y ∈ g, y.r < x.r ∨ y.r = x.r ∧ y.a < x.a) : GOk c (g ++ [x]) := by
  refine ⟨fun y hy => ?_, List.pairwise_append.2 ⟨h.2, by simp, fun a ha b hb' => ?_⟩⟩
  · rcases List.mem_append.1 hy with hy | hy
    · exact h.1 y hy
    · simp at hy; subst hy; exact hx
  · simp at hb'; subst hb'
    exact decide_eq_true (hb a ha)
theorem gOk_auth {c : List Int} {g : List Vx} (h : GOk c g) (r : Int) : (authZ g r).Pairwise (· < ·) ∧ ∀ m ∈ authZ g r, 0 ≤ m ∧ m < c.length := by
  refine ⟨?_, fun m hm => ?_⟩
  · unfold authZ
    rw [List.pairwise_map]
    refine List.Pairwise.imp_of_mem (R := fun a b => befB a b = true) (fun {a b} ha hb hab => ?_) (h.2.filter _)
    have ha := of_decide_eq_true (List.mem_filter.1 ha).2
    have hb := of_decide_eq_true (List.mem_filter.1 hb).2
    have := of_decide_eq_true hab
    omega
  · unfold authZ at hm
    obtain ⟨x, hx, rfl⟩ := List.mem_map.1 hm
    exact vtx_author (h.1 x (List.mem_filter.1 hx).1)
theorem members_sub {n : Nat} {H ps : List Int} (h : H.Pairwise (· < ·) ∧ ∀ m ∈ H, 0 ≤ m ∧ m < n) (hs : ps.Sublist H) : membersB n ps = true :=
  members_pairwise (h.1.sublist hs) fun m hm => h.2 m (hs.subset hm)

theorem OwnR.apartI {E E' Ei : TypeId} {sz : Nat} {w : World} {B B' hi : Nat} {v u : Value} {es : List (List Fd)} {xs : List Int} (h : OwnR E Ei sz w B hi v es) (h' : Own E' w B' u xs) (hE : E ≠ E') : u.ownBlock = none ∨ u.ownBlock ≠ v.ownBlock := by
  obtain ⟨cs, h1, _⟩ := h.row
  rcases h'.2 with ⟨rfl, _⟩ | ⟨g, cap, cur, rfl, _, hg, _⟩
  · exact .inl rfl
  · rcases h1.2 with ⟨rfl, _⟩ | ⟨g', cap', cur', rfl, _, hg', _⟩
    · exact .inr (fun e => by cases e)
    · refine .inr fun e => hE ?_
      have e' : g = g' := by cases e; rfl
      subst e'
      rw [hg] at hg'
      cases hg'
      rfl

set_option maxRecDepth 8000 in
set_option maxHeartbeats 4000000 in
theorem drawGraph (R p : Nat) (rounds : Int) (w : World) (ac : Option Addr) (capc : Nat) (c : List Int) (hp : p ≤ 100000) (hn0 : 0 ≤ rounds) (hn1 : rounds ≤ 40) (hv : validB c = true) (hr : Rdr w R p) (hR : R < w.heap.size) (hc : ∀ W, w.grownBy W (some R) → IntsAt W ac c) :
    Calls Try.prog 106 #[.pointer (some ⟨R, 0, none⟩), .slice ac c.length capc, .int .i64 rounds] w fun e w' => ∃ v g p', e = .returned v ∧ OwnR 61 3 4 w' w.heap.size w'.heap.size v (g.map Vx.fd) ∧ GOk c g ∧ g.length ≤ 280 ∧ Rdr w' R p' ∧ p' ≤ p + 80000 ∧ w.grownBy w' (some R) := by
  obtain ⟨hc1, hc7⟩ := validB_len hv
  have Hr0 := Lib.hid (hr.alloc (.cells #[] 61)); clear hr
  have Hg0 := Lib.hid (World.grownBy_alloc w (.cells #[] 61) (some R))
  have hv0 : OwnR 61 3 4 (w.alloc (.cells #[] 61)) w.heap.size (w.alloc (.cells #[] 61)).heap.size (.slice (some ⟨w.heap.size, 0, none⟩) 0 0) [] := .nil (World.ownsRow_made w #[] 0 (Nat.le_refl _) (by simp) (by simp)) (fun g e => by cases e; simp)
  have Hv0 := Lib.hid hv0; clear hv0
  have Hc := Lib.hid hc; clear hc
  obtain ⟨rounds, rfl⟩ := Int.eq_ofNat_of_zero_le hn0
  have HWt := Lib.hid (fun ps am cap W (hm : membersB c.length ps = true) (hl : ps.length ≤ 1099511627776) h h' => spec_l1Weight ac capc c am cap ps W hv hm hl h h')
  have HQt := Lib.hid (fun W h => spec_l1Quorum ac capc c W hv h)
  have HVx := Lib.hid (fun r a d pa pc ps W (hl : ps.length ≤ 1099511627776) h h' => spec_l11Vertex ac capc c r a d pa pc ps W hv hl h h')
  go_enter Try.func106, Try.ntmps106
  go_wp2_with fail
  go_loopw [7, 8] (fun v i wr => ∃ (n : Nat) (g : List Vx) (q : Nat), n ≤ rounds ∧ i = .int .i64 n ∧ OwnR 61 3 4 wr w.heap.size wr.heap.size v (g.map Vx.fd) ∧ GOk c g ∧ (∀ x ∈ g, x.r < n) ∧ g.length ≤ 7 * n ∧ Rdr wr R q ∧ q ≤ p + 2000 * n ∧ w.grownBy wr (some R)) (fun _ i _ => rounds - (intOf i).toNat)
  case atStart => exact ⟨0, [], p, Nat.zero_le _, rfl, Hv0.out, gOk_nil c, by simp, by simp, Hr0.out, by omega, Hg0.out⟩
  case round =>
    obtain ⟨n, g0, q0, hn, rfl, hown, hok, hlt0, hgl, hrd, hq, hgr⟩ := hrel
    have Hown := Lib.hid hown; clear hown
    have Hrd := Lib.hid hrd; clear hrd
    have Hgr := Lib.hid hgr; clear hgr
    have Hok := Lib.hid hok; clear hok
    have Hlt0 := Lib.hid hlt0; clear hlt0
    by_cases hlt : n < rounds
    case neg =>
      have hn40 : n ≤ 40 := by omega
      go_wp2
      go_ret
      exact ⟨_, g0, q0, rfl, Hown.out, Hok.out, by omega, Hrd.out, by omega, Hgr.out⟩
    case pos =>
    obtain ⟨fo, hro⟩ := Hown.out.reads
    have hwn : IntKind.i64.wrap ((n : Int) - 1) = n - 1 := IntWalk.i64_in _ (by omega)
    have Hau := Lib.hid (spec_l11Authors g0 _ fo ((n : Int) - 1) wr (by omega) hro); clear hro
    have Hasc := Lib.hid (gOk_auth Hok.out ((n : Int) - 1))
    have hHl := authZ_len g0 ((n : Int) - 1)
    generalize authZ g0 ((n : Int) - 1) = H at *
    go_wp2_with fail
    refine Hau.out.mono ?_
    rintro e w2 ⟨uh, rfl, hoh, hb2⟩
    have hs2 := hb2.size
    have Hown2 := Lib.hid (Hown.out.below hb2 (Nat.le_refl _))
    have Hrd2 := Lib.hid (Hrd.out.kept (below_grown hb2) (fun g e => by cases e))
    have Hgr2 := Lib.hid (grown_row Hgr.out (below_grown hb2) (fun g e => by cases e))
    have hRw := Hgr.out.size
    have Hoh := Lib.hid (hoh.mono hRw)
    obtain ⟨ah, ch, rfl, hih, hsh, _⟩ := hoh.src
    clear hb2 hoh hih hsh
    go_wp2
    go_loopw [7, 10] (fun v i wr => ∃ (a : Nat) (g : List Vx) (q : Nat), a ≤ c.length ∧ i = .int .i64 a ∧ OwnR 61 3 4 wr w.heap.size wr.heap.size v (g.map Vx.fd) ∧ GOk c g ∧ (∀ x ∈ g, x.r < n ∨ x.r = n ∧ x.a < a) ∧ g.length ≤ 7 * n + a ∧ Rdr wr R q ∧ q ≤ p + 2000 * n + 283 * a ∧ w.grownBy wr (some R) ∧ Own 3 wr w.heap.size (.slice ah H.length ch) H ∧ w2.heap.size ≤ wr.heap.size) (fun _ i _ => c.length - (intOf i).toNat)
    case atStart => exact ⟨0, g0, q0, Nat.zero_le _, rfl, Hown2.out.mono hs2, Hok.out, fun x hx => .inl (Hlt0.out x hx), by omega, Hrd2.out, by omega, Hgr2.out, Hoh.out, Nat.le_refl _⟩
    case round =>
      obtain ⟨a, g, q, ha, rfl, hown, hok, hord, hgl, hrd, hq, hgr, hoh, hsz⟩ := hrel
      have Hown := Lib.hid hown; clear hown
      have Hrd := Lib.hid hrd; clear hrd
      have Hgr := Lib.hid hgr; clear hgr
      have Hok := Lib.hid hok; clear hok
      have Hord := Lib.hid hord; clear hord
      have Hoh := Lib.hid hoh; clear hoh
      by_cases hal : a < c.length
      case neg =>
        have hac : a = c.length := by omega
        subst hac
        go_wp2
        go_roundw
        case rel => exact ⟨n + 1, g, q, by omega, by go_num, Hown.out, Hok.out, fun x hx => by have := Hord.out x hx; omega, by omega, Hrd.out, by omega, Hgr.out⟩
        case measure => simp [intOf]; omega
      case pos =>
      go_wp2_with fail
      refine (pick_any R 6 q _ (by omega) Hrd.out (by omega)).mono ?_
      rintro e w3 ⟨z, rfl, hz0, hz1, hr3, hg3⟩
      have hs3 := hg3.size
      have Hrd3 := Lib.hid hr3; clear hr3
      have Hgr3 := Lib.hid (grownBy_trans Hgr.out hg3)
      have Hown3 := Lib.hid ((Hown.out.same fun b h1 h2 => hg3.block b (by omega) (fun e => by cases e; omega)).mono hs3)
      have Hoh3 := Lib.hid (Hoh.out.kept hg3 (.inr fun e => by have := (Hoh.out.lt R e).1; omega))
      clear hg3
      by_cases hz : z = 0
      · subst hz
        go_wp2
        go_roundw
        case rel => exact ⟨a + 1, g, q + 1, by omega, by go_num, Hown3.out, Hok.out, fun x hx => by have := Hord.out x hx; omega, by omega, Hrd3.out, by omega, Hgr3.out, Hoh3.out, by omega⟩
        case measure => simp [intOf]; omega
      have hz' : (z == 0) = false := by simpa using hz
      clear hz hz0 hz1 Hrd Hgr Hown Hoh
      have hwa : IntKind.i64.wrap (31 * (n : Int)) = 31 * n := IntWalk.i64_in _ (by omega)
      have hwb : IntKind.i64.wrap (7 * (a : Int)) = 7 * a := IntWalk.i64_in _ (by omega)
      have hwc : IntKind.i64.wrap (31 * (n : Int) + 7 * (a : Int)) = 31 * n + 7 * a := IntWalk.i64_in _ (by omega)
      go_wp2_with fail
      refine (pick_any R 90 (q + 1) _ (by omega) (Hrd3.out.alloc _) (by omega)).mono ?_
      rintro e w5 ⟨y, rfl, hy0, hy1, hr5, hg5⟩
      have ho5 := (own_empty 3 w3 (Nat.le_refl _)).kept hg5 (.inr fun e => by have := Hrd3.out.lt; simp [Value.ownBlock] at e; omega)
      have hg5' := grownBy_trans (World.grownBy_alloc w3 (.cells #[] 3) (some R)) hg5
      have hs5 : w3.heap.size + 1 ≤ w5.heap.size := by have := hg5.size; simpa using this
      have Hrd5 := Lib.hid hr5; clear hr5
      have Ho5 := Lib.hid ho5; clear ho5
      have Hg5 := Lib.hid hg5'; clear hg5' hg5
      have hwd : IntKind.i64.wrap (31 * (n : Int) + 7 * (a : Int) + y) = 31 * n + 7 * a + y := IntWalk.i64_in _ (by omega)
      obtain ⟨D, hD⟩ : ∃ D, (31 * (n : Int) + 7 * (a : Int) + y).tmod 991 = D := ⟨_, rfl⟩
      have hDb : -9223372036854775808 ≤ D ∧ D ≤ 9223372036854775807 := by
        rw [← hD, Int.tmod_eq_emod_of_nonneg (by omega)]; omega
      have hs0 := Str.new w5 61 #[.int .i64 n, .int .i64 a, .slice (some ⟨w3.heap.size, 0, none⟩) 0 0, .int .i64 D]
      have hgA := grownBy_trans Hg5.out (World.grownBy_alloc w5 (.cells #[.int .i64 n, .int .i64 a, .slice (some ⟨w3.heap.size, 0, none⟩) 0 0, .int .i64 D] 61) (some R))
      have hoA := Ho5.out.alloc (.cells #[.int .i64 n, .int .i64 a, .slice (some ⟨w3.heap.size, 0, none⟩) 0 0, .int .i64 D] 61)
      have hrA := Hrd5.out.alloc (.cells #[.int .i64 n, .int .i64 a, .slice (some ⟨w3.heap.size, 0, none⟩) 0 0, .int .i64 D] 61)
      have HsA := Lib.hid hs0; clear hs0
      have HgA := Lib.hid hgA; clear hgA
      have HoA := Lib.hid hoA; clear hoA
      have HrA := Lib.hid hrA; clear hrA Hrd5 Ho5 Hg5
      have hw3 := Hgr3.out.size
      go_wp2
      clear hwa hwb hwc hwd hD
      generalize w5.alloc (.cells #[.int .i64 n, .int .i64 a, .slice (some ⟨w3.heap.size, 0, none⟩) 0 0, .int .i64 D] 61) = w6 at *
      generalize w5.heap.size = Bv at *
      go_loopw [12] (fun i wr => ∃ (k : Nat) (ps : List Int) (vp : Value) (q2 : Nat), k ≤ H.length ∧ i = .int .i64 k ∧ ps.Sublist (H.take k) ∧ Str wr Bv 61 #[.int .i64 n, .int .i64 a, vp, .int .i64 D] ∧ Own 3 wr w3.heap.size vp ps ∧ vp.ownBlock ≠ some Bv ∧ Rdr wr R q2 ∧ q2 ≤ q + 2 + k ∧ w3.grownBy wr (some R)) (fun i _ => H.length - (intOf i).toNat)
      case atStart => exact ⟨0, [], _, q + 1 + 1, Nat.zero_le _, rfl, by simp, HsA.out, HoA.out, by simp [Value.ownBlock]; omega, HrA.out, by omega, HgA.out⟩
      case round =>
        obtain ⟨k, ps, vp, q2, hk, rfl, hsub, hst, hop, hne, hrd, hq2, hg3r⟩ := hrel
        have Hst := Lib.hid hst; clear hst
        have Hop := Lib.hid hop; clear hop
        have Hrd := Lib.hid hrd; clear hrd
        have Hg3r := Lib.hid hg3r; clear hg3r
        have Hsub := Lib.hid hsub; clear hsub
        have Hne := Lib.hid hne; clear hne
        have hBw := Hst.out.lt
        have Hohr := Lib.hid (Hoh3.out.kept Hg3r.out (.inr fun e => by have := (Hoh3.out.lt R e).1; omega))
        by_cases hlt2 : k < H.length
        · obtain ⟨bh, ch', e, hbB, hbs, _, hcells, _⟩ := Hohr.out.row (by omega)
          simp only [Value.slice.injEq, true_and] at e
          obtain ⟨rfl, rfl⟩ := e
          have hch := hcells k hlt2
          have hb3 : bh < w3.heap.size := by
            exact (Hoh3.out.lt bh rfl).2
          clear hcells
          by_cases hn0 : n = 0
          · exfalso; omega
          have hnn : decide ((0 : Int) < (n : Int)) = true := decide_eq_true (by omega)
          have hnn' : (0 : Int) < (n : Int) := by omega
          clear hn0
          go_wp2_with fail
          refine (pick_any R 8 q2 _ (by omega) Hrd.out (by omega)).mono ?_
          rintro e w7 ⟨u, rfl, hu0, hu1, hr7, hg7⟩
          have hs7 := hg7.size
          have Hrd7 := Lib.hid hr7; clear hr7
          have Hst7 := Lib.hid (Hst.out.kept hg7 (by simp; omega))
          have Hop7 := Lib.hid (Hop.out.kept hg7 (.inr fun e => by have := (Hop.out.lt R e).1; have := Hgr3.out.size; omega))
          have Hg37 := Lib.hid (grownBy_trans Hg3r.out hg7)
          have hch7 : w7.cell? ⟨bh, k, none⟩ = some (.int .i64 H[k]) := hg7.cell hch (by simp; omega)
          clear hg7 hch
          by_cases hu : 0 < u
          · have hud : decide ((0 : Int) < u) = true := decide_eq_true hu
            have Hsub' := Lib.hid (show (ps ++ [H[k]]).Sublist (H.take (k + 1)) by
              rw [List.take_succ_eq_append_getElem hlt2]
              exact Hsub.out.append (List.Sublist.refl _))
            generalize H[k] = x at *
            have h2 : w7.drew.cell? ⟨Bv, 2, none⟩ = some vp := Hst7.out.cell 2 (v := vp) rfl
            have h3 : w7.drew.cell? ⟨bh, k, none⟩ = some (.int .i64 x) := hch7
            go_wp2_with fail
            refine wp_region_L 9 (fun w' => w'.cell? ⟨Bv, 2, none⟩ = some vp ∧ w'.cell? ⟨bh, k, none⟩ = some (.int .i64 x)) (by kernel_rfl) ⟨h2, h3⟩ (fun hH => ?_)
            refine takeL 0 (v := ?v0) rfl (by kernel_rfl) (by kernel_rfl) (by kernel_rfl) (by kernel_rfl) (by kernel_rfl) (fun _ _ _ h => h) hH rfl ?y0 ?r0
            case y0 => intro W hSw; go_simp; try with_reducible rfl
            try simp only [Act.put, List.setIfInBounds_toArray, List.set_cons_zero, List.set_cons_succ]
            refine takeL 1 (v := ?v1) rfl (by kernel_rfl) (by kernel_rfl) (by kernel_rfl) (by kernel_rfl) (by kernel_rfl) (fun _ _ _ h => h) hH rfl ?y1 ?r1
            case y1 => intro W hSw; go_simp; try with_reducible rfl
            try simp only [Act.put, List.setIfInBounds_toArray, List.set_cons_zero, List.set_cons_succ]
            refine takeL 2 (v := ?v2) rfl (by kernel_rfl) (by kernel_rfl) (by kernel_rfl) (by kernel_rfl) (by kernel_rfl) (fun _ _ _ h => h) hH rfl ?y2 ?r2
            case y2 => intro W hSw; go_simp; try with_reducible rfl
            try simp only [Act.put, List.setIfInBounds_toArray, List.set_cons_zero, List.set_cons_succ]
            refine takeL 3 (v := ?v3) rfl (by kernel_rfl) (by kernel_rfl) (by kernel_rfl) (by kernel_rfl) (by kernel_rfl) (fun _ _ _ h => h) hH rfl ?y3 ?r3
            case y3 => intro W hSw; go_simp; try with_reducible rfl
            try simp only [Act.put, List.setIfInBounds_toArray, List.set_cons_zero, List.set_cons_succ]
            refine takeL 4 (v := ?v4) rfl (by kernel_rfl) (by kernel_rfl) (by kernel_rfl) (by kernel_rfl) (by kernel_rfl) (fun _ _ _ h => h) hH rfl ?y4 ?r4
            case y4 => intro W hSw; go_simp; try with_reducible rfl
            try simp only [Act.put, List.setIfInBounds_toArray, List.set_cons_zero, List.set_cons_succ]
            refine takeL 5 (v := ?v5) rfl (by kernel_rfl) (by kernel_rfl) (by kernel_rfl) (by kernel_rfl) (by kernel_rfl) (fun _ _ _ h => h) hH rfl ?y5 ?r5
            case y5 => intro W hSw; go_simp; try with_reducible rfl
            try simp only [Act.put, List.setIfInBounds_toArray, List.set_cons_zero, List.set_cons_succ]
            refine callL 6 rfl (by kernel_rfl) rfl (fun K hK => ?_)
            go_simp
            refine hK.out _ _ ⟨(World.grownBy_alloc w7.drew _ none).cell h2 (by simp), (World.grownBy_alloc w7.drew _ none).cell h3 (by simp)⟩ (fun hH => ?_)
            clear hK K
            try simp only [Act.put, List.setIfInBounds_toArray, List.set_cons_zero, List.set_cons_succ]
            have hown7 : Own 3 w7.drew w3.heap.size vp ps := Hop7.out
            have hst7 : Str w7.drew Bv 61 #[.int .i64 n, .int .i64 a, vp, .int .i64 D] := Hst7.out
            have hpl : ps.length ≤ 1099511627776 := by have := Hsub.out.length_le; rw [List.length_take] at this; omega
            have hB7 : w3.heap.size ≤ w7.drew.heap.size := Hg37.out.size
            have hg37 : w3.grownBy w7.drew (some R) := grownBy_drewN Hg37.out 1
            have hrd7 : Rdr w7.drew R (q2 + 1) := Hrd7.out.drewN 1
            refine callL 7 rfl (by kernel_rfl) rfl (fun K hK => ?_)
            refine op_push_at TIg w7.drew (.tmp 59) (.tmp 64) rfl w3.heap.size vp ps x rfl hown7 hpl rfl hB7 ?_
            intro v9 w9 hown9 hg9 hat9
            obtain ⟨g9, c9, rfl⟩ := own_succ hown9
            have s9 := hst7.kept hg9 (fun e => Hne.out e.symm)
            have h9 := s9.cell 2 (v := vp) rfl
            have f9 := s9.frozen 2
            have h39 : w9.cell? ⟨bh, k, none⟩ = some (.int .i64 x) := hg9.cell h3 (by intro e; have h' : w3.heap.size ≤ bh := (hown7.lt _ e.symm).1; omega)
            refine hK.out _ _ ⟨h9, h39⟩ (fun hH => ?_)
            clear hK K
            try simp only [Act.put, List.setIfInBounds_toArray, List.set_cons_zero, List.set_cons_succ]
            refine takeL 8 (v := ?v8) rfl (by kernel_rfl) (by kernel_rfl) (by kernel_rfl) (by kernel_rfl) (by kernel_rfl) (fun _ _ _ h => h) hH rfl ?y8 ?r8
            case y8 => intro W hSw; go_simp; try with_reducible rfl
            try simp only [Act.put, List.setIfInBounds_toArray, List.set_cons_zero, List.set_cons_succ]
            refine lastL rfl (by kernel_rfl) (by kernel_rfl) (by kernel_rfl) rfl (fun K hK => ?_)
            go_simp
            refine hK.out _ _ ?_
            clear hK K
            try simp only [Act.put, List.setIfInBounds_toArray, List.set_cons_zero, List.set_cons_succ]
            have hBs : Bv < w7.drew.heap.size := hst7.lt
            have hne9 : (Value.slice (some ⟨g9, 0, none⟩) (ps.length + 1) c9).ownBlock ≠ some Bv := by
              rcases hat9 with h | ⟨g', h, h'⟩
              · rw [h]; exact Hne.out
              · rw [h]; simp; omega
            have hRB : R < Bv := by omega
            go_wp2
            go_roundw
            case rel => exact ⟨k + 1, ps ++ [x], _, q2 + 1, by omega, by go_num, Hsub'.out, (by have := s9.set 2 (.slice (some ⟨g9, 0, none⟩) (ps.length + 1) c9); simpa using this), hown9.set_other hne9 2 _, hne9, (hrd7.kept hg9 (fun g e => by have := (hown7.lt g e).1; omega)).kept (grownBy_set w9 Bv 2 _) (fun g e => by cases e; exact hRB), by omega, grown_row (grown_row hg37 hg9 (fun g e => (hown7.lt g e).1)) (grownBy_set w9 Bv 2 _) (fun g e => by cases e; omega)⟩
            case measure => simp [intOf]; omega
          · have hud : decide ((0 : Int) < u) = false := decide_eq_false hu
            clear hu0 hu1
            go_wp2
            go_roundw
            case rel => exact ⟨k + 1, ps, vp, q2 + 1, by omega, by go_num, Hsub.out.trans (List.take_sublist_take_left (by omega)), Hst7.out, Hop7.out, Hne.out, Hrd7.out, by omega, Hg37.out⟩
            case measure => simp [intOf]; omega
        · have hke : k = H.length := by omega
          subst hke
          rw [List.take_length] at Hsub
          have hpl : ps.length ≤ 1099511627776 := by have := Hsub.out.length_le; omega
          obtain ⟨ap, cp, rfl, hip, _⟩ := Hop.out.ints
          clear hip
          by_cases hn0 : n = 0
          · have hnn : decide ((0 : Int) < (n : Int)) = false := decide_eq_false (by omega)
            have hnn' : ¬ (0 : Int) < (n : Int) := by omega
            clear hn0
            have hgW := grownBy_trans Hgr3.out Hg3r.out
            have hcW := Hc.out _ hgW
            have HgW := Lib.hid hgW; clear hgW
            have st := Hst.out
            have c0 := st.cell 0 (v := .int .i64 n) rfl
            have c1 := st.cell 1 (v := .int .i64 a) rfl
            have c2 := st.cell 2 (v := .slice ap ps.length cp) rfl
            have c3 := st.cell 3 (v := .int .i64 D) rfl
            have Hcall := Lib.hid (HVx.out n a D ap cp ps _ hpl hcW Hop.out.at)
            clear st hcW
            cases hvx : vtxB c ⟨n, a, ps, D⟩ with
            | false =>
              rw [hvx] at Hcall
              clear Hst Hop Hne
              go_wp2_with fail
              refine Hcall.out.mono ?_
              rintro e w8 ⟨rfl, hb8⟩
              have Hg38 := Lib.hid (grown_row (w := w3) Hg3r.out (below_grown hb8) (fun g e => by cases e))
              have Hown8 := Lib.hid (Hown3.out.same fun b h1 h2 => Hg38.out.block b h2 (fun e => by cases e; omega))
              have Hoh8 := Lib.hid (Hoh3.out.kept Hg38.out (.inr fun e => by have := (Hoh3.out.lt R e).1; omega))
              have Hrd8 := Lib.hid (Hrd.out.kept (below_grown hb8) (fun g e => by cases e))
              have hs8 := Hg38.out.size
              have HgW8 := Lib.hid (grownBy_trans Hgr3.out Hg38.out)
              clear hb8 c0 c1 c2 c3
              go_wp2
              go_roundw
              case rel => exact ⟨a + 1, g, q2, by omega, by go_num, Hown8.out.mono hs8, Hok.out, fun x hx => by have := Hord.out x hx; omega, by omega, Hrd8.out, by omega, HgW8.out, Hoh8.out, by omega⟩
              case measure => simp [intOf]; omega
            | true =>
              rw [hvx] at Hcall
              have Hok' := Lib.hid (gOk_push Hok.out hvx Hord.out)
              clear hvx
              go_wp2_with fail
              refine Hcall.out.mono ?_
              rintro e w8 ⟨rfl, hb8⟩
              have Hg38 := Lib.hid (grown_row (w := w3) Hg3r.out (below_grown hb8) (fun g e => by cases e))
              have Hown8 := Lib.hid (Hown3.out.same fun b h1 h2 => Hg38.out.block b h2 (fun e => by cases e; omega))
              have Hoh8 := Lib.hid (Hoh3.out.kept Hg38.out (.inr fun e => by have := (Hoh3.out.lt R e).1; omega))
              have Hrd8 := Lib.hid (Hrd.out.kept (below_grown hb8) (fun g e => by cases e))
              have hs8 := Hg38.out.size
              have HgW8 := Lib.hid (grownBy_trans Hgr3.out Hg38.out)
              have st := (hb8.block _ Hst.out.lt).trans Hst.out
              have hop8 := Hop.out.below hb8
              have c0 := Str.cell st 0 (v := .int .i64 n) rfl
              have c1 := Str.cell st 1 (v := .int .i64 a) rfl
              have c2 := Str.cell st 2 (v := .slice ap ps.length cp) rfl
              have c3 := Str.cell st 3 (v := .int .i64 D) rfl
              obtain ⟨hfd, hap, hnew⟩ := vertex_new (B := w.heap.size) n a D hop8 hw3
              have Hfd := Lib.hid hfd; clear hfd
              have Hap := Lib.hid hap; clear hap
              have Hnew := Lib.hid hnew; clear hnew hop8 st hb8
              have hel : (g.map Vx.fd).length ≤ 1048576 := by rw [List.length_map]; omega
              have Hex := Lib.hid (show (g ++ [(⟨n, a, ps, D⟩ : Vx)]).map Vx.fd = g.map Vx.fd ++ [[.i n, .i a, .l ps, .i D]] by rw [List.map_append]; rfl)
              have hB8 : w.heap.size ≤ w8.heap.size := by omega
              generalize g.map Vx.fd = es at *
              go_wp2_with (at_builtin; refine wpList_push_own (Ei := 3) Try.underlying56 vertex_inf rfl (by decide) (by decide) rfl (.tmp 85) (.tmp 87) rfl w.heap.size _ es _ _ _ rfl rfl (by intro u hu; simp at hu; rcases hu with rfl | rfl | rfl | rfl <;> rfl) rfl rfl Hfd.out Hap.out w3.heap.size Hown8.out hs8 Hnew.out hel rfl hB8 ?_; intro v9 w9 hown9 hg9 hat9)
              go_roundw
              case rel => exact ⟨a + 1, g ++ [⟨n, a, ps, D⟩], q2, by omega, by go_num, by rw [Hex.out]; exact hown9, Hok'.out, fun x hx => by
                rcases List.mem_append.1 hx with hx | hx
                · have := Hord.out x hx; omega
                · simp at hx; subst hx; exact .inr ⟨rfl, (show (a : Int) < ((a + 1 : Nat) : Int) by omega)⟩, by have := hgl; rw [List.length_append]; simp only [List.length_singleton]; omega, Hrd8.out.kept hg9 (fun g e => by have := (Hown8.out.lt g e).1; omega), by omega, grown_row HgW8.out hg9 (fun g e => (Hown8.out.lt g e).1), Hoh8.out.kept hg9 (Hown8.out.apartI Hoh8.out (by decide)), by have := hg9.size; omega⟩
              case measure => simp [intOf]; omega
          have hnn : decide ((0 : Int) < (n : Int)) = true := decide_eq_true (by omega)
          have hnn' : (0 : Int) < (n : Int) := by omega
          clear hn0
          have hmb := members_sub Hasc.out Hsub.out
          have hcW0 := Hc.out _ (grownBy_trans Hgr3.out Hg3r.out)
          have k2 := Hst.out.cell 2 (v := .slice ap ps.length cp) rfl
          have HW1 := Lib.hid (HWt.out ps ap cp wr hmb hpl hcW0 Hop.out.at)
          have HQ1 := Lib.hid (HQt.out wr hcW0)
          clear hcW0 hmb
          go_wp2_with fail
          refine HW1.out.mono ?_
          rintro e w7 ⟨rfl, rfl⟩
          go_wp2_with fail
          refine HQ1.out.mono ?_
          rintro e w7 ⟨rfl, rfl⟩
          by_cases hlow : weightZ c ps < 2 * totalZ c / 3 + 1
          · have hld : decide (weightZ c ps < 2 * totalZ c / 3 + 1) = true := decide_eq_true hlow
            have hoE := own_empty 3 wr (Nat.le_refl wr.heap.size)
            have hsrc : SrcAt (wr.alloc (.cells #[] 3)) ah ch H := by
              obtain ⟨_, _, e, _, hs, _⟩ := (Hohr.out.alloc (.cells #[] 3)).src
              cases e
              exact hs
            have stE := Hst.out.alloc (.cells #[] 3)
            have hzE : (wr.alloc (.cells #[] 3)).heap.size = wr.heap.size + 1 := by simp
            have rdE := Hrd.out.alloc (.cells #[] 3)
            have hgE := grownBy_trans Hg3r.out (World.grownBy_alloc wr (.cells #[] 3) (some R))
            have hsr := Hg3r.out.size
            have hHl2 : H.length ≤ 1099511627776 := by omega
            have hRB : R < Bv := by omega
            have HoE := Lib.hid hoE; clear hoE
            have Hsrc := Lib.hid hsrc; clear hsrc
            have HstE := Lib.hid stE; clear stE
            have HrdE := Lib.hid rdE; clear rdE
            have HgE := Lib.hid hgE; clear hgE
            clear k2 hlow Hop Hst Hrd HW1 HQ1
            go_wp2_with (at_builtin; refine wpList_appI TIg rfl (.tmp 78) (.tmp 79) rfl wr.heap.size (.slice (some ⟨wr.heap.size, 0, none⟩) 0 0) [] H _ _ rfl HoE.out rfl Hsrc.out (by simp; omega) (by rw [hzE]; omega) ?_; intro v7 w7 hown7 hg7; (rw [List.nil_append] at hown7); (generalize wr.alloc (.cells #[] 3) = w71 at *); (have st7 := HstE.out.kept hg7 (by simp [Value.ownBlock]; omega)); (have Hrd7 := Lib.hid (HrdE.out.kept hg7 (fun g e => by have := (HoE.out.lt g e).1; omega))); (have Hg7 := Lib.hid (grown_row HgE.out hg7 (fun g e => by have := (HoE.out.lt g e).1; omega))); (have Hown7 := Lib.hid hown7); (obtain ⟨a7, c7, rfl, _, _⟩ := Hown7.out.ints); (have k2 := st7.cell 2 (v := .slice ap ps.length cp) rfl); (have f2 := st7.frozen 2); (have u := st7.set 2 (.slice a7 H.length c7)); (have e0 := u.cell 0 (v := .int .i64 n) rfl); (have e1 := u.cell 1 (v := .int .i64 a) rfl); (have e2 := u.cell 2 (v := .slice a7 H.length c7) rfl); (have e3 := u.cell 3 (v := .int .i64 D) rfl); (have Hu := Lib.hid u); (clear u st7 hown7 hg7))
            have hne7 : (Value.slice a7 H.length c7).ownBlock ≠ some Bv := fun e => by have := (Hown7.out.lt _ e).1; omega
            have Hrd := Lib.hid (Hrd7.out.kept (grownBy_set w7 Bv 2 (.slice a7 H.length c7)) (fun g e => by cases e; exact hRB))
            have Hg3r := Lib.hid (grown_row Hg7.out (grownBy_set w7 Bv 2 (.slice a7 H.length c7)) (fun g e => by cases e; omega))
            have Hop := Lib.hid ((Hown7.out.mono (show w3.heap.size ≤ wr.heap.size from hsr)).set_other hne7 2 (.slice a7 H.length c7))
            have Hst : Hid (Str (w7.setCell ⟨Bv, 2, none⟩ (.slice a7 H.length c7)) Bv 61 #[.int .i64 n, .int .i64 a, .slice a7 H.length c7, .int .i64 D]) := Lib.hid (by simpa using Hu.out)
            clear k2 f2 Hu Hown7 Hrd7 Hg7 hne7
            generalize w7.setCell ⟨Bv, 2, none⟩ (.slice a7 H.length c7) = wz at *
            have hBz := Hst.out.lt
            have hgW := grownBy_trans Hgr3.out Hg3r.out
            have hcW := Hc.out _ hgW
            have HgW := Lib.hid hgW; clear hgW
            have st := Hst.out
            clear e0 e1 e2 e3
            have c0 := st.cell 0 (v := .int .i64 n) rfl
            have c1 := st.cell 1 (v := .int .i64 a) rfl
            have c2 := st.cell 2 (v := .slice a7 H.length c7) rfl
            have c3 := st.cell 3 (v := .int .i64 D) rfl
            have Hcall := Lib.hid (HVx.out n a D a7 c7 H _ hHl2 hcW Hop.out.at)
            clear st hcW
            cases hvx : vtxB c ⟨n, a, H, D⟩ with
            | false =>
              rw [hvx] at Hcall
              clear Hst Hop
              refine Hcall.out.mono ?_
              rintro e w8 ⟨rfl, hb8⟩
              have Hg38 := Lib.hid (grown_row (w := w3) Hg3r.out (below_grown hb8) (fun g e => by cases e))
              have Hown8 := Lib.hid (Hown3.out.same fun b h1 h2 => Hg38.out.block b h2 (fun e => by cases e; omega))
              have Hoh8 := Lib.hid (Hoh3.out.kept Hg38.out (.inr fun e => by have := (Hoh3.out.lt R e).1; omega))
              have Hrd8 := Lib.hid (Hrd.out.kept (below_grown hb8) (fun g e => by cases e))
              have hs8 := Hg38.out.size
              have HgW8 := Lib.hid (grownBy_trans Hgr3.out Hg38.out)
              clear hb8 c0 c1 c2 c3
              go_wp2
              go_roundw
              case rel => exact ⟨a + 1, g, q2, by omega, by go_num, Hown8.out.mono hs8, Hok.out, fun x hx => by have := Hord.out x hx; omega, by omega, Hrd8.out, by omega, HgW8.out, Hoh8.out, by omega⟩
              case measure => simp [intOf]; omega
            | true =>
              rw [hvx] at Hcall
              have Hok' := Lib.hid (gOk_push Hok.out hvx Hord.out)
              clear hvx
              refine Hcall.out.mono ?_
              rintro e w8 ⟨rfl, hb8⟩
              have Hg38 := Lib.hid (grown_row (w := w3) Hg3r.out (below_grown hb8) (fun g e => by cases e))
              have Hown8 := Lib.hid (Hown3.out.same fun b h1 h2 => Hg38.out.block b h2 (fun e => by cases e; omega))
              have Hoh8 := Lib.hid (Hoh3.out.kept Hg38.out (.inr fun e => by have := (Hoh3.out.lt R e).1; omega))
              have Hrd8 := Lib.hid (Hrd.out.kept (below_grown hb8) (fun g e => by cases e))
              have hs8 := Hg38.out.size
              have HgW8 := Lib.hid (grownBy_trans Hgr3.out Hg38.out)
              have st := (hb8.block _ Hst.out.lt).trans Hst.out
              have hop8 := Hop.out.below hb8
              have c0 := Str.cell st 0 (v := .int .i64 n) rfl
              have c1 := Str.cell st 1 (v := .int .i64 a) rfl
              have c2 := Str.cell st 2 (v := .slice a7 H.length c7) rfl
              have c3 := Str.cell st 3 (v := .int .i64 D) rfl
              obtain ⟨hfd, hap, hnew⟩ := vertex_new (B := w.heap.size) n a D hop8 hw3
              have Hfd := Lib.hid hfd; clear hfd
              have Hap := Lib.hid hap; clear hap
              have Hnew := Lib.hid hnew; clear hnew hop8 st hb8
              have hel : (g.map Vx.fd).length ≤ 1048576 := by rw [List.length_map]; omega
              have Hex := Lib.hid (show (g ++ [(⟨n, a, H, D⟩ : Vx)]).map Vx.fd = g.map Vx.fd ++ [[.i n, .i a, .l H, .i D]] by rw [List.map_append]; rfl)
              have hB8 : w.heap.size ≤ w8.heap.size := by omega
              generalize g.map Vx.fd = es at *
              go_wp2_with (at_builtin; refine wpList_push_own (Ei := 3) Try.underlying56 vertex_inf rfl (by decide) (by decide) rfl (.tmp 85) (.tmp 87) rfl w.heap.size _ es _ _ _ rfl rfl (by intro u hu; simp at hu; rcases hu with rfl | rfl | rfl | rfl <;> rfl) rfl rfl Hfd.out Hap.out w3.heap.size Hown8.out hs8 Hnew.out hel rfl hB8 ?_; intro v9 w9 hown9 hg9 hat9)
              go_roundw
              case rel => exact ⟨a + 1, g ++ [⟨n, a, H, D⟩], q2, by omega, by go_num, by rw [Hex.out]; exact hown9, Hok'.out, fun x hx => by
                rcases List.mem_append.1 hx with hx | hx
                · have := Hord.out x hx; omega
                · simp at hx; subst hx; exact .inr ⟨rfl, (show (a : Int) < ((a + 1 : Nat) : Int) by omega)⟩, by have := hgl; rw [List.length_append]; simp only [List.length_singleton]; omega, Hrd8.out.kept hg9 (fun g e => by have := (Hown8.out.lt g e).1; omega), by omega, grown_row HgW8.out hg9 (fun g e => (Hown8.out.lt g e).1), Hoh8.out.kept hg9 (Hown8.out.apartI Hoh8.out (by decide)), by have := hg9.size; omega⟩
              case measure => simp [intOf]; omega
          · have hld : decide (weightZ c ps < 2 * totalZ c / 3 + 1) = false := decide_eq_false hlow
            clear k2
            have hgW := grownBy_trans Hgr3.out Hg3r.out
            have hcW := Hc.out _ hgW
            have HgW := Lib.hid hgW; clear hgW
            have st := Hst.out
            have c0 := st.cell 0 (v := .int .i64 n) rfl
            have c1 := st.cell 1 (v := .int .i64 a) rfl
            have c2 := st.cell 2 (v := .slice ap ps.length cp) rfl
            have c3 := st.cell 3 (v := .int .i64 D) rfl
            have Hcall := Lib.hid (HVx.out n a D ap cp ps _ hpl hcW Hop.out.at)
            clear st hcW
            cases hvx : vtxB c ⟨n, a, ps, D⟩ with
            | false =>
              rw [hvx] at Hcall
              clear Hst Hop Hne
              go_wp2_with fail
              refine Hcall.out.mono ?_
              rintro e w8 ⟨rfl, hb8⟩
              have Hg38 := Lib.hid (grown_row (w := w3) Hg3r.out (below_grown hb8) (fun g e => by cases e))
              have Hown8 := Lib.hid (Hown3.out.same fun b h1 h2 => Hg38.out.block b h2 (fun e => by cases e; omega))
              have Hoh8 := Lib.hid (Hoh3.out.kept Hg38.out (.inr fun e => by have := (Hoh3.out.lt R e).1; omega))
              have Hrd8 := Lib.hid (Hrd.out.kept (below_grown hb8) (fun g e => by cases e))
              have hs8 := Hg38.out.size
              have HgW8 := Lib.hid (grownBy_trans Hgr3.out Hg38.out)
              clear hb8 c0 c1 c2 c3
              go_wp2
              go_roundw
              case rel => exact ⟨a + 1, g, q2, by omega, by go_num, Hown8.out.mono hs8, Hok.out, fun x hx => by have := Hord.out x hx; omega, by omega, Hrd8.out, by omega, HgW8.out, Hoh8.out, by omega⟩
              case measure => simp [intOf]; omega
            | true =>
              rw [hvx] at Hcall
              have Hok' := Lib.hid (gOk_push Hok.out hvx Hord.out)
              clear hvx
              go_wp2_with fail
              refine Hcall.out.mono ?_
              rintro e w8 ⟨rfl, hb8⟩
              have Hg38 := Lib.hid (grown_row (w := w3) Hg3r.out (below_grown hb8) (fun g e => by cases e))
              have Hown8 := Lib.hid (Hown3.out.same fun b h1 h2 => Hg38.out.block b h2 (fun e => by cases e; omega))
              have Hoh8 := Lib.hid (Hoh3.out.kept Hg38.out (.inr fun e => by have := (Hoh3.out.lt R e).1; omega))
              have Hrd8 := Lib.hid (Hrd.out.kept (below_grown hb8) (fun g e => by cases e))
              have hs8 := Hg38.out.size
              have HgW8 := Lib.hid (grownBy_trans Hgr3.out Hg38.out)
              have st := (hb8.block _ Hst.out.lt).trans Hst.out
              have hop8 := Hop.out.below hb8
              have c0 := Str.cell st 0 (v := .int .i64 n) rfl
              have c1 := Str.cell st 1 (v := .int .i64 a) rfl
              have c2 := Str.cell st 2 (v := .slice ap ps.length cp) rfl
              have c3 := Str.cell st 3 (v := .int .i64 D) rfl
              obtain ⟨hfd, hap, hnew⟩ := vertex_new (B := w.heap.size) n a D hop8 hw3
              have Hfd := Lib.hid hfd; clear hfd
              have Hap := Lib.hid hap; clear hap
              have Hnew := Lib.hid hnew; clear hnew hop8 st hb8
              have hel : (g.map Vx.fd).length ≤ 1048576 := by rw [List.length_map]; omega
              have Hex := Lib.hid (show (g ++ [(⟨n, a, ps, D⟩ : Vx)]).map Vx.fd = g.map Vx.fd ++ [[.i n, .i a, .l ps, .i D]] by rw [List.map_append]; rfl)
              have hB8 : w.heap.size ≤ w8.heap.size := by omega
              generalize g.map Vx.fd = es at *
              go_wp2_with (at_builtin; refine wpList_push_own (Ei := 3) Try.underlying56 vertex_inf rfl (by decide) (by decide) rfl (.tmp 85) (.tmp 87) rfl w.heap.size _ es _ _ _ rfl rfl (by intro u hu; simp at hu; rcases hu with rfl | rfl | rfl | rfl <;> rfl) rfl rfl Hfd.out Hap.out w3.heap.size Hown8.out hs8 Hnew.out hel rfl hB8 ?_; intro v9 w9 hown9 hg9 hat9)
              go_roundw
              case rel => exact ⟨a + 1, g ++ [⟨n, a, ps, D⟩], q2, by omega, by go_num, by rw [Hex.out]; exact hown9, Hok'.out, fun x hx => by
                rcases List.mem_append.1 hx with hx | hx
                · have := Hord.out x hx; omega
                · simp at hx; subst hx; exact .inr ⟨rfl, (show (a : Int) < ((a + 1 : Nat) : Int) by omega)⟩, by have := hgl; rw [List.length_append]; simp only [List.length_singleton]; omega, Hrd8.out.kept hg9 (fun g e => by have := (Hown8.out.lt g e).1; omega), by omega, grown_row HgW8.out hg9 (fun g e => (Hown8.out.lt g e).1), Hoh8.out.kept hg9 (Hown8.out.apartI Hoh8.out (by decide)), by have := hg9.size; omega⟩
              case measure => simp [intOf]; omega

end Go.Proofs.Yteglefchkecfjaa

/- A list that reads as rows is appended to a list that the call builds; a row's cell of such a list is written over; general steps, nothing here speaks of the program. -/
namespace Go.Proofs.Yteglefchkecfjaa
open Go.RowKit

theorem Rd.one {w : World} {d : Dt} {c : Value} {fp : List Nat} (h : Rd w d c fp) : c.oneCell' = true := by
  cases h <;> rfl
/-- The cells of a list of rows, one after the other, and how they read. -/
theorem Rd.rows {w : World} {es : List (List Dt)} {u : Value} {fp : List Nat} (h : Rd w (.l es) u fp) {sz : Nat} (hsz : ∀ e ∈ es, e.length = sz) (hpos : 0 < sz) :
    (u = .slice none 0 0 ∧ es = []) ∨ ∃ (ad : Addr) (c : Nat) (vals : List Value), u = .slice (some ad) es.length c ∧ vals.length = es.length * sz ∧ (∀ j x, vals[j]? = some x → w.cell? (ad.add j) = some x) ∧ (∀ x ∈ vals, x.oneCell' = true) ∧
      ∀ k (hk : k < es.length) j (hj : j < (es[k]).length), ∃ c fp', (vals.drop (k * sz))[j]? = some c ∧ Rd w ((es[k])[j]) c fp' ∧ ∀ r ∈ fp', r ∈ fp := by
  generalize hd : Dt.l es = d at h
  cases h with
  | i n => cases hd
  | b x => cases hd
  | s t => cases hd
  | nil a cap hn =>
    cases hd
    cases a with
    | none => rw [hn rfl]; exact .inl ⟨rfl, rfl⟩
    | some ad => exact .inr ⟨ad, cap, [], rfl, by simp, by simp, by simp, fun k hk => by simp at hk⟩
  | l sz' es' g off cap V F hne hsz' hcap hgl hc hrd =>
    cases hd
    have hss : sz' = sz := by
      have h0 := List.getElem_mem hne
      rw [← hsz' _ h0, hsz _ h0]
    subst hss
    have hlt : ∀ p, p < es.length * sz' → p / sz' < es.length ∧ p % sz' < sz' := fun p hp => ⟨by rw [Nat.div_lt_iff_lt_mul hpos]; exact hp, Nat.mod_lt _ hpos⟩
    have hget : ∀ p, p < es.length * sz' → ((List.range (es.length * sz')).map fun p => V (p / sz') (p % sz'))[p]? = some (V (p / sz') (p % sz')) := by
      intro p hp
      simp [List.getElem?_map, List.getElem?_range hp]
    refine .inr ⟨⟨g, off, none⟩, cap, (List.range (es.length * sz')).map fun p => V (p / sz') (p % sz'), rfl, by simp, fun j x hx => ?_, fun x hx => ?_, fun k hk j hj => ?_⟩
    · have hj : j < es.length * sz' := by
        obtain ⟨h, _⟩ := List.getElem?_eq_some_iff.1 hx
        simpa using h
      rw [hget j hj] at hx
      cases hx
      obtain ⟨h1, h2⟩ := hlt j hj
      have := hc (j / sz') (j % sz') h1 h2
      rw [addr_add', ← this]
      congr 3
      rw [Nat.mul_comm]; exact (Nat.div_add_mod _ _).symm
    · obtain ⟨p, hp, rfl⟩ := List.mem_map.1 hx
      obtain ⟨h1, h2⟩ := hlt p (List.mem_range.1 hp)
      exact (hrd _ _ h1 (by rw [hsz _ (List.getElem_mem h1)]; exact h2)).one
    · have hj' : j < sz' := by rw [← hsz _ (List.getElem_mem hk)]; exact hj
      have hp : k * sz' + j < es.length * sz' := by
        have := Nat.mul_le_mul_right sz' (show k + 1 ≤ es.length by omega)
        rw [Nat.add_mul] at this; omega
      have e1 : (k * sz' + j) / sz' = k := by rw [Nat.add_comm, Nat.add_mul_div_right _ _ hpos, Nat.div_eq_of_lt hj', Nat.zero_add]
      have e2 : (k * sz' + j) % sz' = j := by rw [Nat.add_comm, Nat.add_mul_mod_self_right, Nat.mod_eq_of_lt hj']
      refine ⟨V k j, F k j, ?_, hrd k j hk hj, fun r hr => List.mem_cons_of_mem _ (List.mem_flatMap.2 ⟨k, List.mem_range.2 hk, List.mem_flatMap.2 ⟨j, List.mem_range.2 hj', hr⟩⟩)⟩
      rw [List.getElem?_drop, hget _ hp, e1, e2]
/-- 'append(s, t...)' at an operation: s is being built, t reads as rows in memory that is not the outer row's. -/
theorem op_app_rows {P : Program} {T E : TypeId} {z0 : Value} {sz bytes : Nat} (hsl : P.underlying T = some (.slice E)) (hinf : (P.info? E).map (fun i => (i.zero, i.size, i.bytes)) = some (some z0, sz, bytes)) (hz0 : z0.cells.size = sz) (hpos : 0 < sz) (hby : bytes ≤ 1000)
    (w : World) {o : Oper} {a : Act} {K : Act → World → Prop} {Q : Exit → Act → World → Prop} (s x : Operand) (ho : o.op = .call { callee := .builtin .append, args := #[s, x], argTypes := #[T, T] }) (B : Nat) (v u : Value) (es es2 : List (List Dt)) (fp2 : List Nat)
    (hs : a.eval s = v) (hb : Bld E sz w B v es) (hx : a.eval x = u) (hr : Rd w (.l es2) u fp2) (hsz2 : ∀ e ∈ es2, e.length = sz) (hfp : ∀ r ∈ fp2, B ≤ r ∧ v.ownBlock ≠ some r) (hlen : es.length + es2.length ≤ 1048576) (hB : B ≤ w.heap.size)
    (h : ∀ v' w', Bld E sz w' B v' (es ++ es2) → w.grownBy w' v.ownBlock → (∀ g, v'.ownBlock = some g → v.ownBlock = some g ∨ w.heap.size ≤ g) → K (a.put o.dst v') w') : Oper.wp P o a w K Q := by
  obtain ⟨i, hi, hz, hsz, hbb⟩ := info_parts hinf
  obtain ⟨cs, hown, hc⟩ := hb.row
  have hcl : cs.length = es.length * sz := hown.1
  have run : ∃ v' w' vals, (Builtin.append_ #[T, T] o.type #[v, u]).run P w = .ok v' w' ∧ w'.ownsRow B E sz v' (es.length + es2.length) (cs ++ vals) ∧ w.grownBy w' v.ownBlock ∧ (v'.ownBlock = v.ownBlock ∨ v'.ownBlock = some w.heap.size) ∧
      ∀ k (hk : k < es2.length) j (hj : j < (es2[k]).length), ∃ c fp', (vals.drop (k * sz))[j]? = some c ∧ Rd w ((es2[k])[j]) c fp' ∧ ∀ r ∈ fp', r ∈ fp2 := by
    rcases hr.rows hsz2 hpos with ⟨rfl, rfl⟩ | ⟨ad, c, vals, rfl, hvl, hcells, hone, hrd⟩
    · exact ⟨v, w, [], run_append_owned_none (P := P) (w := w) B T o.type E i sz hsl hi v es.length _ hown, by simpa using hown, ⟨rfl, rfl, rfl, Nat.le_refl _, fun _ _ _ => rfl⟩, .inl rfl, fun k hk => by simp at hk⟩
    · obtain ⟨v', w', h1, h2, h3, _, h4⟩ := run_append_own_at (P := P) w B T o.type E i z0 sz bytes hsl hi hz hsz hbb hz0 hpos v es.length _ hown ad es2.length c vals hvl hcells hone (by unfold maxLen; omega) (by
        have := Nat.mul_le_mul hlen hby; omega) hB
      exact ⟨v', w', vals, h1, h2, h3, h4, hrd⟩
  obtain ⟨v', w', vals, hrun, h1, hg, h4, hrd⟩ := run
  unfold Oper.wp execOp
  simp only [ho, resolve, invoke, builtin, Sem.run_bind, Sem.run_pure, Result.andThen_ok, List.map_toArray, List.map_cons, List.map_nil, hs, hx, hrun]
  have hloc : ∀ g, v'.ownBlock = some g → v.ownBlock = some g ∨ w.heap.size ≤ g := fun g e => by
    rcases h4 with h4 | h4
    · exact .inl (by rw [← h4]; exact e)
    · rw [h4] at e; cases e; exact .inr (Nat.le_refl _)
  refine h v' w' ⟨?_, cs ++ vals, by rw [List.length_append]; exact h1, fun k hk => ?_⟩ hg hloc
  · intro d hd
    rcases List.mem_append.1 hd with hd | hd
    · exact hb.szs d hd
    · exact hsz2 d hd
  · by_cases hke : k < es.length
    · have hkk : (es ++ es2)[k] = es[k] := List.getElem_append_left hke
      rw [hkk]
      have hcr := (hc k hke).step (blk' := v'.ownBlock) hg (fun r e => .inr e) hloc
      intro j hj
      obtain ⟨c, fp, hcc, hrest⟩ := hcr j hj
      refine ⟨c, fp, ?_, hrest⟩
      rw [List.getElem?_drop] at hcc ⊢
      rw [List.getElem?_append_left (by obtain ⟨h, _⟩ := List.getElem?_eq_some_iff.1 hcc; exact h)]
      exact hcc
    · have hk2 : k - es.length < es2.length := by rw [List.length_append] at hk; omega
      have hkk : (es ++ es2)[k] = es2[k - es.length] := List.getElem_append_right (by omega)
      rw [hkk]
      intro j hj
      obtain ⟨c, fp', hcc, hr', hin⟩ := hrd (k - es.length) hk2 j hj
      refine ⟨c, fp', ?_, hr'.grown hg (fun r e hm => (hfp r (hin r hm)).2 e), fun r hm => ⟨(hfp r (hin r hm)).1, fun e => ?_⟩⟩
      · rw [List.getElem?_drop] at hcc ⊢
        have hge : cs.length ≤ k * sz + j := by
          rw [hcl]
          have := Nat.mul_le_mul_right sz (show es.length ≤ k by omega)
          omega
        rw [List.getElem?_append_right hge, hcl]
        have hq : k * sz + j - es.length * sz = (k - es.length) * sz + j := by
          rw [Nat.sub_mul]
          have := Nat.mul_le_mul_right sz (show es.length ≤ k by omega)
          omega
        rw [hq]; exact hcc
      · rcases hloc r e with e' | e'
        · exact (hfp r (hin r hm)).2 e'
        · have := hr'.lt r hm; omega

end Go.Proofs.Yteglefchkecfjaa

/- The draw of a graph that is seldom invalid: what is drawn reads as a graph in new memory; by a walk of its text; condition: at most 10^4 picks before. -/
namespace Go.Proofs.Yteglefchkecfjaa
open Go.RowKit

theorem members_geG {n : Nat} {ms : List Int} (h : membersB n ms = true) : ∀ k (hk : k < ms.length), (k : Int) ≤ ms[k] := by
  intro k
  induction k with
  | zero => intro hk; have := (okAt_bd hk (allB_upto h 0 hk)).1; omega
  | succ k ih =>
    intro hk
    have h1 := ih (by omega)
    have := (okAt_bd hk (allB_upto h (k + 1) hk)).2.2
    rcases this with h0 | h0
    · omega
    · rw [Nat.add_sub_cancel, getD_get (by omega)] at h0; omega
theorem members_lenG {n : Nat} {ms : List Int} (h : membersB n ms = true) : ms.length ≤ n := by
  rcases Nat.eq_zero_or_pos ms.length with h0 | h0
  · omega
  · have h1 := members_geG h (ms.length - 1) (by omega)
    have h2 := (membersB_at h (ms.length - 1) (by omega)).2
    omega
theorem gOk_ps {c : List Int} {g : List Vx} (h : GOk c g) : ∀ x ∈ g, x.ps.length ≤ c.length := fun x hx => by
  have := h.1 x hx
  unfold vtxB at this
  simp only [Bool.and_eq_true] at this
  exact members_lenG this.2.2.1
theorem ownR_gr {E Ei : TypeId} {sz : Nat} {w : World} {B hi : Nat} {v : Value} {g : List Vx} (h : OwnR E Ei sz w B hi v (g.map Vx.fd)) : ∃ fp, Gr w g v fp ∧ ∀ r ∈ fp, B ≤ r := by
  obtain ⟨fp, hr, hf⟩ := h.bld.rd
  exact ⟨fp, hr, hf⟩
theorem set_mem {g : List Vx} {k : Nat} {x : Vx} {m : Nat} (h : ∀ y ∈ g, y.ps.length ≤ m) (hx : x.ps.length ≤ m) : ∀ y ∈ g.set k x, y.ps.length ≤ m := fun y hy => by
  rcases List.mem_or_eq_of_mem_set hy with hy | rfl
  · exact h y hy
  · exact hx
section
variable {E Ei : TypeId} {w : World} {B hi gb n cap : Nat} {g : List Vx} {k : Nat}
theorem vx_cells (h : OwnR E Ei 4 w B hi (.slice (some ⟨gb, 0, none⟩) n cap) (g.map Vx.fd)) (hk : k < g.length) :
    w.cell? ⟨gb, k * 4, none⟩ = some (.int .i64 g[k].r) ∧ w.cell? ⟨gb, k * 4 + 1, none⟩ = some (.int .i64 g[k].a) ∧ (∃ pa pc, w.cell? ⟨gb, k * 4 + 2, none⟩ = some (.slice pa g[k].ps.length pc)) ∧ w.cell? ⟨gb, k * 4 + 3, none⟩ = some (.int .i64 g[k].d) ∧
    w.frozen? ⟨gb, k * 4, none⟩ = false ∧ w.frozen? ⟨gb, k * 4 + 1, none⟩ = false ∧ w.frozen? ⟨gb, k * 4 + 2, none⟩ = false ∧ w.frozen? ⟨gb, k * 4 + 3, none⟩ = false := by
  have hk' : k < (g.map Vx.fd).length := by simpa using hk
  have he : (g.map Vx.fd)[k] = g[k].fd := by simp
  have h0 := h.fieldI (k := k) (j := 0) hk' (by rw [he]; simp [Vx.fd]) (x := g[k].r) (by simp only [he]; rfl)
  have h1 := h.fieldI (k := k) (j := 1) hk' (by rw [he]; simp [Vx.fd]) (x := g[k].a) (by simp only [he]; rfl)
  obtain ⟨pa, pc, h2, _, f2, _⟩ := h.fieldL (k := k) (j := 2) hk' (by rw [he]; simp [Vx.fd]) (xs := g[k].ps) (by simp only [he]; rfl)
  have h3 := h.fieldI (k := k) (j := 3) hk' (by rw [he]; simp [Vx.fd]) (x := g[k].d) (by simp only [he]; rfl)
  exact ⟨h0.1, h1.1, ⟨pa, pc, h2⟩, h3.1, h0.2, h1.2, f2, h3.2⟩
theorem vx_setI (h : OwnR E Ei 4 w B hi (.slice (some ⟨gb, 0, none⟩) n cap) (g.map Vx.fd)) (hn : n = g.length) (hk : k < g.length) (j : Nat) (hj : j < 4) (z : Int) (x : Vx) (hx : (g[k].fd).set j (.i z) = x.fd) :
    OwnR E Ei 4 (w.setCell ⟨gb, k * 4 + j, none⟩ (.int .i64 z)) B hi (.slice (some ⟨gb, 0, none⟩) n cap) ((g.set k x).map Vx.fd) := by
  have := h.setI (by simpa using hn) (k := k) (j := j) (by simpa using hk) hj z
  rwa [List.getElem_map, hx, ← List.map_set] at this
theorem vx_setP {hi' : Nat} {u : Value} {ps : List Int} (h : OwnR E Ei 4 w B hi (.slice (some ⟨gb, 0, none⟩) n cap) (g.map Vx.fd)) (hn : n = g.length) (hk : k < g.length) (ho : Own Ei w B u ps) (hhi : hi ≤ hi') (hu : ∀ b, u.ownBlock = some b → hi ≤ b ∧ b < hi') :
    OwnR E Ei 4 (w.setCell ⟨gb, k * 4 + 2, none⟩ u) B hi' (.slice (some ⟨gb, 0, none⟩) n cap) ((g.set k ⟨g[k].r, g[k].a, ps, g[k].d⟩).map Vx.fd) := by
  have := h.setF (by simpa using hn) (k := k) (j := 2) (by simpa using hk) (by omega) (f := .l ps) (show FdOk Ei w B u (.l ps) from ho) hhi hu
  rwa [List.getElem_map, show (g[k].fd).set 2 (.l ps) = Vx.fd ⟨g[k].r, g[k].a, ps, g[k].d⟩ from rfl, ← List.map_set] at this
end

set_option maxRecDepth 8000 in
set_option maxHeartbeats 4000000 in
theorem drawSpoilt (R p : Nat) (rounds : Int) (w : World) (hp : p ≤ 10000) (hn0 : 0 ≤ rounds) (hn1 : rounds ≤ 40) (hr : Rdr w R p) (hR : R < w.heap.size) :
    Calls Try.prog 76 #[.pointer (some ⟨R, 0, none⟩), .int .i64 rounds] w fun e w' => ∃ vc c vg g fp p', e = .returned (.tuple #[vc, vg]) ∧ Own 3 w' w.heap.size vc c ∧ c.length ≤ 11 ∧ Gr w' g vg fp ∧ (∀ r ∈ fp, w.heap.size ≤ r) ∧ g.length ≤ 281 ∧ (∀ x ∈ g, x.ps.length ≤ 100) ∧ Rdr w' R p' ∧ p' ≤ p + 90000 ∧ w.grownBy w' (some R) := by
  go_enter Try.func76, Try.ntmps76
  go_wp2_with fail
  refine (drawGoodV R p _ (by omega) hr hR).mono ?_
  rintro e w1 ⟨vc, c, p1, rfl, hoc, hv, hr1, hp1, hg1⟩
  obtain ⟨ac, cc, rfl, hic, _⟩ := hoc.ints
  obtain ⟨hc1, hc7⟩ := validB_len hv
  have hs1 := hg1.size
  have hR1 : R < w1.heap.size := by omega
  have Hoc := Lib.hid hoc; clear hoc
  have Hcb := Lib.hid (fun b e => (Hoc.out.lt b e).2)
  have Hdg := Lib.hid (drawGraph R p1 rounds w1 ac cc c (by omega) hn0 hn1 hv hr1 hR1 (fun W hW => (Hoc.out.kept hW (.inr fun e => by have := (Hoc.out.lt R e).1; omega)).at))
  have Hg1 := Lib.hid hg1; clear hg1 hr1 hic
  go_wp2_with fail
  refine Hdg.out.mono ?_
  rintro e w2 ⟨vg, g, p2, rfl, hog, hok, hgl, hr2, hp2, hg2⟩
  have hs2 := hg2.size
  have Hoc2 := Lib.hid (Hoc.out.kept hg2 (.inr fun e => by have := (Hoc.out.lt R e).1; omega))
  have Hr2 := Lib.hid hr2; clear hr2
  have Hg2 := Lib.hid (grownBy_trans Hg1.out hg2); clear hg2
  have Hog2 := Lib.hid hog; clear hog
  have hps := gOk_ps hok
  have Hps := Lib.hid (show ∀ x ∈ g, x.ps.length ≤ 100 from fun x hx => Nat.le_trans (hps x hx) (by omega)); clear hps hok hv Hdg Hoc
  by_cases hg0 : g.length = 0
  · have hgn : g = [] := List.eq_nil_of_length_eq_zero hg0
    subst hgn
    obtain ⟨ag, cg, rfl, _⟩ := Hog2.out.slice
    go_wp2
    go_ret2
    obtain ⟨fp, h1, h2⟩ := ownR_gr Hog2.out
    exact ⟨_, c, _, [], fp, p2, rfl, Hoc2.out, by omega, h1, fun r hr => Nat.le_trans hs1 (h2 r hr), by simp, by simp, Hr2.out, by omega, Hg2.out⟩
  obtain ⟨gb, cg, rfl, hBg, hgh, hgs⟩ := Hog2.out.head (by rw [List.length_map]; omega)
  rw [List.length_map] at *
  have hgne : ((g.length : Int) == 0) = false := by rw [beq_eq_false_iff_ne]; omega
  go_wp2_with fail
  refine (pick_any R (g.length : Int) p2 _ (by omega) Hr2.out (by omega)).mono ?_
  rintro e w3 ⟨k, rfl, hk0, hk1, hr3, hg3⟩
  obtain ⟨k, rfl⟩ := Int.eq_ofNat_of_zero_le hk0
  have hk : k < g.length := by omega
  have hs3 := hg3.size
  have Hoc3 := Lib.hid (Hoc2.out.kept hg3 (.inr fun e => by have := (Hoc2.out.lt R e).1; omega))
  have Hog3 := Lib.hid (Hog2.out.same fun b h1 h2 => hg3.block b (by omega) (fun e => by cases e; omega))
  have Hr3 := Lib.hid hr3; clear hr3
  have Hg3 := Lib.hid (grownBy_trans Hg2.out hg3); clear hg3
  go_wp2_with fail
  refine (pick_any R 20 (p2 + 1) _ (by omega) Hr3.out (by omega)).mono ?_
  rintro e w4 ⟨s, rfl, hs0, hs20, hr4, hg4⟩
  have hs4 := hg4.size
  have Hoc4 := Lib.hid (Hoc3.out.kept hg4 (.inr fun e => by have := (Hoc3.out.lt R e).1; omega))
  have Hog4 := Lib.hid (Hog3.out.same fun b h1 h2 => hg4.block b (by omega) (fun e => by cases e; omega))
  have Hr4 := Lib.hid hr4; clear hr4
  have Hg4 := Lib.hid (grownBy_trans Hg3.out hg4); clear hg4
  clear Hoc2 Hoc3 Hog2 Hog3 Hr2 Hr3 Hg1 Hg2 Hg3 hk0 hk1 hg0 hgne hs20 hs0
  by_cases h0 : s = 0
  · subst h0
    go_wp2_with fail
    refine (drawDigest R (p2 + 1 + 1) _ (by omega) Hr4.out).mono ?_
    rintro e w5 ⟨d, p5, rfl, hd0, hd1, hr5, hp5, hg5⟩
    have hs5 := hg5.size
    have Hoc5 := Lib.hid (Hoc4.out.kept hg5 (.inr fun e => by have := (Hoc4.out.lt R e).1; omega))
    have hog5 := Hog4.out.same fun b h1 h2 => hg5.block b (by omega) (fun e => by cases e; omega)
    obtain ⟨q0, q1, ⟨pa, pc, q2⟩, q3, f0, f1, f2, f3⟩ := vx_cells hog5 hk
    have Hog5 := Lib.hid (show OwnR 61 3 4 (w5.setCell ⟨gb, k * 4 + 3, none⟩ (.int .i64 (d))) _ _ _ _ from vx_setI hog5 rfl hk 3 (by omega) (d) ⟨g[k].r, g[k].a, g[k].ps, d⟩ rfl); clear hog5
    have Hr5 := Lib.hid hr5; clear hr5
    have Hg5 := Lib.hid (grownBy_trans Hg4.out hg5); clear hg5
    have hpk := Hps.out _ (List.getElem_mem hk)
    go_wp2
    go_ret2
    obtain ⟨fp, h1, h2⟩ := ownR_gr Hog5.out
    exact ⟨_, c, _, _, fp, p5, rfl, Hoc5.out.set_other (fun e => by have := Hcb.out gb e; omega) _ _, by omega, h1, fun r hr => Nat.le_trans hs1 (h2 r hr), by rw [List.length_set]; omega, set_mem Hps.out hpk, Hr5.out.kept (grownBy_set w5 gb _ _) (fun g e => by cases e; omega), by omega, grown_row Hg5.out (grownBy_set w5 gb _ _) (fun g e => by cases e; omega)⟩
  have e0 : (s == 0) = false := by rw [beq_eq_false_iff_ne]; exact h0
  clear h0
  by_cases h1 : s = 1
  · subst h1
    go_wp2_with fail
    refine (pick_any R 33 (p2 + 1 + 1) _ (by omega) Hr4.out (by omega)).mono ?_
    rintro e w5 ⟨d, rfl, hd0, hd1, hr5, hg5⟩
    have hs5 := hg5.size
    have Hoc5 := Lib.hid (Hoc4.out.kept hg5 (.inr fun e => by have := (Hoc4.out.lt R e).1; omega))
    have hog5 := Hog4.out.same fun b h1 h2 => hg5.block b (by omega) (fun e => by cases e; omega)
    obtain ⟨q0, q1, ⟨pa, pc, q2⟩, q3, f0, f1, f2, f3⟩ := vx_cells hog5 hk
    have Hog5 := Lib.hid (show OwnR 61 3 4 (w5.setCell ⟨gb, k * 4, none⟩ (.int .i64 (d - 1))) _ _ _ _ from by have := vx_setI hog5 rfl hk 0 (by omega) (d - 1) ⟨d - 1, g[k].a, g[k].ps, g[k].d⟩ rfl; rwa [Nat.add_zero] at this); clear hog5
    have Hr5 := Lib.hid hr5; clear hr5
    have Hg5 := Lib.hid (grownBy_trans Hg4.out hg5); clear hg5
    have hpk := Hps.out _ (List.getElem_mem hk)
    have hwd : IntKind.i64.wrap (d - 1) = d - 1 := IntWalk.i64_in _ (by omega)
    go_wp2
    go_ret2
    obtain ⟨fp, h1, h2⟩ := ownR_gr Hog5.out
    exact ⟨_, c, _, _, fp, p2 + 1 + 1 + 1, rfl, Hoc5.out.set_other (fun e => by have := Hcb.out gb e; omega) _ _, by omega, h1, fun r hr => Nat.le_trans hs1 (h2 r hr), by rw [List.length_set]; omega, set_mem Hps.out hpk, Hr5.out.kept (grownBy_set w5 gb _ _) (fun g e => by cases e; omega), by omega, grown_row Hg5.out (grownBy_set w5 gb _ _) (fun g e => by cases e; omega)⟩
  have e1 : (s == 1) = false := by rw [beq_eq_false_iff_ne]; exact h1
  clear h1
  by_cases h2 : s = 2
  · subst h2
    go_wp2_with fail
    refine (pick_any R 9 (p2 + 1 + 1) _ (by omega) Hr4.out (by omega)).mono ?_
    rintro e w5 ⟨d, rfl, hd0, hd1, hr5, hg5⟩
    have hs5 := hg5.size
    have Hoc5 := Lib.hid (Hoc4.out.kept hg5 (.inr fun e => by have := (Hoc4.out.lt R e).1; omega))
    have hog5 := Hog4.out.same fun b h1 h2 => hg5.block b (by omega) (fun e => by cases e; omega)
    obtain ⟨q0, q1, ⟨pa, pc, q2⟩, q3, f0, f1, f2, f3⟩ := vx_cells hog5 hk
    have Hog5 := Lib.hid (show OwnR 61 3 4 (w5.setCell ⟨gb, k * 4 + 1, none⟩ (.int .i64 (d - 1))) _ _ _ _ from vx_setI hog5 rfl hk 1 (by omega) (d - 1) ⟨g[k].r, d - 1, g[k].ps, g[k].d⟩ rfl); clear hog5
    have Hr5 := Lib.hid hr5; clear hr5
    have Hg5 := Lib.hid (grownBy_trans Hg4.out hg5); clear hg5
    have hpk := Hps.out _ (List.getElem_mem hk)
    have hwd : IntKind.i64.wrap (d - 1) = d - 1 := IntWalk.i64_in _ (by omega)
    go_wp2
    go_ret2
    obtain ⟨fp, h1, h2⟩ := ownR_gr Hog5.out
    exact ⟨_, c, _, _, fp, p2 + 1 + 1 + 1, rfl, Hoc5.out.set_other (fun e => by have := Hcb.out gb e; omega) _ _, by omega, h1, fun r hr => Nat.le_trans hs1 (h2 r hr), by rw [List.length_set]; omega, set_mem Hps.out hpk, Hr5.out.kept (grownBy_set w5 gb _ _) (fun g e => by cases e; omega), by omega, grown_row Hg5.out (grownBy_set w5 gb _ _) (fun g e => by cases e; omega)⟩
  have e2 : (s == 2) = false := by rw [beq_eq_false_iff_ne]; exact h2
  clear h2
  by_cases h3 : s = 3
  · subst h3
    go_wp2_with fail
    refine (drawMembers R (p2 + 1 + 1) c.length _ (by omega) (by omega) Hr4.out (by omega)).mono ?_
    rintro e w5 ⟨u, ps, p5, rfl, hu, hul, hr5, hp5, hg5⟩
    have hs5 := hg5.size
    have Hoc5 := Lib.hid (Hoc4.out.kept hg5 (.inr fun e => by have := (Hoc4.out.lt R e).1; omega))
    have hog5 := Hog4.out.same fun b h1 h2 => hg5.block b (by omega) (fun e => by cases e; omega)
    obtain ⟨q0, q1, ⟨pa, pc, q2⟩, q3, f0, f1, f2, f3⟩ := vx_cells hog5 hk
    have hul2 := hu.lt
    obtain ⟨au, cu, rfl, _, _⟩ := hu.ints
    have Hog5 := Lib.hid (vx_setP (hi' := w5.heap.size) hog5 rfl hk (hu.mono (show w1.heap.size ≤ w4.heap.size by omega)) (by omega) (fun b e => by have := hul2 b e; omega)); clear hog5 hu hul2
    have Hr5 := Lib.hid hr5; clear hr5
    have Hg5 := Lib.hid (grownBy_trans Hg4.out hg5); clear hg5
    go_wp2
    go_ret2
    obtain ⟨fp, h1, h2⟩ := ownR_gr Hog5.out
    exact ⟨_, c, _, _, fp, p5, rfl, Hoc5.out.set_other (fun e => by have := Hcb.out gb e; omega) _ _, by omega, h1, fun r hr => Nat.le_trans hs1 (h2 r hr), by rw [List.length_set]; omega, set_mem Hps.out (by simp only; omega), Hr5.out.kept (grownBy_set w5 gb _ _) (fun g e => by cases e; omega), by omega, grown_row Hg5.out (grownBy_set w5 gb _ _) (fun g e => by cases e; omega)⟩
  have e3 : (s == 3) = false := by rw [beq_eq_false_iff_ne]; exact h3
  clear h3
  by_cases h4 : s = 4
  · subst h4
    obtain ⟨fp, hgr, hfp⟩ := ownR_gr Hog4.out
    have hfl := hgr.lt
    obtain ⟨_, _, e, _, _, h9, hcg, h8⟩ := Rd.at hgr (sz := 4) (by simp; omega) (by intro e he; obtain ⟨e', he', rfl⟩ := List.mem_map.1 he; obtain ⟨y, _, rfl⟩ := List.mem_map.1 he'; rfl)
    clear e h9 h8
    have hsz4 : ∀ e ∈ (g.map Vx.fd).map (fun e => e.map Fd.dt), e.length = 4 := by intro e he; obtain ⟨e', he', rfl⟩ := List.mem_map.1 he; obtain ⟨y, _, rfl⟩ := List.mem_map.1 he'; rfl
    obtain ⟨fpA, hA, hAf⟩ := Rd.cut hgr hsz4 0 k 0 cg (by simp; omega) (fun _ => by simp) (fun _ => by omega)
    obtain ⟨o2, hif, fpB, hB, hBf⟩ := Rd.tail hgr hsz4 (k + 1) (by simp; omega)
    rw [Nat.zero_add] at hif
    rw [List.drop_zero] at hA
    simp only [List.length_map] at hB
    have HA := Lib.hid hA; clear hA
    have HB := Lib.hid hB; clear hB
    have HAf := Lib.hid (show ∀ r ∈ fpA, w1.heap.size ≤ r ∧ r < w4.heap.size from fun r hr => ⟨hfp r (hAf r hr), hfl r (hAf r hr)⟩)
    have HBf := Lib.hid (show ∀ r ∈ fpB, w1.heap.size ≤ r ∧ r < w4.heap.size from fun r hr => ⟨hfp r (hBf r hr), hfl r (hBf r hr)⟩)
    have Hszs := Lib.hid hsz4; clear hsz4 hgr hfp hfl hAf hBf Hog4
    have hwk : IntKind.i64.wrap ((k : Int) + 1) = (k : Int) + 1 := IntWalk.i64_in _ (by omega)
    have e1 : ((k : Int) + 1).toNat = k + 1 := by omega
    have e2 : 0 ≤ (k : Int) + 1 := by omega
    have e3' : (k : Int) + 1 ≤ (g.length : Int) := by omega
    have e4' : (k : Int) ≤ (cg : Int) := by omega
    have e5' : k ≤ cg := by omega
    have e6' : k + 1 ≤ g.length := by omega
    have e7' : (g.length : Int) ≤ (cg : Int) := by omega
    go_wp2_with fail
    refine wp_region_held_drew (S := fun _ => True) (by kernel_rfl) trivial (fun hH => ?_)
    refine takeH 1 (v := ?v1) rfl (by kernel_rfl) (by kernel_rfl) (by kernel_rfl) (fun _ _ _ h => h) hH rfl ?y1 ?r1
    case y1 => intro W hSw; go_simp; try with_reducible rfl
    try simp only [Act.put, List.setIfInBounds_toArray, List.set_cons_zero, List.set_cons_succ]
    refine takeH 2 (v := ?v2) rfl (by kernel_rfl) (by kernel_rfl) (by kernel_rfl) (fun _ _ _ h => h) hH rfl ?y2 ?r2
    case y2 => intro W hSw; go_simp; try with_reducible rfl
    try simp only [Act.put, List.setIfInBounds_toArray, List.set_cons_zero, List.set_cons_succ]
    refine takeH 3 (v := ?v3) rfl (by kernel_rfl) (by kernel_rfl) (by kernel_rfl) (fun _ _ _ h => h) hH rfl ?y3 ?r3
    case y3 => intro W hSw; go_simp; try with_reducible rfl
    try simp only [Act.put, List.setIfInBounds_toArray, List.set_cons_zero, List.set_cons_succ]
    refine takeH 5 (v := ?v5) rfl (by kernel_rfl) (by kernel_rfl) (by kernel_rfl) (fun _ _ _ h => h) hH rfl ?y5 ?r5
    case y5 => intro W hSw; go_simp; try with_reducible rfl
    try simp only [Act.put, List.setIfInBounds_toArray, List.set_cons_zero, List.set_cons_succ]
    refine takeH 6 (v := ?v6) rfl (by kernel_rfl) (by kernel_rfl) (by kernel_rfl) (fun _ _ _ h => h) hH rfl ?y6 ?r6
    case y6 => intro W hSw; go_simp; try with_reducible rfl
    try simp only [Act.put, List.setIfInBounds_toArray, List.set_cons_zero, List.set_cons_succ]
    refine takeH 7 (v := ?v7) rfl (by kernel_rfl) (by kernel_rfl) (by kernel_rfl) (fun _ _ _ h => h) hH rfl ?y7 ?r7
    case y7 => intro W hSw; go_simp; try with_reducible rfl
    try simp only [Act.put, List.setIfInBounds_toArray, List.set_cons_zero, List.set_cons_succ]
    refine takeH 8 (v := ?v8) rfl (by kernel_rfl) (by kernel_rfl) (by kernel_rfl) (fun _ _ _ h => h) hH rfl ?y8 ?r8
    case y8 => intro W hSw; go_simp; try with_reducible rfl
    try simp only [Act.put, List.setIfInBounds_toArray, List.set_cons_zero, List.set_cons_succ]
    refine callH 0 rfl (by kernel_rfl) rfl (fun K hK => ?_)
    go_simp
    refine hK.out _ _ trivial (fun hH => ?_)
    clear hK K
    try simp only [Act.put, List.setIfInBounds_toArray, List.set_cons_zero, List.set_cons_succ]
    have hga : w4.grownBy ((w4.alloc (.cells #[] 61)).drew) none := grownBy_drewN (World.grownBy_alloc w4 (.cells #[] 61) none) 1
    have hbn : Bld 61 4 ((w4.alloc (.cells #[] 61)).drew) w1.heap.size (.slice (some ⟨w4.heap.size, 0, none⟩) 0 0) [] := Bld.nil (World.ownsRow_made w4 #[] 0 (show w1.heap.size ≤ w4.heap.size by omega) (by simp) (by simp))
    have hza : ((w4.alloc (.cells #[] 61)).drew).heap.size = w4.heap.size + 1 := by show (w4.alloc (.cells #[] 61)).heap.size = _; rw [World.size_alloc]
    have hA1 := HA.out.grown hga (fun r e => by cases e)
    have hB1 := HB.out.grown hga (fun r e => by cases e)
    generalize (w4.alloc (.cells #[] 61)).drew = w5 at *
    refine callH 4 rfl (by kernel_rfl) rfl (fun K hK => ?_)
    refine op_app_rows Try.underlying56 vertex_inf rfl (by decide) (by decide) w5 (.tmp 64) (.tmp 67) rfl w1.heap.size (.slice (some ⟨w4.heap.size, 0, none⟩) 0 0) (.slice (some ⟨gb, 0, none⟩) k cg) [] _ fpA rfl hbn rfl hA1 (fun e he => Hszs.out e (List.mem_of_mem_take he)) (fun r hr => ⟨(HAf.out r hr).1, fun e => by have := (HAf.out r hr).2; simp [Value.ownBlock] at e; omega⟩) (by simp; omega) (by omega) ?_
    intro v6 w6 hbl6 hg6 hlo6
    rw [List.nil_append] at hbl6
    have hB2 := hB1.grown hg6 (fun r e hm => by have := (HBf.out r hm).2; simp [Value.ownBlock] at e; omega)
    have hs6 := hg6.size
    refine hK.out _ _ trivial (fun hH => ?_)
    clear hK K
    try simp only [Act.put, List.setIfInBounds_toArray, List.set_cons_zero, List.set_cons_succ]
    refine callH 9 rfl (by kernel_rfl) rfl (fun K hK => ?_)
    refine op_app_rows Try.underlying56 vertex_inf rfl (by decide) (by decide) w6 (.tmp 68) (.tmp 72) rfl w1.heap.size v6 (.slice (some ⟨gb, o2, none⟩) (g.length - (k + 1)) (cg - (k + 1))) _ _ fpB rfl hbl6 (by first | rfl | (rw [← hif]; rfl)) hB2 (fun e he => Hszs.out e (List.mem_of_mem_drop he)) (fun r hr => ⟨(HBf.out r hr).1, fun e => by
      have := (HBf.out r hr).2
      rcases hlo6 r e with h | h
      · simp [Value.ownBlock] at h; omega
      · omega⟩) (by simp; omega) (by omega) ?_
    intro v7 w7 hbl7 hg7 hlo7
    refine hK.out _ _ trivial (fun hH => ?_)
    clear hK K
    try simp only [Act.put, List.setIfInBounds_toArray, List.set_cons_zero, List.set_cons_succ]
    refine takeH 10 (v := ?v10) rfl (by kernel_rfl) (by kernel_rfl) (by kernel_rfl) (fun _ _ _ h => h) hH rfl ?y10 ?r10
    case y10 => intro W hSw; go_simp; try with_reducible rfl
    try simp only [Act.put, List.setIfInBounds_toArray, List.set_cons_zero, List.set_cons_succ]
    refine wpAnyH_done (by kernel_rfl) ?_ _
    try simp only [Act.put]
    have hv6 : ∀ q, v6.ownBlock = some q → w4.heap.size ≤ q := fun q e => by
      rcases hlo6 q e with h | h
      · simp [Value.ownBlock] at h; omega
      · omega
    have hr5 := (Hr4.out.kept hga (fun q e => by cases e)).kept hg6 (fun q e => by have h : w4.heap.size = q := (by simpa [Value.ownBlock] using e); omega)
    have hoc7 := ((Hoc4.out.kept hga (by cases (Value.slice ac c.length cc).ownBlock <;> simp)).kept hg6 (.inr (fun e => by have h : w4.heap.size < w1.heap.size := Hcb.out _ e; omega))).kept hg7 (by
      cases hvc : (Value.slice ac c.length cc).ownBlock with
      | none => exact .inl rfl
      | some q => exact .inr fun e => by have := Hcb.out q hvc; have := hv6 q e.symm; omega)
    have Hr7 := Lib.hid (hr5.kept hg7 (fun q e => by have := hv6 q e; omega))
    have Hoc7 := Lib.hid hoc7
    have Hg7 := Lib.hid (grown_row (grown_row (grown_row Hg4.out hga (fun q e => by cases e)) hg6 (fun q e => by have h : w4.heap.size = q := (by simpa [Value.ownBlock] using e); omega)) hg7 (fun q e => by have := hv6 q e; omega))
    obtain ⟨fp, h1, h2⟩ := hbl7.rd
    have hgr : Gr w7 (g.take k ++ g.drop (k + 1)) v7 fp := by unfold Gr rowsD; rw [List.map_append, List.map_append, List.map_take, List.map_take, List.map_drop, List.map_drop]; exact h1
    have Hgr := Lib.hid hgr
    have Hfp := Lib.hid h2
    have Hps7 := Lib.hid (show ∀ x ∈ g.take k ++ g.drop (k + 1), x.ps.length ≤ 100 from fun x hx => by
      rcases List.mem_append.1 hx with hx | hx
      · exact Hps.out x (List.mem_of_mem_take hx)
      · exact Hps.out x (List.mem_of_mem_drop hx))
    clear hgr h1 h2 hoc7 hr5 hbl7 hbl6 hB2 hA1 hB1 hg7 hg6 hga
    go_wp2
    go_ret2
    exact ⟨_, c, v7, _, fp, p2 + 1 + 1, rfl, Hoc7.out, by omega, Hgr.out, fun r hr => Nat.le_trans hs1 (Hfp.out r hr), by rw [List.length_append, List.length_take, List.length_drop]; omega, Hps7.out, Hr7.out, by omega, Hg7.out⟩
  have e4 : (s == 4) = false := by rw [beq_eq_false_iff_ne]; exact h4
  clear h4
  by_cases h5 : s = 5
  · subst h5
    have hk' : k < (g.map Vx.fd).length := by simpa using hk
    have he : (g.map Vx.fd)[k] = g[k].fd := by simp
    obtain ⟨q0, q1, _, q3, _⟩ := vx_cells Hog4.out hk
    obtain ⟨pa, pc, q2, ho2, _, hne2, _⟩ := Hog4.out.fieldL (k := k) (j := 2) hk' (by rw [he]; simp [Vx.fd]) (xs := g[k].ps) (by simp only [he]; rfl)
    obtain ⟨fp2, hr2, hf2⟩ := Rd.of_own ho2
    have hcr : CellsRd w4 w1.heap.size (Value.slice (some ⟨gb, 0, none⟩) g.length cg).ownBlock [.int .i64 g[k].r, .int .i64 g[k].a, .slice pa g[k].ps.length pc, .int .i64 g[k].d] [.i g[k].r, .i g[k].a, intsD g[k].ps, .i g[k].d] := by
      intro j hj
      match j, hj with
      | 0, _ => exact ⟨_, [], rfl, .i _, by simp⟩
      | 1, _ => exact ⟨_, [], rfl, .i _, by simp⟩
      | 2, _ => exact ⟨_, fp2, rfl, hr2, fun r hr => ⟨(hf2 r hr).1, fun e => hne2 ((hf2 r hr).2.trans e.symm)⟩⟩
      | 3, _ => exact ⟨_, [], rfl, .i _, by simp⟩
    have Hcr := Lib.hid hcr; clear hcr ho2 hr2 hf2 hne2
    have Hbl := Lib.hid Hog4.out.bld
    have hel : ((g.map Vx.fd).map fun e => e.map Fd.dt).length ≤ 1048576 := by rw [List.length_map, List.length_map]; omega
    have Hex := Lib.hid (show ((g ++ [g[k]]).map Vx.fd).map (fun e => e.map Fd.dt) = (g.map Vx.fd).map (fun e => e.map Fd.dt) ++ [[.i g[k].r, .i g[k].a, intsD g[k].ps, .i g[k].d]] by rw [List.map_append, List.map_append]; rfl)
    have Hlt4 := Lib.hid Hog4.out.lt
    have hB4 : w1.heap.size ≤ w4.heap.size := by omega
    have hpk := Hps.out _ (List.getElem_mem hk)
    have Hap := Lib.hid (Hog4.out.apartI Hoc4.out (by decide))
    clear Hog4 he hk'
    generalize (g.map Vx.fd).map (fun e => e.map Fd.dt) = es at *
    generalize hy : g[k] = y at *
    go_wp2_with (at_builtin; refine wpList_push_row Try.underlying56 vertex_inf rfl (by decide) (by decide) rfl (.tmp 76) (.tmp 81) rfl w1.heap.size (.slice (some ⟨gb, 0, none⟩) g.length cg) es _ _ _ rfl rfl (by intro u hu; simp at hu; rcases hu with rfl | rfl | rfl | rfl <;> rfl) rfl Hbl.out rfl Hcr.out hel rfl hB4 ?_; intro v8 w8 hbl8 hg8 hat8)
    go_ret2
    obtain ⟨fp, h1, h2⟩ := hbl8.rd
    have hgr : Gr w8 (g ++ [y]) v8 fp := by unfold Gr rowsD; rw [Hex.out]; exact h1
    exact ⟨_, c, v8, g ++ [y], fp, p2 + 1 + 1, rfl, Hoc4.out.kept hg8 Hap.out, by omega, hgr, fun r hr => Nat.le_trans hs1 (h2 r hr), by rw [List.length_append]; simp; omega, fun x hx => by
      rcases List.mem_append.1 hx with hx | hx
      · exact Hps.out x hx
      · simp at hx; subst hx; exact hpk, Hr4.out.kept hg8 (fun q e => by have := (Hbl.out.lt q e).1; omega), by omega, grown_row Hg4.out hg8 (fun q e => by have := (Hbl.out.lt q e).1; omega)⟩
  have e5 : (s == 5) = false := by rw [beq_eq_false_iff_ne]; exact h5
  clear h5
  by_cases h6 : s = 6
  · subst h6
    go_wp2_with fail
    refine (drawCommittee R (p2 + 1 + 1) _ (by omega) Hr4.out (by omega)).mono ?_
    rintro e w5 ⟨u, c5, p5, rfl, hu, hul, _, hr5, hp5, hg5⟩
    have hs5 := hg5.size
    have Hog5 := Lib.hid (Hog4.out.same fun b h1 h2 => hg5.block b (by omega) (fun e => by cases e; omega))
    obtain ⟨au, cu, rfl, _, _⟩ := hu.ints
    have Hu := Lib.hid (hu.mono (show w.heap.size ≤ w4.heap.size by omega)); clear hu
    have Hr5 := Lib.hid hr5; clear hr5
    have Hg5 := Lib.hid (grownBy_trans Hg4.out hg5); clear hg5
    go_wp2
    go_ret2
    obtain ⟨fp, h1, h2⟩ := ownR_gr Hog5.out
    exact ⟨_, c5, _, g, fp, p5, rfl, Hu.out, hul, h1, fun r hr => Nat.le_trans hs1 (h2 r hr), by omega, Hps.out, Hr5.out, by omega, Hg5.out⟩
  have e6 : (s == 6) = false := by rw [beq_eq_false_iff_ne]; exact h6
  clear h6
  go_wp2
  go_ret2
  obtain ⟨fp, h1, h2⟩ := ownR_gr Hog4.out
  exact ⟨_, c, _, g, fp, p2 + 1 + 1, rfl, Hoc4.out, by omega, h1, fun r hr => Nat.le_trans hs1 (h2 r hr), by omega, Hps.out, Hr4.out, by omega, Hg4.out⟩

end Go.Proofs.Yteglefchkecfjaa

/- The draws of GraphValid, GraphAuthors and GraphHeight: what is drawn reads as a graph in new memory; each by a walk of its text; condition: the code is shorter than 2^20. -/
namespace Go.Proofs.Yteglefchkecfjaa
open Go.RowKit

theorem Gr.capl {w : World} {g : List Vx} {a : Option Addr} {cap : Nat} {fp : List Nat} (h : Gr w g (.slice a g.length cap) fp) : g.length ≤ cap := by
  unfold Gr rowsD at h
  obtain ⟨a', cap', h1 | ⟨h1, _⟩⟩ := Rd.list h
  · obtain ⟨e, hle⟩ := h1
    simp only [Value.slice.injEq] at e
    obtain ⟨_, _, rfl⟩ := e
    simpa using hle
  · have : g.length = 0 := by simpa using congrArg List.length h1
    omega

set_option maxHeartbeats 1000000 in
theorem spec_DrawGraphValid (a : Option Addr) (cap : Nat) (zs : List Int) (w : World) (h : CodeAt w a cap zs) :
    Calls Try.prog 36 #[.slice a zs.length cap] w fun e w' => ∃ vc c vg g fp, e = .returned (.tuple #[vc, vg]) ∧ Own 3 w' w.heap.size vc c ∧ c.length ≤ 11 ∧ Gr w' g vg fp ∧ (∀ r ∈ fp, w.heap.size ≤ r) ∧ g.length ≤ 281 ∧ (∀ x ∈ g, x.ps.length ≤ 100) ∧ Below w.heap.size w w' := by
  go_enter Try.func36, Try.ntmps36
  go_wp2_with fail
  refine (open_any a cap zs _ h).mono ?_
  rintro e w1 ⟨R, rfl, hR0, hR1, hr1, hb1⟩
  have Hr1 := Lib.hid hr1; clear hr1
  have Hb1 := Lib.hid hb1; clear hb1
  go_wp2_with fail
  refine (pick_any R 9 0 _ (by omega) Hr1.out (by omega)).mono ?_
  rintro e w2 ⟨n, rfl, hn0, hn1, hr2, hg2⟩
  have hs2 := hg2.size
  have Hr2 := Lib.hid hr2; clear hr2
  have Hb2 := Lib.hid (Hb1.out.grown hg2 Hb1.out.size (fun g e => by cases e; exact hR0)); clear hg2
  go_wp2_with fail
  refine (drawSpoilt R (0 + 1) n w2 (by omega) hn0 (by omega) Hr2.out (by omega)).mono ?_
  rintro e w3 ⟨vc, c, vg, g, fp, p3, rfl, hoc, hcl, hgr, hfp, hgl, hps, hr3, hp3, hg3⟩
  have hs3 := hg3.size
  obtain ⟨ac, cc, rfl, _, _⟩ := hoc.ints
  have hw12 := Hb2.out.size
  have Hoc3 := Lib.hid hoc; clear hoc
  have Hgr3 := Lib.hid hgr; clear hgr
  have Hfp := Lib.hid hfp; clear hfp
  have Hr3 := Lib.hid hr3; clear hr3
  have Hb3 := Lib.hid (Hb2.out.grown hg3 Hb2.out.size (fun g e => by cases e; exact hR0)); clear hg3
  go_wp2
  refine bodyPost_ret (v := .tuple #[.slice ac c.length cc, vg]) (by simp [results, Try.f36, go_sem]) rfl ?_
  exact ⟨_, c, vg, g, fp, rfl, Hoc3.out.mono (by omega), hcl, Hgr3.out, fun r hr => Nat.le_trans (by omega) (Hfp.out r hr), hgl, hps, Hb3.out⟩

end Go.Proofs.Yteglefchkecfjaa
