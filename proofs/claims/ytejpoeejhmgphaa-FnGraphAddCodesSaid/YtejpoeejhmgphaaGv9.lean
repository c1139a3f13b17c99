/- The draws of graphs: what is drawn is a graph in new memory, each by a walk of its text; condition: at most 10^5 picks before. -/
import Derived.Test.YtejpoeejhmgphaaRows
import Derived.Test.YtejpoeejhmgphaaGv7
import Derived.Test.YtejpoeejhmgphaaD1
import Derived.Test.YtejpoeejhmgphaaD2
namespace Go.Proofs.Ytejpoeejhmgphaa
open Go.RowKit

theorem own_litG (E : TypeId) (w : World) {B : Nat} (xs : List Int) (hB : B ≤ w.heap.size) (hm : xs.length ≤ maxLen) :
    Own E (w.alloc (.cells (xs.map (Value.int .i64)).toArray E)) B (.slice (some ⟨w.heap.size, 0, none⟩) xs.length xs.length) xs :=
  ⟨by simp, .inr ⟨w.heap.size, xs.length, _, rfl, hB, heap_alloc_new w _, Nat.le_refl _, hm, by simp, by simp [List.take_of_length_le]⟩⟩

theorem drawGoodV (R p : Nat) (w : World) (hp : p ≤ 1000000) (hr : Rdr w R p) (hR : R < w.heap.size) :
    Calls Try.prog 51 #[.pointer (some ⟨R, 0, none⟩)] w fun e w' => ∃ v xs p', e = .returned v ∧ Own 3 w' w.heap.size v xs ∧ validB xs = true ∧ Rdr w' R p' ∧ p' ≤ p + 20 ∧ w.grownBy w' (some R) := by
  go_enter Try.func51, Try.ntmps51
  go_wp2_with fail
  refine (drawCommittee R p _ hp hr hR).mono ?_
  rintro e w2 ⟨v, c, p', rfl, hown, hcl, hsm, hr2, hp', hg2⟩
  obtain ⟨a, cap, rfl, hi, _⟩ := hown.ints
  have hz := hg2.size
  have hv' := spec_CommitteeValid a cap c w2 (by omega) hi
  have Hr2 := Lib.hid hr2; clear hr2
  have Hg2 := Lib.hid hg2; clear hg2
  cases hv : validB c with
  | true =>
    rw [hv] at hv'
    have Hvv := Lib.hid hv
    have Hv := Lib.hid hv'; clear hv' hv hi
    have Hown := Lib.hid hown; clear hown
    go_wp2_with fail
    refine Hv.out.mono ?_
    rintro e w3 ⟨rfl, rfl⟩
    go_wp2
    go_ret
    exact ⟨_, c, p', rfl, Hown.out, Hvv.out, Hr2.out, hp', Hg2.out⟩
  | false =>
    rw [hv] at hv'
    have Hv := Lib.hid hv'; clear hv' hv hi hown
    go_wp2_with fail
    refine Hv.out.mono ?_
    rintro e w3 ⟨rfl, rfl⟩
    go_wp2
    go_ret
    exact ⟨_, [1, 1, 1, 1], p', rfl, own_litG 3 w2 [1, 1, 1, 1] hz (by unfold maxLen; simp), by decide, Hr2.out.alloc _, hp', grownBy_trans Hg2.out (World.grownBy_alloc _ _ _)⟩

/-- Valid vertices in order. -/
def GOk (c : List Int) (g : List Vx) : Prop := (∀ x ∈ g, vtxB c x = true) ∧ g.Pairwise fun a b => befB a b = true
theorem gOk_nil (c : List Int) : GOk c [] := ⟨by simp, .nil⟩
theorem gOk_push {c : List Int} {g : List Vx} {x : Vx} (h : GOk c g) (hx : vtxB c x = true) (hb : ∀ y ∈ g, y.r < x.r ∨ y.r = x.r ∧ y.a < x.a) : GOk c (g ++ [x]) := by
  refine ⟨fun y hy => ?_, List.pairwise_append.2 ⟨h.2, by simp, fun a ha b hb' => ?_⟩⟩
  · rcases List.mem_append.1 hy with hy | hy
    · exact h.1 y hy
    · simp at hy; subst hy; exact hx
  · simp at hb'; subst hb'
    exact decide_eq_true (hb a ha)
theorem gOk_auth {c : List Int} {g : List Vx} (h : GOk c g) (r : Int) : (authZ g r).Pairwise (· < ·) ∧ ∀ m ∈ authZ g r, 0 ≤ m ∧ m < c.length := by
  refine ⟨?_, fun m hm => ?_⟩
  · unfold authZ
    rw [List.pairwise_map]
    refine List.Pairwise.imp_of_mem (R := fun a b => befB a b = true) (fun {a b} ha hb hab => ?_) (h.2.filter _)
    have ha := of_decide_eq_true (List.mem_filter.1 ha).2
    have hb := of_decide_eq_true (List.mem_filter.1 hb).2
    have := of_decide_eq_true hab
    omega
  · unfold authZ at hm
    obtain ⟨x, hx, rfl⟩ := List.mem_map.1 hm
    exact vtx_author (h.1 x (List.mem_filter.1 hx).1)
theorem members_sub {n : Nat} {H ps : List Int} (h : H.Pairwise (· < ·) ∧ ∀ m ∈ H, 0 ≤ m ∧ m < n) (hs : ps.Sublist H) : membersB n ps = true :=
  members_pairwise (h.1.sublist hs) fun m hm => h.2 m (hs.subset hm)

theorem OwnR.apartI {E E' Ei : TypeId} {sz : Nat} {w : World} {B B' hi : Nat} {v u : Value} {es : List (List Fd)} {xs : List Int} (h : OwnR E Ei sz w B hi v es) (h' : Own E' w B' u xs) (hE : E ≠ E') : u.ownBlock = none ∨ u.ownBlock ≠ v.ownBlock := by
  obtain ⟨cs, h1, _⟩ := h.row
  rcases h'.2 with ⟨rfl, _⟩ | ⟨g, cap, cur, rfl, _, hg, _⟩
  · exact .inl rfl
  · rcases h1.2 with ⟨rfl, _⟩ | ⟨g', cap', cur', rfl, _, hg', _⟩
    · exact .inr (fun e => by cases e)
    · refine .inr fun e => hE ?_
      have e' : g = g' := by cases e; rfl
      subst e'
      rw [hg] at hg'
      cases hg'
      rfl

set_option maxRecDepth 8000 in
set_option maxHeartbeats 4000000 in
theorem drawGraph (R p : Nat) (rounds : Int) (w : World) (ac : Option Addr) (capc : Nat) (c : List Int) (hp : p ≤ 100000) (hn0 : 0 ≤ rounds) (hn1 : rounds ≤ 40) (hv : validB c = true) (hr : Rdr w R p) (hR : R < w.heap.size) (hc : ∀ W, w.grownBy W (some R) → IntsAt W ac c) :
    Calls Try.prog 52 #[.pointer (some ⟨R, 0, none⟩), .slice ac c.length capc, .int .i64 rounds] w fun e w' => ∃ v g p', e = .returned v ∧ OwnR 30 3 4 w' w.heap.size w'.heap.size v (g.map Vx.fd) ∧ GOk c g ∧ g.length ≤ 280 ∧ Rdr w' R p' ∧ p' ≤ p + 80000 ∧ w.grownBy w' (some R) := by
  obtain ⟨hc1, hc7⟩ := validB_len hv
  have Hr0 := Lib.hid (hr.alloc (.cells #[] 30)); clear hr
  have Hg0 := Lib.hid (World.grownBy_alloc w (.cells #[] 30) (some R))
  have hv0 : OwnR 30 3 4 (w.alloc (.cells #[] 30)) w.heap.size (w.alloc (.cells #[] 30)).heap.size (.slice (some ⟨w.heap.size, 0, none⟩) 0 0) [] := .nil (World.ownsRow_made w #[] 0 (Nat.le_refl _) (by simp) (by simp)) (fun g e => by cases e; simp)
  have Hv0 := Lib.hid hv0; clear hv0
  have Hc := Lib.hid hc; clear hc
  obtain ⟨rounds, rfl⟩ := Int.eq_ofNat_of_zero_le hn0
  have HWt := Lib.hid (fun ps am cap W (hm : membersB c.length ps = true) (hl : ps.length ≤ 1099511627776) h h' => spec_l1Weight ac capc c am cap ps W hv hm hl h h')
  have HQt := Lib.hid (fun W h => spec_l1Quorum ac capc c W hv h)
  have HVx := Lib.hid (fun r a d pa pc ps W (hl : ps.length ≤ 1099511627776) h h' => spec_l11Vertex ac capc c r a d pa pc ps W hv hl h h')
  go_enter Try.func52, Try.ntmps52
  go_wp2_with fail
  go_loopw [7, 8] (fun v i wr => ∃ (n : Nat) (g : List Vx) (q : Nat), n ≤ rounds ∧ i = .int .i64 n ∧ OwnR 30 3 4 wr w.heap.size wr.heap.size v (g.map Vx.fd) ∧ GOk c g ∧ (∀ x ∈ g, x.r < n) ∧ g.length ≤ 7 * n ∧ Rdr wr R q ∧ q ≤ p + 2000 * n ∧ w.grownBy wr (some R)) (fun _ i _ => rounds - (intOf i).toNat)
  case atStart => exact ⟨0, [], p, Nat.zero_le _, rfl, Hv0.out, gOk_nil c, by simp, by simp, Hr0.out, by omega, Hg0.out⟩
  case round =>
    obtain ⟨n, g0, q0, hn, rfl, hown, hok, hlt0, hgl, hrd, hq, hgr⟩ := hrel
    have Hown := Lib.hid hown; clear hown
    have Hrd := Lib.hid hrd; clear hrd
    have Hgr := Lib.hid hgr; clear hgr
    have Hok := Lib.hid hok; clear hok
    have Hlt0 := Lib.hid hlt0; clear hlt0
    by_cases hlt : n < rounds
    case neg =>
      have hn40 : n ≤ 40 := by omega
      go_wp2
      go_ret
      exact ⟨_, g0, q0, rfl, Hown.out, Hok.out, by omega, Hrd.out, by omega, Hgr.out⟩
    case pos =>
    obtain ⟨fo, hro⟩ := Hown.out.reads
    have hwn : IntKind.i64.wrap ((n : Int) - 1) = n - 1 := IntWalk.i64_in _ (by omega)
    have Hau := Lib.hid (spec_l11Authors g0 _ fo ((n : Int) - 1) wr (by omega) hro); clear hro
    have Hasc := Lib.hid (gOk_auth Hok.out ((n : Int) - 1))
    have hHl := authZ_len g0 ((n : Int) - 1)
    generalize authZ g0 ((n : Int) - 1) = H at *
    go_wp2_with fail
    refine Hau.out.mono ?_
    rintro e w2 ⟨uh, rfl, hoh, hb2⟩
    have hs2 := hb2.size
    have Hown2 := Lib.hid (Hown.out.below hb2 (Nat.le_refl _))
    have Hrd2 := Lib.hid (Hrd.out.kept (below_grown hb2) (fun g e => by cases e))
    have Hgr2 := Lib.hid (grown_row Hgr.out (below_grown hb2) (fun g e => by cases e))
    have hRw := Hgr.out.size
    have Hoh := Lib.hid (hoh.mono hRw)
    obtain ⟨ah, ch, rfl, hih, hsh, _⟩ := hoh.src
    clear hb2 hoh hih hsh
    go_wp2
    go_loopw [7, 10] (fun v i wr => ∃ (a : Nat) (g : List Vx) (q : Nat), a ≤ c.length ∧ i = .int .i64 a ∧ OwnR 30 3 4 wr w.heap.size wr.heap.size v (g.map Vx.fd) ∧ GOk c g ∧ (∀ x ∈ g, x.r < n ∨ x.r = n ∧ x.a < a) ∧ g.length ≤ 7 * n + a ∧ Rdr wr R q ∧ q ≤ p + 2000 * n + 283 * a ∧ w.grownBy wr (some R) ∧ Own 3 wr w.heap.size (.slice ah H.length ch) H ∧ w2.heap.size ≤ wr.heap.size) (fun _ i _ => c.length - (intOf i).toNat)
    case atStart => exact ⟨0, g0, q0, Nat.zero_le _, rfl, Hown2.out.mono hs2, Hok.out, fun x hx => .inl (Hlt0.out x hx), by omega, Hrd2.out, by omega, Hgr2.out, Hoh.out, Nat.le_refl _⟩
    case round =>
      obtain ⟨a, g, q, ha, rfl, hown, hok, hord, hgl, hrd, hq, hgr, hoh, hsz⟩ := hrel
      have Hown := Lib.hid hown; clear hown
      have Hrd := Lib.hid hrd; clear hrd
      have Hgr := Lib.hid hgr; clear hgr
      have Hok := Lib.hid hok; clear hok
      have Hord := Lib.hid hord; clear hord
      have Hoh := Lib.hid hoh; clear hoh
      by_cases hal : a < c.length
      case neg =>
        have hac : a = c.length := by omega
        subst hac
        go_wp2
        go_roundw
        case rel => exact ⟨n + 1, g, q, by omega, by go_num, Hown.out, Hok.out, fun x hx => by have := Hord.out x hx; omega, by omega, Hrd.out, by omega, Hgr.out⟩
        case measure => simp [intOf]; omega
      case pos =>
      go_wp2_with fail
      refine (pick_any R 6 q _ (by omega) Hrd.out (by omega)).mono ?_
      rintro e w3 ⟨z, rfl, hz0, hz1, hr3, hg3⟩
      have hs3 := hg3.size
      have Hrd3 := Lib.hid hr3; clear hr3
      have Hgr3 := Lib.hid (grownBy_trans Hgr.out hg3)
      have Hown3 := Lib.hid ((Hown.out.same fun b h1 h2 => hg3.block b (by omega) (fun e => by cases e; omega)).mono hs3)
      have Hoh3 := Lib.hid (Hoh.out.kept hg3 (.inr fun e => by have := (Hoh.out.lt R e).1; omega))
      clear hg3
      by_cases hz : z = 0
      · subst hz
        go_wp2
        go_roundw
        case rel => exact ⟨a + 1, g, q + 1, by omega, by go_num, Hown3.out, Hok.out, fun x hx => by have := Hord.out x hx; omega, by omega, Hrd3.out, by omega, Hgr3.out, Hoh3.out, by omega⟩
        case measure => simp [intOf]; omega
      have hz' : (z == 0) = false := by simpa using hz
      clear hz hz0 hz1 Hrd Hgr Hown Hoh
      have hwa : IntKind.i64.wrap (31 * (n : Int)) = 31 * n := IntWalk.i64_in _ (by omega)
      have hwb : IntKind.i64.wrap (7 * (a : Int)) = 7 * a := IntWalk.i64_in _ (by omega)
      have hwc : IntKind.i64.wrap (31 * (n : Int) + 7 * (a : Int)) = 31 * n + 7 * a := IntWalk.i64_in _ (by omega)
      go_wp2_with fail
      refine (pick_any R 90 (q + 1) _ (by omega) (Hrd3.out.alloc _) (by omega)).mono ?_
      rintro e w5 ⟨y, rfl, hy0, hy1, hr5, hg5⟩
      have ho5 := (own_empty 3 w3 (Nat.le_refl _)).kept hg5 (.inr fun e => by have := Hrd3.out.lt; simp [Value.ownBlock] at e; omega)
      have hg5' := grownBy_trans (World.grownBy_alloc w3 (.cells #[] 3) (some R)) hg5
      have hs5 : w3.heap.size + 1 ≤ w5.heap.size := by have := hg5.size; simpa using this
      have Hrd5 := Lib.hid hr5; clear hr5
      have Ho5 := Lib.hid ho5; clear ho5
      have Hg5 := Lib.hid hg5'; clear hg5' hg5
      have hwd : IntKind.i64.wrap (31 * (n : Int) + 7 * (a : Int) + y) = 31 * n + 7 * a + y := IntWalk.i64_in _ (by omega)
      obtain ⟨D, hD⟩ : ∃ D, (31 * (n : Int) + 7 * (a : Int) + y).tmod 991 = D := ⟨_, rfl⟩
      have hDb : -9223372036854775808 ≤ D ∧ D ≤ 9223372036854775807 := by
        rw [← hD, Int.tmod_eq_emod_of_nonneg (by omega)]; omega
      have hs0 := Str.new w5 30 #[.int .i64 n, .int .i64 a, .slice (some ⟨w3.heap.size, 0, none⟩) 0 0, .int .i64 D]
      have hgA := grownBy_trans Hg5.out (World.grownBy_alloc w5 (.cells #[.int .i64 n, .int .i64 a, .slice (some ⟨w3.heap.size, 0, none⟩) 0 0, .int .i64 D] 30) (some R))
      have hoA := Ho5.out.alloc (.cells #[.int .i64 n, .int .i64 a, .slice (some ⟨w3.heap.size, 0, none⟩) 0 0, .int .i64 D] 30)
      have hrA := Hrd5.out.alloc (.cells #[.int .i64 n, .int .i64 a, .slice (some ⟨w3.heap.size, 0, none⟩) 0 0, .int .i64 D] 30)
      have HsA := Lib.hid hs0; clear hs0
      have HgA := Lib.hid hgA; clear hgA
      have HoA := Lib.hid hoA; clear hoA
      have HrA := Lib.hid hrA; clear hrA Hrd5 Ho5 Hg5
      have hw3 := Hgr3.out.size
      go_wp2
      clear hwa hwb hwc hwd hD
      generalize w5.alloc (.cells #[.int .i64 n, .int .i64 a, .slice (some ⟨w3.heap.size, 0, none⟩) 0 0, .int .i64 D] 30) = w6 at *
      generalize w5.heap.size = Bv at *
      go_loopw [12] (fun i wr => ∃ (k : Nat) (ps : List Int) (vp : Value) (q2 : Nat), k ≤ H.length ∧ i = .int .i64 k ∧ ps.Sublist (H.take k) ∧ Str wr Bv 30 #[.int .i64 n, .int .i64 a, vp, .int .i64 D] ∧ Own 3 wr w3.heap.size vp ps ∧ vp.ownBlock ≠ some Bv ∧ Rdr wr R q2 ∧ q2 ≤ q + 2 + k ∧ w3.grownBy wr (some R)) (fun i _ => H.length - (intOf i).toNat)
      case atStart => exact ⟨0, [], _, q + 1 + 1, Nat.zero_le _, rfl, by simp, HsA.out, HoA.out, by simp [Value.ownBlock]; omega, HrA.out, by omega, HgA.out⟩
      case round =>
        obtain ⟨k, ps, vp, q2, hk, rfl, hsub, hst, hop, hne, hrd, hq2, hg3r⟩ := hrel
        have Hst := Lib.hid hst; clear hst
        have Hop := Lib.hid hop; clear hop
        have Hrd := Lib.hid hrd; clear hrd
        have Hg3r := Lib.hid hg3r; clear hg3r
        have Hsub := Lib.hid hsub; clear hsub
        have Hne := Lib.hid hne; clear hne
        have hBw := Hst.out.lt
        have Hohr := Lib.hid (Hoh3.out.kept Hg3r.out (.inr fun e => by have := (Hoh3.out.lt R e).1; omega))
        by_cases hlt2 : k < H.length
        · obtain ⟨bh, ch', e, hbB, hbs, _, hcells, _⟩ := Hohr.out.row (by omega)
          simp only [Value.slice.injEq, true_and] at e
          obtain ⟨rfl, rfl⟩ := e
          have hch := hcells k hlt2
          have hb3 : bh < w3.heap.size := by
            exact (Hoh3.out.lt bh rfl).2
          clear hcells
          by_cases hn0 : n = 0
          · exfalso; omega
          have hnn : decide ((0 : Int) < (n : Int)) = true := decide_eq_true (by omega)
          have hnn' : (0 : Int) < (n : Int) := by omega
          clear hn0
          go_wp2_with fail
          refine (pick_any R 8 q2 _ (by omega) Hrd.out (by omega)).mono ?_
          rintro e w7 ⟨u, rfl, hu0, hu1, hr7, hg7⟩
          have hs7 := hg7.size
          have Hrd7 := Lib.hid hr7; clear hr7
          have Hst7 := Lib.hid (Hst.out.kept hg7 (by simp; omega))
          have Hop7 := Lib.hid (Hop.out.kept hg7 (.inr fun e => by have := (Hop.out.lt R e).1; have := Hgr3.out.size; omega))
          have Hg37 := Lib.hid (grownBy_trans Hg3r.out hg7)
          have hch7 : w7.cell? ⟨bh, k, none⟩ = some (.int .i64 H[k]) := hg7.cell hch (by simp; omega)
          clear hg7 hch
          by_cases hu : 0 < u
          · have hud : decide ((0 : Int) < u) = true := decide_eq_true hu
            have Hsub' := Lib.hid (show (ps ++ [H[k]]).Sublist (H.take (k + 1)) by
              rw [List.take_succ_eq_append_getElem hlt2]
              exact Hsub.out.append (List.Sublist.refl _))
            generalize H[k] = x at *
            have h2 : w7.drew.cell? ⟨Bv, 2, none⟩ = some vp := Hst7.out.cell 2 (v := vp) rfl
            have h3 : w7.drew.cell? ⟨bh, k, none⟩ = some (.int .i64 x) := hch7
            go_wp2_with fail
            refine wp_region_L 9 (fun w' => w'.cell? ⟨Bv, 2, none⟩ = some vp ∧ w'.cell? ⟨bh, k, none⟩ = some (.int .i64 x)) (by kernel_rfl) ⟨h2, h3⟩ (fun hH => ?_)
            refine takeL 0 (v := ?v0) rfl (by kernel_rfl) (by kernel_rfl) (by kernel_rfl) (by kernel_rfl) (by kernel_rfl) (fun _ _ _ h => h) hH rfl ?y0 ?r0
            case y0 => intro W hSw; go_simp; try with_reducible rfl
            try simp only [Act.put, List.setIfInBounds_toArray, List.set_cons_zero, List.set_cons_succ]
            refine takeL 1 (v := ?v1) rfl (by kernel_rfl) (by kernel_rfl) (by kernel_rfl) (by kernel_rfl) (by kernel_rfl) (fun _ _ _ h => h) hH rfl ?y1 ?r1
            case y1 => intro W hSw; go_simp; try with_reducible rfl
            try simp only [Act.put, List.setIfInBounds_toArray, List.set_cons_zero, List.set_cons_succ]
            refine takeL 2 (v := ?v2) rfl (by kernel_rfl) (by kernel_rfl) (by kernel_rfl) (by kernel_rfl) (by kernel_rfl) (fun _ _ _ h => h) hH rfl ?y2 ?r2
            case y2 => intro W hSw; go_simp; try with_reducible rfl
            try simp only [Act.put, List.setIfInBounds_toArray, List.set_cons_zero, List.set_cons_succ]
            refine takeL 3 (v := ?v3) rfl (by kernel_rfl) (by kernel_rfl) (by kernel_rfl) (by kernel_rfl) (by kernel_rfl) (fun _ _ _ h => h) hH rfl ?y3 ?r3
            case y3 => intro W hSw; go_simp; try with_reducible rfl
            try simp only [Act.put, List.setIfInBounds_toArray, List.set_cons_zero, List.set_cons_succ]
            refine takeL 4 (v := ?v4) rfl (by kernel_rfl) (by kernel_rfl) (by kernel_rfl) (by kernel_rfl) (by kernel_rfl) (fun _ _ _ h => h) hH rfl ?y4 ?r4
            case y4 => intro W hSw; go_simp; try with_reducible rfl
            try simp only [Act.put, List.setIfInBounds_toArray, List.set_cons_zero, List.set_cons_succ]
            refine takeL 5 (v := ?v5) rfl (by kernel_rfl) (by kernel_rfl) (by kernel_rfl) (by kernel_rfl) (by kernel_rfl) (fun _ _ _ h => h) hH rfl ?y5 ?r5
            case y5 => intro W hSw; go_simp; try with_reducible rfl
            try simp only [Act.put, List.setIfInBounds_toArray, List.set_cons_zero, List.set_cons_succ]
            refine callL 6 rfl (by kernel_rfl) rfl (fun K hK => ?_)
            go_simp
            refine hK.out _ _ ⟨(World.grownBy_alloc w7.drew _ none).cell h2 (by simp), (World.grownBy_alloc w7.drew _ none).cell h3 (by simp)⟩ (fun hH => ?_)
            clear hK K
            try simp only [Act.put, List.setIfInBounds_toArray, List.set_cons_zero, List.set_cons_succ]
            have hown7 : Own 3 w7.drew w3.heap.size vp ps := Hop7.out
            have hst7 : Str w7.drew Bv 30 #[.int .i64 n, .int .i64 a, vp, .int .i64 D] := Hst7.out
            have hpl : ps.length ≤ 1099511627776 := by have := Hsub.out.length_le; rw [List.length_take] at this; omega
            have hB7 : w3.heap.size ≤ w7.drew.heap.size := Hg37.out.size
            have hg37 : w3.grownBy w7.drew (some R) := grownBy_drewN Hg37.out 1
            have hrd7 : Rdr w7.drew R (q2 + 1) := Hrd7.out.drewN 1
            refine callL 7 rfl (by kernel_rfl) rfl (fun K hK => ?_)
            refine op_push_at TIg w7.drew (.tmp 59) (.tmp 64) rfl w3.heap.size vp ps x rfl hown7 hpl rfl hB7 ?_
            intro v9 w9 hown9 hg9 hat9
            obtain ⟨g9, c9, rfl⟩ := own_succ hown9
            have s9 := hst7.kept hg9 (fun e => Hne.out e.symm)
            have h9 := s9.cell 2 (v := vp) rfl
            have f9 := s9.frozen 2
            have h39 : w9.cell? ⟨bh, k, none⟩ = some (.int .i64 x) := hg9.cell h3 (by intro e; have h' : w3.heap.size ≤ bh := (hown7.lt _ e.symm).1; omega)
            refine hK.out _ _ ⟨h9, h39⟩ (fun hH => ?_)
            clear hK K
            try simp only [Act.put, List.setIfInBounds_toArray, List.set_cons_zero, List.set_cons_succ]
            refine takeL 8 (v := ?v8) rfl (by kernel_rfl) (by kernel_rfl) (by kernel_rfl) (by kernel_rfl) (by kernel_rfl) (fun _ _ _ h => h) hH rfl ?y8 ?r8
            case y8 => intro W hSw; go_simp; try with_reducible rfl
            try simp only [Act.put, List.setIfInBounds_toArray, List.set_cons_zero, List.set_cons_succ]
            refine lastL rfl (by kernel_rfl) (by kernel_rfl) (by kernel_rfl) rfl (fun K hK => ?_)
            go_simp
            refine hK.out _ _ ?_
            clear hK K
            try simp only [Act.put, List.setIfInBounds_toArray, List.set_cons_zero, List.set_cons_succ]
            have hBs : Bv < w7.drew.heap.size := hst7.lt
            have hne9 : (Value.slice (some ⟨g9, 0, none⟩) (ps.length + 1) c9).ownBlock ≠ some Bv := by
              rcases hat9 with h | ⟨g', h, h'⟩
              · rw [h]; exact Hne.out
              · rw [h]; simp; omega
            have hRB : R < Bv := by omega
            go_wp2
            go_roundw
            case rel => exact ⟨k + 1, ps ++ [x], _, q2 + 1, by omega, by go_num, Hsub'.out, (by have := s9.set 2 (.slice (some ⟨g9, 0, none⟩) (ps.length + 1) c9); simpa using this), hown9.set_other hne9 2 _, hne9, (hrd7.kept hg9 (fun g e => by have := (hown7.lt g e).1; omega)).kept (grownBy_set w9 Bv 2 _) (fun g e => by cases e; exact hRB), by omega, grown_row (grown_row hg37 hg9 (fun g e => (hown7.lt g e).1)) (grownBy_set w9 Bv 2 _) (fun g e => by cases e; omega)⟩
            case measure => simp [intOf]; omega
          · have hud : decide ((0 : Int) < u) = false := decide_eq_false hu
            clear hu0 hu1
            go_wp2
            go_roundw
            case rel => exact ⟨k + 1, ps, vp, q2 + 1, by omega, by go_num, Hsub.out.trans (List.take_sublist_take_left (by omega)), Hst7.out, Hop7.out, Hne.out, Hrd7.out, by omega, Hg37.out⟩
            case measure => simp [intOf]; omega
        · have hke : k = H.length := by omega
          subst hke
          rw [List.take_length] at Hsub
          have hpl : ps.length ≤ 1099511627776 := by have := Hsub.out.length_le; omega
          obtain ⟨ap, cp, rfl, hip, _⟩ := Hop.out.ints
          clear hip
          by_cases hn0 : n = 0
          · have hnn : decide ((0 : Int) < (n : Int)) = false := decide_eq_false (by omega)
            have hnn' : ¬ (0 : Int) < (n : Int) := by omega
            clear hn0
            have hgW := grownBy_trans Hgr3.out Hg3r.out
            have hcW := Hc.out _ hgW
            have HgW := Lib.hid hgW; clear hgW
            have st := Hst.out
            have c0 := st.cell 0 (v := .int .i64 n) rfl
            have c1 := st.cell 1 (v := .int .i64 a) rfl
            have c2 := st.cell 2 (v := .slice ap ps.length cp) rfl
            have c3 := st.cell 3 (v := .int .i64 D) rfl
            have Hcall := Lib.hid (HVx.out n a D ap cp ps _ hpl hcW Hop.out.at)
            clear st hcW
            cases hvx : vtxB c ⟨n, a, ps, D⟩ with
            | false =>
              rw [hvx] at Hcall
              clear Hst Hop Hne
              go_wp2_with fail
              refine Hcall.out.mono ?_
              rintro e w8 ⟨rfl, hb8⟩
              have Hg38 := Lib.hid (grown_row (w := w3) Hg3r.out (below_grown hb8) (fun g e => by cases e))
              have Hown8 := Lib.hid (Hown3.out.same fun b h1 h2 => Hg38.out.block b h2 (fun e => by cases e; omega))
              have Hoh8 := Lib.hid (Hoh3.out.kept Hg38.out (.inr fun e => by have := (Hoh3.out.lt R e).1; omega))
              have Hrd8 := Lib.hid (Hrd.out.kept (below_grown hb8) (fun g e => by cases e))
              have hs8 := Hg38.out.size
              have HgW8 := Lib.hid (grownBy_trans Hgr3.out Hg38.out)
              clear hb8 c0 c1 c2 c3
              go_wp2
              go_roundw
              case rel => exact ⟨a + 1, g, q2, by omega, by go_num, Hown8.out.mono hs8, Hok.out, fun x hx => by have := Hord.out x hx; omega, by omega, Hrd8.out, by omega, HgW8.out, Hoh8.out, by omega⟩
              case measure => simp [intOf]; omega
            | true =>
              rw [hvx] at Hcall
              have Hok' := Lib.hid (gOk_push Hok.out hvx Hord.out)
              clear hvx
              go_wp2_with fail
              refine Hcall.out.mono ?_
              rintro e w8 ⟨rfl, hb8⟩
              have Hg38 := Lib.hid (grown_row (w := w3) Hg3r.out (below_grown hb8) (fun g e => by cases e))
              have Hown8 := Lib.hid (Hown3.out.same fun b h1 h2 => Hg38.out.block b h2 (fun e => by cases e; omega))
              have Hoh8 := Lib.hid (Hoh3.out.kept Hg38.out (.inr fun e => by have := (Hoh3.out.lt R e).1; omega))
              have Hrd8 := Lib.hid (Hrd.out.kept (below_grown hb8) (fun g e => by cases e))
              have hs8 := Hg38.out.size
              have HgW8 := Lib.hid (grownBy_trans Hgr3.out Hg38.out)
              have st := (hb8.block _ Hst.out.lt).trans Hst.out
              have hop8 := Hop.out.below hb8
              have c0 := Str.cell st 0 (v := .int .i64 n) rfl
              have c1 := Str.cell st 1 (v := .int .i64 a) rfl
              have c2 := Str.cell st 2 (v := .slice ap ps.length cp) rfl
              have c3 := Str.cell st 3 (v := .int .i64 D) rfl
              obtain ⟨hfd, hap, hnew⟩ := vertex_new (B := w.heap.size) n a D hop8 hw3
              have Hfd := Lib.hid hfd; clear hfd
              have Hap := Lib.hid hap; clear hap
              have Hnew := Lib.hid hnew; clear hnew hop8 st hb8
              have hel : (g.map Vx.fd).length ≤ 1048576 := by rw [List.length_map]; omega
              have Hex := Lib.hid (show (g ++ [(⟨n, a, ps, D⟩ : Vx)]).map Vx.fd = g.map Vx.fd ++ [[.i n, .i a, .l ps, .i D]] by rw [List.map_append]; rfl)
              have hB8 : w.heap.size ≤ w8.heap.size := by omega
              generalize g.map Vx.fd = es at *
              go_wp2_with (at_builtin; refine wpList_push_own (Ei := 3) Try.underlying24 vertex_inf rfl (by decide) (by decide) rfl (.tmp 85) (.tmp 87) rfl w.heap.size _ es _ _ _ rfl rfl (by intro u hu; simp at hu; rcases hu with rfl | rfl | rfl | rfl <;> rfl) rfl rfl Hfd.out Hap.out w3.heap.size Hown8.out hs8 Hnew.out hel rfl hB8 ?_; intro v9 w9 hown9 hg9 hat9)
              go_roundw
              case rel => exact ⟨a + 1, g ++ [⟨n, a, ps, D⟩], q2, by omega, by go_num, by rw [Hex.out]; exact hown9, Hok'.out, fun x hx => by
                rcases List.mem_append.1 hx with hx | hx
                · have := Hord.out x hx; omega
                · simp at hx; subst hx; exact .inr ⟨rfl, (show (a : Int) < ((a + 1 : Nat) : Int) by omega)⟩, by have := hgl; rw [List.length_append]; simp only [List.length_singleton]; omega, Hrd8.out.kept hg9 (fun g e => by have := (Hown8.out.lt g e).1; omega), by omega, grown_row HgW8.out hg9 (fun g e => (Hown8.out.lt g e).1), Hoh8.out.kept hg9 (Hown8.out.apartI Hoh8.out (by decide)), by have := hg9.size; omega⟩
              case measure => simp [intOf]; omega
          have hnn : decide ((0 : Int) < (n : Int)) = true := decide_eq_true (by omega)
          have hnn' : (0 : Int) < (n : Int) := by omega
          clear hn0
          have hmb := members_sub Hasc.out Hsub.out
          have hcW0 := Hc.out _ (grownBy_trans Hgr3.out Hg3r.out)
          have k2 := Hst.out.cell 2 (v := .slice ap ps.length cp) rfl
          have HW1 := Lib.hid (HWt.out ps ap cp wr hmb hpl hcW0 Hop.out.at)
          have HQ1 := Lib.hid (HQt.out wr hcW0)
          clear hcW0 hmb
          go_wp2_with fail
          refine HW1.out.mono ?_
          rintro e w7 ⟨rfl, rfl⟩
          go_wp2_with fail
          refine HQ1.out.mono ?_
          rintro e w7 ⟨rfl, rfl⟩
          by_cases hlow : weightZ c ps < 2 * totalZ c / 3 + 1
          · have hld : decide (weightZ c ps < 2 * totalZ c / 3 + 1) = true := decide_eq_true hlow
            have hoE := own_empty 3 wr (Nat.le_refl wr.heap.size)
            have hsrc : SrcAt (wr.alloc (.cells #[] 3)) ah ch H := by
              obtain ⟨_, _, e, _, hs, _⟩ := (Hohr.out.alloc (.cells #[] 3)).src
              cases e
              exact hs
            have stE := Hst.out.alloc (.cells #[] 3)
            have hzE : (wr.alloc (.cells #[] 3)).heap.size = wr.heap.size + 1 := by simp
            have rdE := Hrd.out.alloc (.cells #[] 3)
            have hgE := grownBy_trans Hg3r.out (World.grownBy_alloc wr (.cells #[] 3) (some R))
            have hsr := Hg3r.out.size
            have hHl2 : H.length ≤ 1099511627776 := by omega
            have hRB : R < Bv := by omega
            have HoE := Lib.hid hoE; clear hoE
            have Hsrc := Lib.hid hsrc; clear hsrc
            have HstE := Lib.hid stE; clear stE
            have HrdE := Lib.hid rdE; clear rdE
            have HgE := Lib.hid hgE; clear hgE
            clear k2 hlow Hop Hst Hrd HW1 HQ1
            go_wp2_with (at_builtin; refine wpList_appI TIg rfl (.tmp 78) (.tmp 79) rfl wr.heap.size (.slice (some ⟨wr.heap.size, 0, none⟩) 0 0) [] H _ _ rfl HoE.out rfl Hsrc.out (by simp; omega) (by rw [hzE]; omega) ?_; intro v7 w7 hown7 hg7; (rw [List.nil_append] at hown7); (generalize wr.alloc (.cells #[] 3) = w71 at *); (have st7 := HstE.out.kept hg7 (by simp [Value.ownBlock]; omega)); (have Hrd7 := Lib.hid (HrdE.out.kept hg7 (fun g e => by have := (HoE.out.lt g e).1; omega))); (have Hg7 := Lib.hid (grown_row HgE.out hg7 (fun g e => by have := (HoE.out.lt g e).1; omega))); (have Hown7 := Lib.hid hown7); (obtain ⟨a7, c7, rfl, _, _⟩ := Hown7.out.ints); (have k2 := st7.cell 2 (v := .slice ap ps.length cp) rfl); (have f2 := st7.frozen 2); (have u := st7.set 2 (.slice a7 H.length c7)); (have e0 := u.cell 0 (v := .int .i64 n) rfl); (have e1 := u.cell 1 (v := .int .i64 a) rfl); (have e2 := u.cell 2 (v := .slice a7 H.length c7) rfl); (have e3 := u.cell 3 (v := .int .i64 D) rfl); (have Hu := Lib.hid u); (clear u st7 hown7 hg7))
            have hne7 : (Value.slice a7 H.length c7).ownBlock ≠ some Bv := fun e => by have := (Hown7.out.lt _ e).1; omega
            have Hrd := Lib.hid (Hrd7.out.kept (grownBy_set w7 Bv 2 (.slice a7 H.length c7)) (fun g e => by cases e; exact hRB))
            have Hg3r := Lib.hid (grown_row Hg7.out (grownBy_set w7 Bv 2 (.slice a7 H.length c7)) (fun g e => by cases e; omega))
            have Hop := Lib.hid ((Hown7.out.mono (show w3.heap.size ≤ wr.heap.size from hsr)).set_other hne7 2 (.slice a7 H.length c7))
            have Hst : Hid (Str (w7.setCell ⟨Bv, 2, none⟩ (.slice a7 H.length c7)) Bv 30 #[.int .i64 n, .int .i64 a, .slice a7 H.length c7, .int .i64 D]) := Lib.hid (by simpa using Hu.out)
            clear k2 f2 Hu Hown7 Hrd7 Hg7 hne7
            generalize w7.setCell ⟨Bv, 2, none⟩ (.slice a7 H.length c7) = wz at *
            have hBz := Hst.out.lt
            have hgW := grownBy_trans Hgr3.out Hg3r.out
            have hcW := Hc.out _ hgW
            have HgW := Lib.hid hgW; clear hgW
            have st := Hst.out
            clear e0 e1 e2 e3
            have c0 := st.cell 0 (v := .int .i64 n) rfl
            have c1 := st.cell 1 (v := .int .i64 a) rfl
            have c2 := st.cell 2 (v := .slice a7 H.length c7) rfl
            have c3 := st.cell 3 (v := .int .i64 D) rfl
            have Hcall := Lib.hid (HVx.out n a D a7 c7 H _ hHl2 hcW Hop.out.at)
            clear st hcW
            cases hvx : vtxB c ⟨n, a, H, D⟩ with
            | false =>
              rw [hvx] at Hcall
              clear Hst Hop
              refine Hcall.out.mono ?_
              rintro e w8 ⟨rfl, hb8⟩
              have Hg38 := Lib.hid (grown_row (w := w3) Hg3r.out (below_grown hb8) (fun g e => by cases e))
              have Hown8 := Lib.hid (Hown3.out.same fun b h1 h2 => Hg38.out.block b h2 (fun e => by cases e; omega))
              have Hoh8 := Lib.hid (Hoh3.out.kept Hg38.out (.inr fun e => by have := (Hoh3.out.lt R e).1; omega))
              have Hrd8 := Lib.hid (Hrd.out.kept (below_grown hb8) (fun g e => by cases e))
              have hs8 := Hg38.out.size
              have HgW8 := Lib.hid (grownBy_trans Hgr3.out Hg38.out)
              clear hb8 c0 c1 c2 c3
              go_wp2
              go_roundw
              case rel => exact ⟨a + 1, g, q2, by omega, by go_num, Hown8.out.mono hs8, Hok.out, fun x hx => by have := Hord.out x hx; omega, by omega, Hrd8.out, by omega, HgW8.out, Hoh8.out, by omega⟩
              case measure => simp [intOf]; omega
            | true =>
              rw [hvx] at Hcall
              have Hok' := Lib.hid (gOk_push Hok.out hvx Hord.out)
              clear hvx
              refine Hcall.out.mono ?_
              rintro e w8 ⟨rfl, hb8⟩
              have Hg38 := Lib.hid (grown_row (w := w3) Hg3r.out (below_grown hb8) (fun g e => by cases e))
              have Hown8 := Lib.hid (Hown3.out.same fun b h1 h2 => Hg38.out.block b h2 (fun e => by cases e; omega))
              have Hoh8 := Lib.hid (Hoh3.out.kept Hg38.out (.inr fun e => by have := (Hoh3.out.lt R e).1; omega))
              have Hrd8 := Lib.hid (Hrd.out.kept (below_grown hb8) (fun g e => by cases e))
              have hs8 := Hg38.out.size
              have HgW8 := Lib.hid (grownBy_trans Hgr3.out Hg38.out)
              have st := (hb8.block _ Hst.out.lt).trans Hst.out
              have hop8 := Hop.out.below hb8
              have c0 := Str.cell st 0 (v := .int .i64 n) rfl
              have c1 := Str.cell st 1 (v := .int .i64 a) rfl
              have c2 := Str.cell st 2 (v := .slice a7 H.length c7) rfl
              have c3 := Str.cell st 3 (v := .int .i64 D) rfl
              obtain ⟨hfd, hap, hnew⟩ := vertex_new (B := w.heap.size) n a D hop8 hw3
              have Hfd := Lib.hid hfd; clear hfd
              have Hap := Lib.hid hap; clear hap
              have Hnew := Lib.hid hnew; clear hnew hop8 st hb8
              have hel : (g.map Vx.fd).length ≤ 1048576 := by rw [List.length_map]; omega
              have Hex := Lib.hid (show (g ++ [(⟨n, a, H, D⟩ : Vx)]).map Vx.fd = g.map Vx.fd ++ [[.i n, .i a, .l H, .i D]] by rw [List.map_append]; rfl)
              have hB8 : w.heap.size ≤ w8.heap.size := by omega
              generalize g.map Vx.fd = es at *
              go_wp2_with (at_builtin; refine wpList_push_own (Ei := 3) Try.underlying24 vertex_inf rfl (by decide) (by decide) rfl (.tmp 85) (.tmp 87) rfl w.heap.size _ es _ _ _ rfl rfl (by intro u hu; simp at hu; rcases hu with rfl | rfl | rfl | rfl <;> rfl) rfl rfl Hfd.out Hap.out w3.heap.size Hown8.out hs8 Hnew.out hel rfl hB8 ?_; intro v9 w9 hown9 hg9 hat9)
              go_roundw
              case rel => exact ⟨a + 1, g ++ [⟨n, a, H, D⟩], q2, by omega, by go_num, by rw [Hex.out]; exact hown9, Hok'.out, fun x hx => by
                rcases List.mem_append.1 hx with hx | hx
                · have := Hord.out x hx; omega
                · simp at hx; subst hx; exact .inr ⟨rfl, (show (a : Int) < ((a + 1 : Nat) : Int) by omega)⟩, by have := hgl; rw [List.length_append]; simp only [List.length_singleton]; omega, Hrd8.out.kept hg9 (fun g e => by have := (Hown8.out.lt g e).1; omega), by omega, grown_row HgW8.out hg9 (fun g e => (Hown8.out.lt g e).1), Hoh8.out.kept hg9 (Hown8.out.apartI Hoh8.out (by decide)), by have := hg9.size; omega⟩
              case measure => simp [intOf]; omega
          · have hld : decide (weightZ c ps < 2 * totalZ c / 3 + 1) = false := decide_eq_false hlow
            clear k2
            have hgW := grownBy_trans Hgr3.out Hg3r.out
            have hcW := Hc.out _ hgW
            have HgW := Lib.hid hgW; clear hgW
            have st := Hst.out
            have c0 := st.cell 0 (v := .int .i64 n) rfl
            have c1 := st.cell 1 (v := .int .i64 a) rfl
            have c2 := st.cell 2 (v := .slice ap ps.length cp) rfl
            have c3 := st.cell 3 (v := .int .i64 D) rfl
            have Hcall := Lib.hid (HVx.out n a D ap cp ps _ hpl hcW Hop.out.at)
            clear st hcW
            cases hvx : vtxB c ⟨n, a, ps, D⟩ with
            | false =>
              rw [hvx] at Hcall
              clear Hst Hop Hne
              go_wp2_with fail
              refine Hcall.out.mono ?_
              rintro e w8 ⟨rfl, hb8⟩
              have Hg38 := Lib.hid (grown_row (w := w3) Hg3r.out (below_grown hb8) (fun g e => by cases e))
              have Hown8 := Lib.hid (Hown3.out.same fun b h1 h2 => Hg38.out.block b h2 (fun e => by cases e; omega))
              have Hoh8 := Lib.hid (Hoh3.out.kept Hg38.out (.inr fun e => by have := (Hoh3.out.lt R e).1; omega))
              have Hrd8 := Lib.hid (Hrd.out.kept (below_grown hb8) (fun g e => by cases e))
              have hs8 := Hg38.out.size
              have HgW8 := Lib.hid (grownBy_trans Hgr3.out Hg38.out)
              clear hb8 c0 c1 c2 c3
              go_wp2
              go_roundw
              case rel => exact ⟨a + 1, g, q2, by omega, by go_num, Hown8.out.mono hs8, Hok.out, fun x hx => by have := Hord.out x hx; omega, by omega, Hrd8.out, by omega, HgW8.out, Hoh8.out, by omega⟩
              case measure => simp [intOf]; omega
            | true =>
              rw [hvx] at Hcall
              have Hok' := Lib.hid (gOk_push Hok.out hvx Hord.out)
              clear hvx
              go_wp2_with fail
              refine Hcall.out.mono ?_
              rintro e w8 ⟨rfl, hb8⟩
              have Hg38 := Lib.hid (grown_row (w := w3) Hg3r.out (below_grown hb8) (fun g e => by cases e))
              have Hown8 := Lib.hid (Hown3.out.same fun b h1 h2 => Hg38.out.block b h2 (fun e => by cases e; omega))
              have Hoh8 := Lib.hid (Hoh3.out.kept Hg38.out (.inr fun e => by have := (Hoh3.out.lt R e).1; omega))
              have Hrd8 := Lib.hid (Hrd.out.kept (below_grown hb8) (fun g e => by cases e))
              have hs8 := Hg38.out.size
              have HgW8 := Lib.hid (grownBy_trans Hgr3.out Hg38.out)
              have st := (hb8.block _ Hst.out.lt).trans Hst.out
              have hop8 := Hop.out.below hb8
              have c0 := Str.cell st 0 (v := .int .i64 n) rfl
              have c1 := Str.cell st 1 (v := .int .i64 a) rfl
              have c2 := Str.cell st 2 (v := .slice ap ps.length cp) rfl
              have c3 := Str.cell st 3 (v := .int .i64 D) rfl
              obtain ⟨hfd, hap, hnew⟩ := vertex_new (B := w.heap.size) n a D hop8 hw3
              have Hfd := Lib.hid hfd; clear hfd
              have Hap := Lib.hid hap; clear hap
              have Hnew := Lib.hid hnew; clear hnew hop8 st hb8
              have hel : (g.map Vx.fd).length ≤ 1048576 := by rw [List.length_map]; omega
              have Hex := Lib.hid (show (g ++ [(⟨n, a, ps, D⟩ : Vx)]).map Vx.fd = g.map Vx.fd ++ [[.i n, .i a, .l ps, .i D]] by rw [List.map_append]; rfl)
              have hB8 : w.heap.size ≤ w8.heap.size := by omega
              generalize g.map Vx.fd = es at *
              go_wp2_with (at_builtin; refine wpList_push_own (Ei := 3) Try.underlying24 vertex_inf rfl (by decide) (by decide) rfl (.tmp 85) (.tmp 87) rfl w.heap.size _ es _ _ _ rfl rfl (by intro u hu; simp at hu; rcases hu with rfl | rfl | rfl | rfl <;> rfl) rfl rfl Hfd.out Hap.out w3.heap.size Hown8.out hs8 Hnew.out hel rfl hB8 ?_; intro v9 w9 hown9 hg9 hat9)
              go_roundw
              case rel => exact ⟨a + 1, g ++ [⟨n, a, ps, D⟩], q2, by omega, by go_num, by rw [Hex.out]; exact hown9, Hok'.out, fun x hx => by
                rcases List.mem_append.1 hx with hx | hx
                · have := Hord.out x hx; omega
                · simp at hx; subst hx; exact .inr ⟨rfl, (show (a : Int) < ((a + 1 : Nat) : Int) by omega)⟩, by have := hgl; rw [List.length_append]; simp only [List.length_singleton]; omega, Hrd8.out.kept hg9 (fun g e => by have := (Hown8.out.lt g e).1; omega), by omega, grown_row HgW8.out hg9 (fun g e => (Hown8.out.lt g e).1), Hoh8.out.kept hg9 (Hown8.out.apartI Hoh8.out (by decide)), by have := hg9.size; omega⟩
              case measure => simp [intOf]; omega

end Go.Proofs.Ytejpoeejhmgphaa
