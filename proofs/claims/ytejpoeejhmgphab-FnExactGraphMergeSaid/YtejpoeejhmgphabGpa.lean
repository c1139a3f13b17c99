/- impl's GraphValid, VertexValid, GraphAdd, GraphAuthors, GraphHeight and GraphMerge, each by a walk of its text; conditions: lists are shorter than 2^40 (a graph: 2^20). -/
import Derived.Test.YtejpoeejhmgphabRows
import Derived.Test.YtejpoeejhmgphabGp6
import Derived.Test.YtejpoeejhmgphabGp7
import Derived.Test.YtejpoeejhmgphabGp8
namespace Go.Proofs.Ytejpoeejhmgphab
open Go.RowKit

section
variable (ac : Option Addr) (capc : Nat) (c : List Int) (g : List Vx) (v : Value) (fp : List Nat) (w : World) (hn : c.length ≤ 1099511627776) (hbig : g.length ≤ 1048576) (hps : ∀ x ∈ g, x.ps.length ≤ 1099511627776) (hc : IntsAt w ac c) (hg : Gr w g v fp)
include hn hbig hps hc hg
theorem graphOf_no (h : graphB c g = false) : Calls Try.prog 47 #[.slice ac c.length capc, v] w fun e w' => e = .returned (.tuple #[.pointer none, .bool false]) ∧ Below w.heap.size w w' :=
  (impl_graphOf ac capc c g v fp w hn hbig hps hc hg).mono fun e w' hp => by
    obtain ⟨hb, ⟨_, he⟩ | ⟨ht, _⟩⟩ := hp
    · exact ⟨he, hb⟩
    · rw [h] at ht; cases ht
theorem graphOf_yes (h : graphB c g = true) : Calls Try.prog 47 #[.slice ac c.length capc, v] w fun e w' => ∃ G, e = .returned (.tuple #[.pointer (some ⟨G, 0, none⟩), .bool true]) ∧ Below w.heap.size w w' ∧ w.heap.size ≤ G ∧ ∃ hi h, Lk w w' hi G (.slice ac c.length capc) h g :=
  (impl_graphOf ac capc c g v fp w hn hbig hps hc hg).mono fun e w' hp => by
    obtain ⟨hb, ⟨hf, _⟩ | ⟨_, G, hi, h', he, hG, hl⟩⟩ := hp
    · rw [h] at hf; cases hf
    · exact ⟨G, he, hb, hG, hi, h', hl⟩
end

theorem impl_GraphValid' (ac : Option Addr) (capc : Nat) (c : List Int) (g : List Vx) (v : Value) (fp : List Nat) (w : World) (hn : c.length ≤ 1099511627776) (hbig : g.length ≤ 1048576) (hps : ∀ x ∈ g, x.ps.length ≤ 1099511627776) (hc : IntsAt w ac c) (hg : Gr w g v fp) :
    Calls Try.prog 21 #[.slice ac c.length capc, v] w fun e w' => e = .returned (.bool (graphB c g)) ∧ Below w.heap.size w w' := by
  cases h : graphB c g with
  | false =>
    have H := Lib.hid (graphOf_no ac capc c g v fp w hn hbig hps hc hg h)
    clear hc hg hps h
    go_enter Try.func21, Try.ntmps21
    go_wp2_with fail
    refine H.out.mono ?_
    rintro e w1 ⟨rfl, hb⟩
    go_wp2
    go_ret
    exact ⟨rfl, hb⟩
  | true =>
    have H := Lib.hid (graphOf_yes ac capc c g v fp w hn hbig hps hc hg h)
    clear hc hg hps h
    go_enter Try.func21, Try.ntmps21
    go_wp2_with fail
    refine H.out.mono ?_
    rintro e w1 ⟨G, rfl, hb, _⟩
    go_wp2
    go_ret
    exact ⟨rfl, hb⟩

theorem impl_VertexValid' (ac : Option Addr) (capc : Nat) (c : List Int) (x : Vx) (pa : Option Addr) (pc : Nat) (w : World) (hn : c.length ≤ 1099511627776) (hbig : x.ps.length ≤ 1099511627776) (hc : IntsAt w ac c) (hp : IntsAt w pa x.ps) :
    Calls Try.prog 15 #[.slice ac c.length capc, .agg #[.int .i64 x.r, .int .i64 x.a, .slice pa x.ps.length pc, .int .i64 x.d]] w fun e w' => e = .returned (.bool (vvB c x)) ∧ Below w.heap.size w w' := by
  have hb0 : Below w.heap.size w (w.alloc (.cells #[.int .i64 x.r, .int .i64 x.a, .slice pa x.ps.length pc, .int .i64 x.d] 28)) := (Below.refl _ _).alloc (Nat.le_refl _) _
  have s0 := Str.new w 28 #[.int .i64 x.r, .int .i64 x.a, .slice pa x.ps.length pc, .int .i64 x.d]
  have k0 := s0.cell 0 (v := .int .i64 x.r) rfl
  have k1 := s0.cell 1 (v := .int .i64 x.a) rfl
  have k2 := s0.cell 2 (v := .slice pa x.ps.length pc) rfl
  have k3 := s0.cell 3 (v := .int .i64 x.d) rfl
  have H1 := Lib.hid (impl_CommitteeValid ac capc c _ hn (hc.below hb0))
  have Hb := Lib.hid hb0
  cases hv : validB c with
  | false =>
    rw [hv] at H1
    have Hz := Lib.hid (show vvB c x = false by unfold vvB; rw [hv]; rfl)
    clear hc hp hv s0 hb0
    go_enter Try.func15, Try.ntmps15
    go_wp2_with fail
    generalize w.alloc (.cells #[.int .i64 x.r, .int .i64 x.a, .slice pa x.ps.length pc, .int .i64 x.d] 28) = W0 at *
    refine H1.out.mono ?_
    rintro e w1 ⟨rfl, rfl⟩
    go_wp2
    go_ret
    exact ⟨ret_bool (by rw [Hz.out]), Hb.out⟩
  | true =>
    rw [hv] at H1
    have H2 := Lib.hid (vertex_fits ac capc c x pa pc _ hv hbig (hc.below hb0) (hp.below hb0))
    have Hz := Lib.hid (show vvB c x = vtxB c x by unfold vvB; rw [hv]; rfl)
    clear hc hp hv s0 hb0
    go_enter Try.func15, Try.ntmps15
    go_wp2_with fail
    generalize w.alloc (.cells #[.int .i64 x.r, .int .i64 x.a, .slice pa x.ps.length pc, .int .i64 x.d] 28) = W0 at *
    refine H1.out.mono ?_
    rintro e w1 ⟨rfl, rfl⟩
    go_wp2_with fail
    refine H2.out.mono ?_
    rintro e w1 ⟨rfl, hb⟩
    go_wp2
    go_ret
    exact ⟨ret_bool (by rw [Hz.out]), below_step Hb.out Hb.out.size hb⟩

theorem impl_GraphAuthors' (ac : Option Addr) (capc : Nat) (c : List Int) (g : List Vx) (v : Value) (fp : List Nat) (r : Int) (w : World) (hn : c.length ≤ 1099511627776) (hbig : g.length ≤ 1048576) (hps : ∀ x ∈ g, x.ps.length ≤ 1099511627776) (hc : IntsAt w ac c) (hg : Gr w g v fp) :
    Calls Try.prog 35 #[.slice ac c.length capc, v, .int .i64 r] w fun e w' => ∃ u, e = .returned u ∧ Own 3 w' w.heap.size u (gaZ c g r) ∧ Below w.heap.size w w' := by
  have H := Lib.hid (impl_GraphValid' ac capc c g v fp w hn hbig hps hc hg)
  cases h : graphB c g with
  | false =>
    have Hz := Lib.hid (show gaZ c g r = [] by unfold gaZ; rw [h]; rfl)
    rw [h] at H
    clear hc hg hps h
    go_enter Try.func35, Try.ntmps35
    go_wp2_with fail
    refine H.out.mono ?_
    rintro e w1 ⟨rfl, hb⟩
    have Hb := Lib.hid hb; clear hb
    go_wp2
    go_ret
    exact ⟨_, rfl, by rw [Hz.out]; exact own_empty _ _ Hb.out.size, Hb.out.alloc Hb.out.size _⟩
  | true =>
    have Hz := Lib.hid (show gaZ c g r = authZ g r by unfold gaZ; rw [h]; rfl)
    rw [h] at H
    have HA := Lib.hid (fun W (h : Gr W g v fp) => impl_authorsOf g v fp r W (by omega) h)
    have Hg := Lib.hid hg
    clear hc hg hps h
    go_enter Try.func35, Try.ntmps35
    go_wp2_with fail
    refine H.out.mono ?_
    rintro e w1 ⟨rfl, hb⟩
    have Hb := Lib.hid hb
    have HA1 := Lib.hid (HA.out w1 (Hg.out.under hb))
    clear hb
    go_wp2_with fail
    refine HA1.out.mono ?_
    rintro e w2 ⟨u, rfl, ho, hb2⟩
    have Ho := Lib.hid (ho.mono Hb.out.size)
    have Hb2 := Lib.hid (below_step Hb.out Hb.out.size hb2)
    clear ho hb2
    go_wp2
    go_ret
    exact ⟨_, rfl, by rw [Hz.out]; exact Ho.out, Hb2.out⟩

theorem hgt_yes {c : List Int} {g : List Vx} {n : Nat} (h : qAt c g n = true) : hgtTo c g (n + 1) = n := by simp [hgtTo, h]
theorem hgt_no {c : List Int} {g : List Vx} {n : Nat} (h : qAt c g n = false) : hgtTo c g (n + 1) = hgtTo c g n := by simp [hgtTo, h]
theorem impl_GraphHeight' (ac : Option Addr) (capc : Nat) (c : List Int) (g : List Vx) (v : Value) (fp : List Nat) (w : World) (hn : c.length ≤ 1099511627776) (hbig : g.length ≤ 1048576) (hps : ∀ x ∈ g, x.ps.length ≤ 1099511627776) (hc : IntsAt w ac c) (hg : Gr w g v fp) :
    Calls Try.prog 37 #[.slice ac c.length capc, v] w fun e w' => e = .returned (.int .i64 (ghZ c g)) ∧ Below w.heap.size w w' := by
  have H := Lib.hid (impl_GraphValid' ac capc c g v fp w hn hbig hps hc hg)
  cases h : graphB c g with
  | false =>
    have Hz := Lib.hid (show ghZ c g = -1 by unfold ghZ; rw [h]; rfl)
    rw [h] at H
    clear hc hg hps h
    go_enter Try.func37, Try.ntmps37
    go_wp2_with fail
    refine H.out.mono ?_
    rintro e w1 ⟨rfl, hb⟩
    go_wp2
    go_ret
    exact ⟨by rw [Hz.out]; rfl, hb⟩
  | true =>
    have Hz := Lib.hid (show ghZ c g = hgtZ c g by unfold ghZ; rw [h]; rfl)
    have hv : validB c = true := by unfold graphB at h; simp only [Bool.and_eq_true] at h; exact h.1
    rw [h] at H
    have HA := Lib.hid (fun r W (h : Gr W g v fp) => impl_authorsOf g v fp r W (by omega) h)
    have hal := fun r => authZ_len g r
    have HQ := Lib.hid (fun r pa pc W (h1 : IntsAt W ac c) (h2 : IntsAt W pa (authZ g r)) => committee_isQuorum ac capc c pa pc (authZ g r) W hv (by have := hal r; omega) h1 h2)
    have HM := Lib.hid (fun r => show qmB c (authZ g r) = qAt c g r by unfold qmB qAt; rw [auth_members h r]; rfl)
    have Hg := Lib.hid hg
    have Hc := Lib.hid hc
    clear hc hg hps h hal
    go_enter Try.func37, Try.ntmps37
    go_wp2_with fail
    refine H.out.mono ?_
    rintro e w1 ⟨rfl, hb⟩
    have Hb := Lib.hid hb; clear hb
    go_wp2
    go_loopw [5] (fun i wr => ∃ n : Nat, n ≤ 31 ∧ i = .int .i64 ((n : Int) - 1) ∧ hgtTo c g n = hgtZ c g ∧ Below w.heap.size w wr) (fun i _ => (intOf i + 1).toNat)
    case atStart => exact ⟨31, by omega, rfl, rfl, Hb.out⟩
    case round =>
      obtain ⟨n, hk, rfl, hz, hbel⟩ := hrel
      have Hzn := Lib.hid hz; clear hz
      have Hbel := Lib.hid hbel
      cases n with
      | zero =>
        clear hbel
        go_wp2
        go_ret
        exact ⟨by rw [Hz.out, ← Hzn.out]; rfl, Hbel.out⟩
      | succ n =>
        have hi : ((n + 1 : Nat) : Int) - 1 = (n : Int) := by omega
        rw [hi]
        have hge : (0 : Int) ≤ (n : Int) := by omega
        have HA1 := Lib.hid (HA.out n wr (Hg.out.under hbel))
        have Hc1 := Lib.hid (Hc.out.below hbel)
        clear hbel hi
        go_wp2_with fail
        refine HA1.out.mono ?_
        rintro e w2 ⟨u, rfl, ho, hb2⟩
        obtain ⟨pa, pc, rfl, hi2, _⟩ := ho.ints
        have HQ1 := Lib.hid (HQ.out n pa pc w2 (Hc1.out.below hb2) hi2)
        rw [HM.out] at HQ1
        have Hb2 := Lib.hid (below_step Hbel.out Hbel.out.size hb2)
        clear ho hi2 hb2
        go_wp2_with fail
        refine HQ1.out.mono ?_
        rintro e w3 ⟨rfl, rfl⟩
        cases hq : qAt c g n with
        | true =>
          have Hh := Lib.hid (hgt_yes hq)
          go_wp2
          go_ret
          exact ⟨by rw [Hz.out, ← Hzn.out, Hh.out]; rfl, Hb2.out⟩
        | false =>
          have Hh := Lib.hid (hgt_no hq)
          go_wp2
          go_roundw
          case rel => exact ⟨n, by omega, rfl, by rw [← Hh.out]; exact Hzn.out, Hb2.out⟩
          case measure => simp [intOf]

theorem addN_cases (g : List Vx) (x : Vx) : addN g x = 0 ∨ addN g x = 1 ∨ addN g x = 2 ∨ addN g x = 3 := by
  unfold addN
  by_cases h1 : 0 ≤ findZ g x.r x.a
  · rw [if_pos h1]
    by_cases h2 : sameB (g.getD (findZ g x.r x.a).toNat vx0) x = true
    · rw [if_pos h2]; omega
    · rw [if_neg h2]; omega
  · rw [if_neg h1]
    by_cases h2 : parB g x = true
    · rw [if_pos h2]; omega
    · rw [if_neg h2]; omega
theorem addG_srt {g : List Vx} {x : Vx} (h : Srt g) : Srt (addG g x) := by
  unfold addG
  split
  · rename_i h0
    refine ins_srt h fun y hy e => ?_
    obtain ⟨k, hk, ek, _⟩ := findZ_mem h hy
    rw [e.1, e.2] at ek
    unfold addN at h0
    rw [if_pos (by rw [ek]; omega)] at h0
    split at h0 <;> simp at h0
  · exact h
set_option maxHeartbeats 1000000 in
theorem impl_GraphAdd' (ac : Option Addr) (capc : Nat) (c : List Int) (g : List Vx) (v : Value) (fp : List Nat) (x : Vx) (pa : Option Addr) (pc : Nat) (w : World) (hn : c.length ≤ 1099511627776) (hbig : g.length ≤ 1048576) (hps : ∀ y ∈ g, y.ps.length ≤ 1099511627776) (hbp : x.ps.length ≤ 1099511627776) (hc : IntsAt w ac c) (hg : Gr w g v fp) (hs : SrcAt w pa pc x.ps) (hi : IntsAt w pa x.ps) :
    Calls Try.prog 26 #[.slice ac c.length capc, v, .agg #[.int .i64 x.r, .int .i64 x.a, .slice pa x.ps.length pc, .int .i64 x.d]] w fun e w' => ∃ u, e = .returned (.tuple #[u, .int .i64 (gaN c g x)]) ∧ OwnR 28 3 4 w' w.heap.size w'.heap.size u ((gaG c g x).map Vx.fd) ∧ Below w.heap.size w w' := by
  have hb0 : Below w.heap.size w (w.alloc (.cells #[.int .i64 x.r, .int .i64 x.a, .slice pa x.ps.length pc, .int .i64 x.d] 28)) := (Below.refl _ _).alloc (Nat.le_refl _) _
  have s0 := Str.new w 28 #[.int .i64 x.r, .int .i64 x.a, .slice pa x.ps.length pc, .int .i64 x.d]
  have Hs := Lib.hid (hs.under hi hb0); clear hs
  have Hi := Lib.hid (hi.below hb0); clear hi
  have hc0 := hc.below hb0
  have hg0 := hg.under hb0
  have Hb := Lib.hid hb0
  have Hs0 := Lib.hid s0
  have Hno := Lib.hid (ga_no (c := c) (g := g) (x := x))
  have Hyes := Lib.hid (ga_yes (c := c) (g := g) (x := x))
  cases hgb : graphB c g with
  | false =>
    obtain ⟨hz1, hz2⟩ := Hno.out (by unfold gaB; rw [hgb]; rfl)
    have H := Lib.hid (graphOf_no ac capc c g v fp _ hn hbig hps hc0 hg0 hgb)
    have Hz1 := Lib.hid hz1
    have Hz2 := Lib.hid hz2
    clear hz1 hz2 hc0 hg0 hc hg hb0 s0 hps
    go_enter Try.func26, Try.ntmps26
    go_wp2_with fail
    generalize w.alloc (.cells #[.int .i64 x.r, .int .i64 x.a, .slice pa x.ps.length pc, .int .i64 x.d] 28) = W0 at *
    refine H.out.mono ?_
    rintro e w1 ⟨rfl, hb1⟩
    have Hb1 := Lib.hid (below_step Hb.out Hb.out.size hb1)
    clear hb1
    go_wp2
    go_ret2
    exact ⟨_, by rw [Hz1.out]; rfl, by rw [Hz2.out]; exact ownR_none _ _ Hb1.out.size, Hb1.out.alloc Hb1.out.size _⟩
  | true =>
    have hv : validB c = true := by unfold graphB at hgb; simp only [Bool.and_eq_true] at hgb; exact hgb.1
    have hsrt := graph_sorted hgb
    have hvx := graph_vtx hgb
    have H := Lib.hid (graphOf_yes ac capc c g v fp _ hn hbig hps hc0 hg0 hgb)
    have HAdd := Lib.hid (fun w1 hi G h hbb hl => graph_add _ w1 hi G ac capc c h g x pa pc hv hbp hps Hs.out Hi.out hc0 hbb hl hsrt hvx)
    have HP := Lib.hid hps
    have Hv := Lib.hid hv
    have Hsrt := Lib.hid hsrt
    have Hvx := Lib.hid hvx
    have Hgb := Lib.hid hgb
    clear hv hsrt hvx hc0 hg0 hc hg hb0 s0 hps hgb
    go_enter Try.func26, Try.ntmps26
    go_wp2_with fail
    generalize w.alloc (.cells #[.int .i64 x.r, .int .i64 x.a, .slice pa x.ps.length pc, .int .i64 x.d] 28) = W0 at *
    refine H.out.mono ?_
    rintro e w1 ⟨G, rfl, hb1, hG, hi1, h1, hl1⟩
    have Hb1 := Lib.hid (below_step Hb.out Hb.out.size hb1)
    have s1 : Str w1 w.heap.size 28 #[.int .i64 x.r, .int .i64 x.a, .slice pa x.ps.length pc, .int .i64 x.d] := (hb1.block _ Hs0.out.lt).trans Hs0.out
    have k0 := Str.cell s1 0 (v := .int .i64 x.r) rfl
    have k1 := Str.cell s1 1 (v := .int .i64 x.a) rfl
    have k2 := Str.cell s1 2 (v := .slice pa x.ps.length pc) rfl
    have k3 := Str.cell s1 3 (v := .int .i64 x.d) rfl
    have HAdd1 := Lib.hid (HAdd.out w1 hi1 G h1 hb1 hl1)
    have HB1 := Lib.hid hb1
    have hGl : G < w1.heap.size := Nat.lt_of_lt_of_le hl1.lt hl1.le
    clear hb1 s1 hl1
    go_wp2_with fail
    refine HAdd1.out.mono ?_
    rintro e w2 ⟨rfl, hg2, hi2, h2, hl2⟩
    have Hb2 := Lib.hid (HB1.out.grown hg2 HB1.out.size (fun g e => by cases e; exact hG))
    have Hw2 := Lib.hid (Hb.out.trans (Hb2.out.mono Hb.out.size))
    have Hl2 := Lib.hid hl2
    clear hg2 hl2 k0 k1 k2 k3
    cases hxb : vtxB c x with
    | false =>
      obtain ⟨hz1, hz2⟩ := Hno.out (by unfold gaB; rw [hxb, Bool.and_false])
      rw [(ad_not hxb).1]
      have Hz1 := Lib.hid hz1
      have Hz2 := Lib.hid hz2
      clear hz1 hz2
      go_wp2
      go_ret2
      exact ⟨_, by rw [Hz1.out]; rfl, by rw [Hz2.out]; exact ownR_none _ _ Hw2.out.size, Hw2.out.alloc Hw2.out.size _⟩
    | true =>
      obtain ⟨hz1, hz2⟩ := Hyes.out (by unfold gaB; rw [Hgb.out, hxb]; rfl)
      have hN : adN c g x = addN g x := by unfold adN; rw [if_pos hxb]
      have hGr : adG c g x = addG g x := by unfold adG; rw [if_pos hxb]
      rw [hN]
      rw [hGr] at Hl2
      have hne : (addN g x == 4) = false := by
        rw [beq_eq_false_iff_ne]
        rcases addN_cases g x with h | h | h | h <;> omega
      have hvx2 : ∀ y ∈ addG g x, vtxB c y = true := fun y hy => by
        rcases addG_memP hy with h | h
        · exact Hvx.out y h
        · rw [h]; exact hxb
      have hLs := Lib.hid (graph_list _ w2 hi2 G _ h2 (addG g x) Hb2.out Hl2.out (addG_srt Hsrt.out) (fun y hy => vtx_pl Hv.out (hvx2 y hy)) (fun y hy => by
        rcases addG_memP hy with h | h
        · exact HP.out y h
        · rw [h]; exact hbp) (by have := addG_lenP g x; omega))
      have Hz1 := Lib.hid hz1
      have Hz2 := Lib.hid hz2
      clear hz1 hz2 hN hGr hvx2
      generalize addN g x = N at *
      go_wp2_with fail
      refine hLs.out.mono ?_
      rintro e w3 ⟨u, rfl, ho, hb3⟩
      have Ho := Lib.hid (ho.from Hw2.out.size)
      have Hb3 := Lib.hid (below_step Hw2.out Hw2.out.size hb3)
      clear ho hb3
      go_wp2
      go_ret2
      exact ⟨_, by rw [Hz1.out]; rfl, by rw [Hz2.out]; exact Ho.out, Hb3.out⟩

set_option maxRecDepth 8000 in
set_option maxHeartbeats 1000000 in
theorem impl_GraphMerge' (ac : Option Addr) (capc : Nat) (c : List Int) (a b : List Vx) (va vb : Value) (fa fb : List Nat) (w : World) (hn : c.length ≤ 1099511627776) (hbig : a.length + b.length ≤ 1048576) (hpa : ∀ y ∈ a, y.ps.length ≤ 1099511627776) (hpb : ∀ y ∈ b, y.ps.length ≤ 1099511627776) (hc : IntsAt w ac c) (ha : Gr w a va fa) (hb : Gr w b vb fb) :
    Calls Try.prog 39 #[.slice ac c.length capc, va, vb] w fun e w' => ∃ u, e = .returned (.tuple #[u, .bool (mgB c a b)]) ∧ OwnR 28 3 4 w' w.heap.size w'.heap.size u ((mgG c a b).map Vx.fd) ∧ Below w.heap.size w w' := by
  have HVb := Lib.hid (fun W h h' => impl_GraphValid' ac capc c b vb fb W hn (by omega) hpb h h')
  have hno := mg_no (c := c) (a := a) (b := b)
  cases hga : graphB c a with
  | false =>
    obtain ⟨hz2, hz1⟩ := hno (fun h => by rw [hga] at h; exact absurd h.1 (by simp))
    have H := Lib.hid (graphOf_no ac capc c a va fa w hn (by omega) hpa hc ha hga)
    have Hz1 := Lib.hid hz1
    have Hz2 := Lib.hid hz2
    clear hz1 hz2 hno hc ha hb hpa hpb
    go_enter Try.func39, Try.ntmps39
    go_wp2_with fail
    refine H.out.mono ?_
    rintro e w1 ⟨rfl, hb1⟩
    have Hb1 := Lib.hid hb1; clear hb1
    go_wp2
    go_ret2
    exact ⟨_, by rw [Hz1.out]; rfl, by rw [Hz2.out]; exact ownR_none _ _ Hb1.out.size, Hb1.out.alloc Hb1.out.size _⟩
  | true =>
  have H := Lib.hid (graphOf_yes ac capc c a va fa w hn (by omega) hpa hc ha hga)
  have Hc := Lib.hid hc; clear hc
  have Ha := Lib.hid ha; clear ha
  have Hb := Lib.hid hb; clear hb
  cases hgb : graphB c b with
  | false =>
    rw [hgb] at HVb
    obtain ⟨hz2, hz1⟩ := hno (fun h => by rw [hgb] at h; exact absurd h.2 (by simp))
    have Hz1 := Lib.hid hz1
    have Hz2 := Lib.hid hz2
    clear hz1 hz2 hno
    go_enter Try.func39, Try.ntmps39
    go_wp2_with fail
    refine H.out.mono ?_
    rintro e w1 ⟨G, rfl, hb1, _⟩
    have HV1 := Lib.hid (HVb.out w1 (Hc.out.below hb1) (Hb.out.under hb1))
    have Hb1 := Lib.hid hb1; clear hb1
    go_wp2_with fail
    refine HV1.out.mono ?_
    rintro e w2 ⟨rfl, hb2⟩
    have Hb2 := Lib.hid (below_step Hb1.out Hb1.out.size hb2); clear hb2
    go_wp2
    go_ret2
    exact ⟨_, by rw [Hz1.out]; rfl, by rw [Hz2.out]; exact ownR_none _ _ Hb2.out.size, Hb2.out.alloc Hb2.out.size _⟩
  | true =>
  rw [hgb] at HVb
  have hv : validB c = true := by unfold graphB at hga; simp only [Bool.and_eq_true] at hga; exact hga.1
  have hO : mgO c a b = mrgF a b := by unfold mgO; rw [if_pos ⟨hga, hgb⟩]
  have Hnone := Lib.hid (show mrgF a b = none → mgB c a b = false ∧ mgG c a b = [] from fun h => by unfold mgB mgG; rw [hO, h]; exact ⟨rfl, rfl⟩)
  have Hsome := Lib.hid (show ∀ out, mrgF a b = some out → mgB c a b = true ∧ mgG c a b = out from fun out h => by unfold mgB mgG; rw [hO, h]; exact ⟨rfl, rfl⟩)
  have Hva := Lib.hid (graph_vtx hga)
  have Hvb := Lib.hid (graph_vtx hgb)
  have Hsa := Lib.hid (graph_sorted hga)
  have HPb := Lib.hid hpb; clear hpb
  have HPa := Lib.hid hpa; clear hpa
  have Hv := Lib.hid hv; clear hv
  obtain ⟨ab, cb, rfl⟩ := Hb.out.slice
  clear hno hO hga hgb
  go_enter Try.func39, Try.ntmps39
  go_wp2_with fail
  refine H.out.mono ?_
  rintro e w1 ⟨G, rfl, hb1, hG, hi1, h1, hl1⟩
  have HV1 := Lib.hid (HVb.out w1 (Hc.out.below hb1) (Hb.out.under hb1))
  have Hl1 := Lib.hid hl1
  have Hb1 := Lib.hid hb1; clear hb1 hl1
  go_wp2_with fail
  refine HV1.out.mono ?_
  rintro e w2 ⟨rfl, hb2⟩
  have Hl2 := Lib.hid (Hl1.out.under hb2)
  have Hb2 := Lib.hid (below_step Hb1.out Hb1.out.size hb2); clear hb2
  go_wp2
  try simp only [Bool.not_true]
  go_loopw [29] (fun i wr => ∃ (k : Nat) (out : List Vx) (hi : Nat) (h : Nat → Value), k ≤ b.length ∧ i = .int .i64 k ∧ out.length ≤ a.length + k ∧ (∀ y ∈ out, y.ps.length ≤ 1099511627776) ∧ mrgF out (b.drop k) = mrgF a b ∧ Srt out ∧ (∀ y ∈ out, vtxB c y = true) ∧ Lk w wr hi G (.slice ac c.length capc) h out ∧ Below w.heap.size w wr) (fun i _ => b.length - (intOf i).toNat)
  case atStart => exact ⟨0, a, _, _, Nat.zero_le _, rfl, by omega, HPa.out, rfl, Hsa.out, Hva.out, Hl2.out, Hb2.out⟩
  case round =>
    obtain ⟨k, out, hi, h, hk, rfl, hol, hop, hmr, hsr, hvo, hL, hbel⟩ := hrel
    have Hbel := Lib.hid hbel; clear hbel
    have Hmr := Lib.hid hmr; clear hmr
    have HL := Lib.hid hL; clear hL
    have Hsr := Lib.hid hsr; clear hsr
    have Hvo := Lib.hid hvo; clear hvo
    have Hop := Lib.hid hop; clear hop
    by_cases hlt : k < b.length
    · obtain ⟨gb, off, rfl, hbb, hat⟩ := Hb.out.at (by omega)
      obtain ⟨c0, c1, ⟨pa, pc, c2, i2, s2⟩, c3⟩ := hat k hlt
      have hpy := HPb.out _ (List.getElem_mem hlt)
      have hvy := Hvb.out _ (List.getElem_mem hlt)
      have c0 := (Hbel.out.cell (p := ⟨gb, off + k * 4, none⟩) hbb).trans c0
      have c1 := (Hbel.out.cell (p := ⟨gb, off + k * 4 + 1, none⟩) hbb).trans c1
      have c2 := (Hbel.out.cell (p := ⟨gb, off + k * 4 + 2, none⟩) hbb).trans c2
      have c3 := (Hbel.out.cell (p := ⟨gb, off + k * 4 + 3, none⟩) hbb).trans c3
      have hbA : Below wr.heap.size wr (wr.alloc (.cells #[.int .i64 b[k].r, .int .i64 b[k].a, .slice pa b[k].ps.length pc, .int .i64 b[k].d] 28)) := (Below.refl _ _).alloc (Nat.le_refl _) _
      have s0 := Str.new wr 28 #[.int .i64 b[k].r, .int .i64 b[k].a, .slice pa b[k].ps.length pc, .int .i64 b[k].d]
      have k0 := s0.cell 0 (v := .int .i64 b[k].r) rfl
      have k1 := s0.cell 1 (v := .int .i64 b[k].a) rfl
      have k2 := s0.cell 2 (v := .slice pa b[k].ps.length pc) rfl
      have k3 := s0.cell 3 (v := .int .i64 b[k].d) rfl
      have hbwA := below_step Hbel.out Hbel.out.size hbA
      have HAdd := Lib.hid (graph_add w _ hi G ac capc c h out b[k] pa pc Hv.out hpy Hop.out s2 i2 Hc.out hbwA (HL.out.under hbA) Hsr.out Hvo.out)
      have HbwA := Lib.hid hbwA
      have hN : adN c out b[k] = addN out b[k] := by unfold adN; rw [if_pos hvy]
      have hGr : adG c out b[k] = addG out b[k] := by unfold adG; rw [if_pos hvy]
      have Hstop := Lib.hid (mrg_stop hlt Hmr.out)
      have Hstep := Lib.hid (mrg_step hlt Hmr.out)
      have hal := addG_len out b[k]
      have Hin := Lib.hid (show ∀ y ∈ addG out b[k], y.ps.length ≤ 1099511627776 from fun y hy => by
        rcases addG_mem hy with h | rfl
        · exact Hop.out y h
        · exact hpy)
      have Hvn := Lib.hid (show ∀ y ∈ addG out b[k], vtxB c y = true from fun y hy => by
        rcases addG_mem hy with h | rfl
        · exact Hvo.out y h
        · exact hvy)
      have HN := Lib.hid hN
      have HGr := Lib.hid hGr
      have Hss := Lib.hid (addG_srt (x := b[k]) Hsr.out)
      clear hat i2 s2 hpy hvy hbA s0 hbwA hN hGr
      generalize b[k] = y at *
      go_wp2_with fail
      generalize wr.alloc (.cells #[.int .i64 y.r, .int .i64 y.a, .slice pa y.ps.length pc, .int .i64 y.d] 28) = wB at *
      clear c0 c1 c2 c3
      refine HAdd.out.mono ?_
      rintro e w6 ⟨rfl, hg6, hi6, h6, hl6⟩
      have Hb6 := Lib.hid (HbwA.out.grown hg6 HbwA.out.size (fun g e => by cases e; exact hG))
      rw [HN.out]
      rw [HGr.out] at hl6
      have Hl6 := Lib.hid hl6
      clear hg6 hl6 k0 k1 k2 k3
      by_cases h2 : addN out y = 2
      · obtain ⟨hz1, hz2⟩ := Hnone.out (Hstop.out h2)
        have Hz1 := Lib.hid hz1
        have Hz2 := Lib.hid hz2
        have e2 : (addN out y == 2) = true := by simpa using h2
        clear hz1 hz2 h2
        generalize addN out y = N at *
        go_wp2
        go_ret2
        exact ⟨_, by rw [Hz1.out]; rfl, by rw [Hz2.out]; exact ownR_none _ _ Hb6.out.size, Hb6.out.alloc Hb6.out.size _⟩
      · have Hst := Lib.hid (Hstep.out h2)
        have e2 : (addN out y == 2) = false := by simpa using h2
        clear h2 Hstop HN Hstep
        generalize addN out y = N at *
        go_wp2
        go_roundw
        case rel => exact ⟨k + 1, _, _, _, by omega, by go_num, by omega, Hin.out, Hst.out, Hss.out, Hvn.out, Hl6.out, Hb6.out⟩
        case measure => simp [intOf]; omega
    · have hke : k = b.length := by omega
      subst hke
      obtain ⟨hz1, hz2⟩ := Hsome.out out (mrg_end Hmr.out)
      have Hz1 := Lib.hid hz1
      have Hz2 := Lib.hid hz2
      have HLs := Lib.hid (graph_list w wr hi G _ h out Hbel.out HL.out Hsr.out (fun y hy => vtx_pl Hv.out (Hvo.out y hy)) Hop.out (by omega))
      clear hz1 hz2
      go_wp2_with fail
      refine HLs.out.mono ?_
      rintro e w3 ⟨u, rfl, ho, hb3⟩
      have Ho := Lib.hid (ho.from Hbel.out.size)
      have Hb3 := Lib.hid (below_step Hbel.out Hbel.out.size hb3)
      clear ho hb3
      go_wp2
      go_ret2
      exact ⟨_, by rw [Hz1.out]; rfl, by rw [Hz2.out]; exact Ho.out, Hb3.out⟩

end Go.Proofs.Ytejpoeejhmgphab
