/- impl's authors of a round, GraphValid, VertexValid, GraphAdd, GraphAuthors, GraphHeight and GraphMerge, each by a walk of its text; conditions: lists are shorter than 2^40 (a graph: 2^20). -/
import Derived.Test.YtejpoeejhmgphaaRows
import Derived.Test.YtejpoeejhmgphaaGp3
import Derived.Test.YtejpoeejhmgphaaGp6
import Derived.Test.YtejpoeejhmgphaaGp7
namespace Go.Proofs.Ytejpoeejhmgphaa
open Go.RowKit

section
variable (ac : Option Addr) (capc : Nat) (c : List Int) (g : List Vx) (v : Value) (fp : List Nat) (w : World) (hn : c.length ≤ 1099511627776) (hbig : g.length ≤ 1048576) (hps : ∀ x ∈ g, x.ps.length ≤ 1099511627776) (hc : IntsAt w ac c) (hg : Gr w g v fp)
include hn hbig hps hc hg
theorem graphOf_no (h : graphB c g = false) : Calls Try.prog 40 #[.slice ac c.length capc, v] w fun e w' => e = .returned (.tuple #[.pointer none, .bool false]) ∧ Below w.heap.size w w' :=
  (impl_graphOf ac capc c g v fp w hn hbig hps hc hg).mono fun e w' hp => by
    obtain ⟨hb, ⟨_, he⟩ | ⟨ht, _⟩⟩ := hp
    · exact ⟨he, hb⟩
    · rw [h] at ht; cases ht
theorem graphOf_yes (h : graphB c g = true) : Calls Try.prog 40 #[.slice ac c.length capc, v] w fun e w' => ∃ G, e = .returned (.tuple #[.pointer (some ⟨G, 0, none⟩), .bool true]) ∧ Below w.heap.size w w' ∧ w.heap.size ≤ G ∧ ∃ hi h, Lk w w' hi G (.slice ac c.length capc) h g :=
  (impl_graphOf ac capc c g v fp w hn hbig hps hc hg).mono fun e w' hp => by
    obtain ⟨hb, ⟨hf, _⟩ | ⟨_, G, hi, h', he, hG, hl⟩⟩ := hp
    · rw [h] at hf; cases hf
    · exact ⟨G, he, hb, hG, hi, h', hl⟩
end

theorem impl_GraphValid' (ac : Option Addr) (capc : Nat) (c : List Int) (g : List Vx) (v : Value) (fp : List Nat) (w : World) (hn : c.length ≤ 1099511627776) (hbig : g.length ≤ 1048576) (hps : ∀ x ∈ g, x.ps.length ≤ 1099511627776) (hc : IntsAt w ac c) (hg : Gr w g v fp) :
    Calls Try.prog 30 #[.slice ac c.length capc, v] w fun e w' => e = .returned (.bool (graphB c g)) ∧ Below w.heap.size w w' := by
  cases h : graphB c g with
  | false =>
    have H := Lib.hid (graphOf_no ac capc c g v fp w hn hbig hps hc hg h)
    clear hc hg hps h
    go_enter Try.func30, Try.ntmps30
    go_wp2_with fail
    refine H.out.mono ?_
    rintro e w1 ⟨rfl, hb⟩
    go_wp2
    go_ret
    exact ⟨rfl, hb⟩
  | true =>
    have H := Lib.hid (graphOf_yes ac capc c g v fp w hn hbig hps hc hg h)
    clear hc hg hps h
    go_enter Try.func30, Try.ntmps30
    go_wp2_with fail
    refine H.out.mono ?_
    rintro e w1 ⟨G, rfl, hb, _⟩
    go_wp2
    go_ret
    exact ⟨rfl, hb⟩

theorem addN_cases (g : List Vx) (x : Vx) : addN g x = 0 ∨ addN g x = 1 ∨ addN g x = 2 ∨ addN g x = 3 := by
  unfold addN
  by_cases h1 : 0 ≤ findZ g x.r x.a
  · rw [if_pos h1]
    by_cases h2 : sameB (g.getD (findZ g x.r x.a).toNat vx0) x = true
    · rw [if_pos h2]; omega
    · rw [if_neg h2]; omega
  · rw [if_neg h1]
    by_cases h2 : parB g x = true
    · rw [if_pos h2]; omega
    · rw [if_neg h2]; omega
theorem addG_srt {g : List Vx} {x : Vx} (h : Srt g) : Srt (addG g x) := by
  unfold addG
  split
  · rename_i h0
    refine ins_srt h fun y hy e => ?_
    obtain ⟨k, hk, ek, _⟩ := findZ_mem h hy
    rw [e.1, e.2] at ek
    unfold addN at h0
    rw [if_pos (by rw [ek]; omega)] at h0
    split at h0 <;> simp at h0
  · exact h
set_option maxHeartbeats 1000000 in
theorem impl_GraphAdd' (ac : Option Addr) (capc : Nat) (c : List Int) (g : List Vx) (v : Value) (fp : List Nat) (x : Vx) (pa : Option Addr) (pc : Nat) (w : World) (hn : c.length ≤ 1099511627776) (hbig : g.length ≤ 1048576) (hps : ∀ y ∈ g, y.ps.length ≤ 1099511627776) (hbp : x.ps.length ≤ 1099511627776) (hc : IntsAt w ac c) (hg : Gr w g v fp) (hs : SrcAt w pa pc x.ps) (hi : IntsAt w pa x.ps) :
    Calls Try.prog 16 #[.slice ac c.length capc, v, .agg #[.int .i64 x.r, .int .i64 x.a, .slice pa x.ps.length pc, .int .i64 x.d]] w fun e w' => ∃ u, e = .returned (.tuple #[u, .int .i64 (gaN c g x)]) ∧ OwnR 30 3 4 w' w.heap.size w'.heap.size u ((gaG c g x).map Vx.fd) ∧ Below w.heap.size w w' := by
  have hb0 : Below w.heap.size w (w.alloc (.cells #[.int .i64 x.r, .int .i64 x.a, .slice pa x.ps.length pc, .int .i64 x.d] 30)) := (Below.refl _ _).alloc (Nat.le_refl _) _
  have s0 := Str.new w 30 #[.int .i64 x.r, .int .i64 x.a, .slice pa x.ps.length pc, .int .i64 x.d]
  have Hs := Lib.hid (hs.under hi hb0); clear hs
  have Hi := Lib.hid (hi.below hb0); clear hi
  have hc0 := hc.below hb0
  have hg0 := hg.under hb0
  have Hb := Lib.hid hb0
  have Hs0 := Lib.hid s0
  have Hno := Lib.hid (ga_no (c := c) (g := g) (x := x))
  have Hyes := Lib.hid (ga_yes (c := c) (g := g) (x := x))
  cases hgb : graphB c g with
  | false =>
    obtain ⟨hz1, hz2⟩ := Hno.out (by unfold gaB; rw [hgb]; rfl)
    have H := Lib.hid (graphOf_no ac capc c g v fp _ hn hbig hps hc0 hg0 hgb)
    have Hz1 := Lib.hid hz1
    have Hz2 := Lib.hid hz2
    clear hz1 hz2 hc0 hg0 hc hg hb0 s0 hps
    go_enter Try.func16, Try.ntmps16
    go_wp2_with fail
    generalize w.alloc (.cells #[.int .i64 x.r, .int .i64 x.a, .slice pa x.ps.length pc, .int .i64 x.d] 30) = W0 at *
    refine H.out.mono ?_
    rintro e w1 ⟨rfl, hb1⟩
    have Hb1 := Lib.hid (below_step Hb.out Hb.out.size hb1)
    clear hb1
    go_wp2
    go_ret2
    exact ⟨_, by rw [Hz1.out]; rfl, by rw [Hz2.out]; exact ownR_none _ _ Hb1.out.size, Hb1.out.alloc Hb1.out.size _⟩
  | true =>
    have hv : validB c = true := by unfold graphB at hgb; simp only [Bool.and_eq_true] at hgb; exact hgb.1
    have hsrt := graph_sorted hgb
    have hvx := graph_vtx hgb
    have H := Lib.hid (graphOf_yes ac capc c g v fp _ hn hbig hps hc0 hg0 hgb)
    have HAdd := Lib.hid (fun w1 hi G h hbb hl => graph_add _ w1 hi G ac capc c h g x pa pc hv hbp hps Hs.out Hi.out hc0 hbb hl hsrt hvx)
    have HP := Lib.hid hps
    have Hv := Lib.hid hv
    have Hsrt := Lib.hid hsrt
    have Hvx := Lib.hid hvx
    have Hgb := Lib.hid hgb
    clear hv hsrt hvx hc0 hg0 hc hg hb0 s0 hps hgb
    go_enter Try.func16, Try.ntmps16
    go_wp2_with fail
    generalize w.alloc (.cells #[.int .i64 x.r, .int .i64 x.a, .slice pa x.ps.length pc, .int .i64 x.d] 30) = W0 at *
    refine H.out.mono ?_
    rintro e w1 ⟨G, rfl, hb1, hG, hi1, h1, hl1⟩
    have Hb1 := Lib.hid (below_step Hb.out Hb.out.size hb1)
    have s1 : Str w1 w.heap.size 30 #[.int .i64 x.r, .int .i64 x.a, .slice pa x.ps.length pc, .int .i64 x.d] := (hb1.block _ Hs0.out.lt).trans Hs0.out
    have k0 := Str.cell s1 0 (v := .int .i64 x.r) rfl
    have k1 := Str.cell s1 1 (v := .int .i64 x.a) rfl
    have k2 := Str.cell s1 2 (v := .slice pa x.ps.length pc) rfl
    have k3 := Str.cell s1 3 (v := .int .i64 x.d) rfl
    have HAdd1 := Lib.hid (HAdd.out w1 hi1 G h1 hb1 hl1)
    have HB1 := Lib.hid hb1
    have hGl : G < w1.heap.size := Nat.lt_of_lt_of_le hl1.lt hl1.le
    clear hb1 s1 hl1
    go_wp2_with fail
    refine HAdd1.out.mono ?_
    rintro e w2 ⟨rfl, hg2, hi2, h2, hl2⟩
    have Hb2 := Lib.hid (HB1.out.grown hg2 HB1.out.size (fun g e => by cases e; exact hG))
    have Hw2 := Lib.hid (Hb.out.trans (Hb2.out.mono Hb.out.size))
    have Hl2 := Lib.hid hl2
    clear hg2 hl2 k0 k1 k2 k3
    cases hxb : vtxB c x with
    | false =>
      obtain ⟨hz1, hz2⟩ := Hno.out (by unfold gaB; rw [hxb, Bool.and_false])
      rw [(ad_not hxb).1]
      have Hz1 := Lib.hid hz1
      have Hz2 := Lib.hid hz2
      clear hz1 hz2
      go_wp2
      go_ret2
      exact ⟨_, by rw [Hz1.out]; rfl, by rw [Hz2.out]; exact ownR_none _ _ Hw2.out.size, Hw2.out.alloc Hw2.out.size _⟩
    | true =>
      obtain ⟨hz1, hz2⟩ := Hyes.out (by unfold gaB; rw [Hgb.out, hxb]; rfl)
      have hN : adN c g x = addN g x := by unfold adN; rw [if_pos hxb]
      have hGr : adG c g x = addG g x := by unfold adG; rw [if_pos hxb]
      rw [hN]
      rw [hGr] at Hl2
      have hne : (addN g x == 4) = false := by
        rw [beq_eq_false_iff_ne]
        rcases addN_cases g x with h | h | h | h <;> omega
      have hvx2 : ∀ y ∈ addG g x, vtxB c y = true := fun y hy => by
        rcases addG_memP hy with h | h
        · exact Hvx.out y h
        · rw [h]; exact hxb
      have hLs := Lib.hid (graph_list _ w2 hi2 G _ h2 (addG g x) Hb2.out Hl2.out (addG_srt Hsrt.out) (fun y hy => vtx_pl Hv.out (hvx2 y hy)) (fun y hy => by
        rcases addG_memP hy with h | h
        · exact HP.out y h
        · rw [h]; exact hbp) (by have := addG_lenP g x; omega))
      have Hz1 := Lib.hid hz1
      have Hz2 := Lib.hid hz2
      clear hz1 hz2 hN hGr hvx2
      generalize addN g x = N at *
      go_wp2_with fail
      refine hLs.out.mono ?_
      rintro e w3 ⟨u, rfl, ho, hb3⟩
      have Ho := Lib.hid (ho.from Hw2.out.size)
      have Hb3 := Lib.hid (below_step Hw2.out Hw2.out.size hb3)
      clear ho hb3
      go_wp2
      go_ret2
      exact ⟨_, by rw [Hz1.out]; rfl, by rw [Hz2.out]; exact Ho.out, Hb3.out⟩

end Go.Proofs.Ytejpoeejhmgphaa
