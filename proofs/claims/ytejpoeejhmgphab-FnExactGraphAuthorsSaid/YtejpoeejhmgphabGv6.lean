/- The reference's adding, merging and measuring of graphs, each by a walk of its text; conditions: lists are shorter than 2^40 (a graph: 2^20). -/
import Derived.Test.YtejpoeejhmgphabRows
import Derived.Test.YtejpoeejhmgphabGv5
namespace Go.Proofs.Ytejpoeejhmgphab
open Go.RowKit

theorem vtx_round {c : List Int} {x : Vx} (h : vtxB c x = true) : 0 ≤ x.r ∧ x.r ≤ 30 := by
  unfold vtxB rngB at h; simp only [Bool.and_eq_true, decide_eq_true_eq] at h; exact h.1
theorem graph_vtx {c : List Int} {g : List Vx} (h : graphB c g = true) : ∀ x ∈ g, vtxB c x = true := by
  intro x hx
  obtain ⟨k, hk, rfl⟩ := List.mem_iff_getElem.1 hx
  unfold graphB at h
  simp only [Bool.and_eq_true] at h
  have := allB_upto h.2 k hk
  unfold okV at this
  rw [getV hk] at this
  simp only [Bool.and_eq_true] at this
  exact this.1

def gaB (c : List Int) (g : List Vx) (x : Vx) : Bool := graphB c g && vtxB c x
def gaN (c : List Int) (g : List Vx) (x : Vx) : Int := if gaB c g x = true then addN g x else 4
def gaG (c : List Int) (g : List Vx) (x : Vx) : List Vx := if gaB c g x = true then addG g x else []
theorem ga_no {c : List Int} {g : List Vx} {x : Vx} (h : gaB c g x = false) : gaN c g x = 4 ∧ gaG c g x = [] := ⟨by unfold gaN; rw [if_neg (by simp [h])], by unfold gaG; rw [if_neg (by simp [h])]⟩
theorem ga_yes {c : List Int} {g : List Vx} {x : Vx} (h : gaB c g x = true) : gaN c g x = addN g x ∧ gaG c g x = addG g x := ⟨by unfold gaN; rw [if_pos h], by unfold gaG; rw [if_pos h]⟩
theorem ownR_none (w : World) (w0 : Nat) (h : w0 ≤ w.heap.size) : OwnR 28 3 4 (w.alloc (.cells #[] 28)) w0 (w.alloc (.cells #[] 28)).heap.size (.slice (some ⟨w.heap.size, 0, none⟩) 0 0) (([] : List Vx).map Vx.fd) :=
  .nil (World.ownsRow_made w #[] 0 h (by simp) (by simp)) (fun g e => by cases e; simp)
set_option maxHeartbeats 1000000 in
theorem spec_GraphAdd (ac : Option Addr) (capc : Nat) (c : List Int) (g : List Vx) (v : Value) (fp : List Nat) (x : Vx) (pa : Option Addr) (pc : Nat) (w : World) (hn : c.length ≤ 1099511627776) (hbig : g.length ≤ 1048576) (hps : ∀ y ∈ g, y.ps.length ≤ 1099511627776) (hbp : x.ps.length ≤ 1099511627776) (hc : IntsAt w ac c) (hg : Gr w g v fp) (hs : SrcAt w pa pc x.ps) (hi : IntsAt w pa x.ps) :
    Calls Try.prog 25 #[.slice ac c.length capc, v, .agg #[.int .i64 x.r, .int .i64 x.a, .slice pa x.ps.length pc, .int .i64 x.d]] w fun e w' => ∃ u, e = .returned (.tuple #[u, .int .i64 (gaN c g x)]) ∧ OwnR 28 3 4 w' w.heap.size w'.heap.size u ((gaG c g x).map Vx.fd) ∧ Below w.heap.size w w' := by
  have hb0 : Below w.heap.size w (w.alloc (.cells #[.int .i64 x.r, .int .i64 x.a, .slice pa x.ps.length pc, .int .i64 x.d] 28)) := (Below.refl _ _).alloc (Nat.le_refl _) _
  have s0 := Str.new w 28 #[.int .i64 x.r, .int .i64 x.a, .slice pa x.ps.length pc, .int .i64 x.d]
  have k0 := s0.cell 0 (v := .int .i64 x.r) rfl
  have k1 := s0.cell 1 (v := .int .i64 x.a) rfl
  have k2 := s0.cell 2 (v := .slice pa x.ps.length pc) rfl
  have k3 := s0.cell 3 (v := .int .i64 x.d) rfl
  have hsz0 : (w.alloc (.cells #[.int .i64 x.r, .int .i64 x.a, .slice pa x.ps.length pc, .int .i64 x.d] 28)).heap.size = w.heap.size + 1 := by simp
  have Hs := Lib.hid (hs.under hi hb0); clear hs
  have Hi := Lib.hid (hi.below hb0); clear hi
  have Hc := Lib.hid (hc.below hb0); clear hc
  have Hg := Lib.hid (hg.under hb0); clear hg
  have Hb := Lib.hid hb0; clear hb0
  have Hs0 := Lib.hid s0; clear s0
  have HV := Lib.hid (fun W h h' => spec_GraphValid ac capc c g v fp W hn (by omega) hps h h')
  have hno := ga_no (c := c) (g := g) (x := x)
  have hyes := ga_yes (c := c) (g := g) (x := x)
  cases hgb : graphB c g with
  | false =>
    rw [hgb] at HV
    obtain ⟨hz1, hz2⟩ := hno (by unfold gaB; rw [hgb]; rfl)
    have Hz1 := Lib.hid hz1
    have Hz2 := Lib.hid hz2
    clear hz1 hz2 hno hyes
    go_enter Try.func25, Try.ntmps25
    go_wp2_with fail
    generalize w.alloc (.cells #[.int .i64 x.r, .int .i64 x.a, .slice pa x.ps.length pc, .int .i64 x.d] 28) = W0 at *
    refine (HV.out W0 Hc.out Hg.out).mono ?_
    rintro e w1 ⟨rfl, hb1⟩
    have Hb1 := Lib.hid (below_step Hb.out Hb.out.size hb1)
    clear hb1
    go_wp2
    go_ret2
    exact ⟨_, by rw [Hz1.out]; rfl, by rw [Hz2.out]; exact ownR_none _ _ Hb1.out.size, Hb1.out.alloc Hb1.out.size _⟩
  | true =>
    rw [hgb] at HV
    have hv : validB c = true := by unfold graphB at hgb; simp only [Bool.and_eq_true] at hgb; exact hgb.1
    have HX := Lib.hid (fun W h h' => spec_l11Vertex ac capc c x.r x.a x.d pa pc x.ps W hv hbp h h')
    cases hxb : vtxB c x with
    | false =>
      rw [show vtxB c ⟨x.r, x.a, x.ps, x.d⟩ = false from hxb] at HX
      obtain ⟨hz1, hz2⟩ := hno (by unfold gaB; rw [hgb, hxb]; rfl)
      have Hz1 := Lib.hid hz1
      have Hz2 := Lib.hid hz2
      clear hz1 hz2 hno hyes
      go_enter Try.func25, Try.ntmps25
      go_wp2_with fail
      generalize w.alloc (.cells #[.int .i64 x.r, .int .i64 x.a, .slice pa x.ps.length pc, .int .i64 x.d] 28) = W0 at *
      refine (HV.out W0 Hc.out Hg.out).mono ?_
      rintro e w1 ⟨rfl, hb1⟩
      have Hb1 := Lib.hid (below_step Hb.out Hb.out.size hb1)
      have s1 := (hb1.block _ Hs0.out.lt).trans Hs0.out
      have k0 := Str.cell s1 0 (v := .int .i64 x.r) rfl
      have k1 := Str.cell s1 1 (v := .int .i64 x.a) rfl
      have k2 := Str.cell s1 2 (v := .slice pa x.ps.length pc) rfl
      have k3 := Str.cell s1 3 (v := .int .i64 x.d) rfl
      have HX1 := Lib.hid (HX.out w1 (Hc.out.below hb1) (Hi.out.below hb1))
      clear hb1 s1
      go_wp2_with fail
      refine HX1.out.mono ?_
      rintro e w2 ⟨rfl, hb2⟩
      have Hb2 := Lib.hid (below_step Hb1.out Hb1.out.size hb2)
      clear hb2
      go_wp2
      go_ret2
      exact ⟨_, by rw [Hz1.out]; rfl, by rw [Hz2.out]; exact ownR_none _ _ Hb2.out.size, Hb2.out.alloc Hb2.out.size _⟩
    | true =>
      rw [show vtxB c ⟨x.r, x.a, x.ps, x.d⟩ = true from hxb] at HX
      obtain ⟨hz1, hz2⟩ := hyes (by unfold gaB; rw [hgb, hxb]; rfl)
      have Hz1 := Lib.hid hz1
      have Hz2 := Lib.hid hz2
      have hrr := vtx_round hxb
      have HA := Lib.hid (fun W h1 h2 h3 => spec_l11Add g v fp x pa pc W hbig hps hbp hrr.1 (by omega) h1 h2 h3)
      clear hz1 hz2 hno hyes
      go_enter Try.func25, Try.ntmps25
      go_wp2_with fail
      generalize w.alloc (.cells #[.int .i64 x.r, .int .i64 x.a, .slice pa x.ps.length pc, .int .i64 x.d] 28) = W0 at *
      refine (HV.out W0 Hc.out Hg.out).mono ?_
      rintro e w1 ⟨rfl, hb1⟩
      have Hb1 := Lib.hid (below_step Hb.out Hb.out.size hb1)
      have s1 : Str w1 w.heap.size 28 #[.int .i64 x.r, .int .i64 x.a, .slice pa x.ps.length pc, .int .i64 x.d] := (hb1.block _ Hs0.out.lt).trans Hs0.out
      have k0 := Str.cell s1 0 (v := .int .i64 x.r) rfl
      have k1 := Str.cell s1 1 (v := .int .i64 x.a) rfl
      have k2 := Str.cell s1 2 (v := .slice pa x.ps.length pc) rfl
      have k3 := Str.cell s1 3 (v := .int .i64 x.d) rfl
      have HX1 := Lib.hid (HX.out w1 (Hc.out.below hb1) (Hi.out.below hb1))
      have Hs1 := Lib.hid (Hs.out.under Hi.out hb1)
      have Hi1 := Lib.hid (Hi.out.below hb1)
      have Hg1 := Lib.hid (Hg.out.under hb1)
      have Hst1 := Lib.hid s1
      clear hb1 s1
      go_wp2_with fail
      refine HX1.out.mono ?_
      rintro e w2 ⟨rfl, hb2⟩
      have Hb2 := Lib.hid (below_step Hb1.out Hb1.out.size hb2)
      have s1 : Str w2 w.heap.size 28 #[.int .i64 x.r, .int .i64 x.a, .slice pa x.ps.length pc, .int .i64 x.d] := (hb2.block _ Hst1.out.lt).trans Hst1.out
      have k0 := Str.cell s1 0 (v := .int .i64 x.r) rfl
      have k1 := Str.cell s1 1 (v := .int .i64 x.a) rfl
      have k2 := Str.cell s1 2 (v := .slice pa x.ps.length pc) rfl
      have k3 := Str.cell s1 3 (v := .int .i64 x.d) rfl
      have HA2 := Lib.hid (HA.out w2 (Hg1.out.under hb2) (Hs1.out.under Hi1.out hb2) (Hi1.out.below hb2))
      clear hb2 s1
      go_wp2_with fail
      refine HA2.out.mono ?_
      rintro e w3 ⟨u, rfl, ho, hb3⟩
      have Ho := Lib.hid (ho.from Hb2.out.size)
      have Hb3 := Lib.hid (below_step Hb2.out Hb2.out.size hb3)
      clear ho hb3
      go_wp2
      go_ret2
      exact ⟨_, by rw [Hz1.out]; rfl, by rw [Hz2.out]; exact Ho.out, Hb3.out⟩

/-- The graphs' vertices added one after the other, from index k on; none where two contradict. -/
def mrgF : List Vx → List Vx → Option (List Vx)
  | out, [] => some out
  | out, x :: b => if addN out x = 2 then none else mrgF (addG out x) b
def mgO (c : List Int) (a b : List Vx) : Option (List Vx) := if graphB c a = true ∧ graphB c b = true then mrgF a b else none
def mgG (c : List Int) (a b : List Vx) : List Vx := (mgO c a b).getD []
def mgB (c : List Int) (a b : List Vx) : Bool := (mgO c a b).isSome
theorem mg_no {c : List Int} {a b : List Vx} (h : ¬ (graphB c a = true ∧ graphB c b = true)) : mgG c a b = [] ∧ mgB c a b = false := by unfold mgG mgB mgO; rw [if_neg h]; exact ⟨rfl, rfl⟩
theorem mrg_stop {a b : List Vx} {k : Nat} {out : List Vx} (hk : k < b.length) (h : mrgF out (b.drop k) = mrgF a b) (h2 : addN out b[k] = 2) : mrgF a b = none := by
  rw [← h, List.drop_eq_getElem_cons hk, mrgF, if_pos h2]
theorem mrg_step {a b : List Vx} {k : Nat} {out : List Vx} (hk : k < b.length) (h : mrgF out (b.drop k) = mrgF a b) (h2 : addN out b[k] ≠ 2) : mrgF (addG out b[k]) (b.drop (k + 1)) = mrgF a b := by
  rw [← h, List.drop_eq_getElem_cons hk, mrgF, if_neg h2]
theorem mrg_end {a b : List Vx} {out : List Vx} (h : mrgF out (b.drop b.length) = mrgF a b) : mrgF a b = some out := by rw [← h, List.drop_length]; rfl
theorem addG_len (g : List Vx) (x : Vx) : (addG g x).length ≤ g.length + 1 := by
  unfold addG
  split
  · unfold insG
    rw [List.length_append, List.length_append, List.length_take, List.length_drop]
    simp; omega
  · omega
theorem addG_mem {g : List Vx} {x y : Vx} (h : y ∈ addG g x) : y ∈ g ∨ y = x := by
  unfold addG at h
  split at h
  · unfold insG at h
    rcases List.mem_append.1 h with h | h
    · rcases List.mem_append.1 h with h | h
      · exact .inl (List.mem_of_mem_take h)
      · simp at h; exact .inr h
    · exact .inl (List.mem_of_mem_drop h)
  · exact .inl h
set_option maxHeartbeats 1000000 in
theorem spec_GraphMerge (ac : Option Addr) (capc : Nat) (c : List Int) (a b : List Vx) (va vb : Value) (fa fb : List Nat) (w : World) (hn : c.length ≤ 1099511627776) (hbig : a.length + b.length ≤ 1048576) (hpa : ∀ y ∈ a, y.ps.length ≤ 1099511627776) (hpb : ∀ y ∈ b, y.ps.length ≤ 1099511627776) (hc : IntsAt w ac c) (ha : Gr w a va fa) (hb : Gr w b vb fb) :
    Calls Try.prog 38 #[.slice ac c.length capc, va, vb] w fun e w' => ∃ u, e = .returned (.tuple #[u, .bool (mgB c a b)]) ∧ OwnR 28 3 4 w' w.heap.size w'.heap.size u ((mgG c a b).map Vx.fd) ∧ Below w.heap.size w w' := by
  have HVa := Lib.hid (spec_GraphValid ac capc c a va fa w hn (by omega) hpa hc ha)
  have HVb := Lib.hid (fun W h h' => spec_GraphValid ac capc c b vb fb W hn (by omega) hpb h h')
  have Hc := Lib.hid hc; clear hc
  have Ha := Lib.hid ha; clear ha
  have Hb := Lib.hid hb; clear hb
  have hno := mg_no (c := c) (a := a) (b := b)
  cases hga : graphB c a with
  | false =>
    rw [hga] at HVa
    obtain ⟨hz2, hz1⟩ := hno (fun h => by rw [hga] at h; exact absurd h.1 (by simp))
    have Hz1 := Lib.hid hz1
    have Hz2 := Lib.hid hz2
    clear hz1 hz2 hno
    go_enter Try.func38, Try.ntmps38
    go_wp2_with fail
    refine HVa.out.mono ?_
    rintro e w1 ⟨rfl, hb1⟩
    have Hb1 := Lib.hid hb1; clear hb1
    go_wp2
    go_ret2
    exact ⟨_, by rw [Hz1.out]; rfl, by rw [Hz2.out]; exact ownR_none _ _ Hb1.out.size, Hb1.out.alloc Hb1.out.size _⟩
  | true =>
  rw [hga] at HVa
  cases hgb : graphB c b with
  | false =>
    rw [hgb] at HVb
    obtain ⟨hz2, hz1⟩ := hno (fun h => by rw [hgb] at h; exact absurd h.2 (by simp))
    have Hz1 := Lib.hid hz1
    have Hz2 := Lib.hid hz2
    clear hz1 hz2 hno
    go_enter Try.func38, Try.ntmps38
    go_wp2_with fail
    refine HVa.out.mono ?_
    rintro e w1 ⟨rfl, hb1⟩
    go_wp2_with fail
    refine (HVb.out w1 (Hc.out.below hb1) (Hb.out.under hb1)).mono ?_
    rintro e w2 ⟨rfl, hb2⟩
    have Hb1 := Lib.hid (below_step hb1 hb1.size hb2); clear hb1 hb2
    go_wp2
    go_ret2
    exact ⟨_, by rw [Hz1.out]; rfl, by rw [Hz2.out]; exact ownR_none _ _ Hb1.out.size, Hb1.out.alloc Hb1.out.size _⟩
  | true =>
  rw [hgb] at HVb
  have hO : mgO c a b = mrgF a b := by unfold mgO; rw [if_pos ⟨hga, hgb⟩]
  have Hnone := Lib.hid (show mrgF a b = none → mgB c a b = false ∧ mgG c a b = [] from fun h => by unfold mgB mgG; rw [hO, h]; exact ⟨rfl, rfl⟩)
  have Hsome := Lib.hid (show ∀ out, mrgF a b = some out → mgB c a b = true ∧ mgG c a b = out from fun out h => by unfold mgB mgG; rw [hO, h]; exact ⟨rfl, rfl⟩)
  have HC := Lib.hid (fun W h => spec_l11Copy a va fa W (by omega) hpa h)
  have Hvb := Lib.hid (graph_vtx hgb)
  have HPb := Lib.hid hpb; clear hpb
  have HPa := Lib.hid hpa; clear hpa
  obtain ⟨ab, cb, rfl⟩ := Hb.out.slice
  clear hno hO hga hgb
  go_enter Try.func38, Try.ntmps38
  go_wp2_with fail
  refine HVa.out.mono ?_
  rintro e w1 ⟨rfl, hb1⟩
  go_wp2_with fail
  refine (HVb.out w1 (Hc.out.below hb1) (Hb.out.under hb1)).mono ?_
  rintro e w2 ⟨rfl, hb2⟩
  have Hb1 := Lib.hid (below_step hb1 hb1.size hb2); clear hb1 hb2
  go_wp2_with fail
  refine (HC.out w2 (Ha.out.under Hb1.out)).mono ?_
  rintro e w3 ⟨u3, rfl, ho3, hb3⟩
  have Ho3 := Lib.hid (ho3.from Hb1.out.size)
  have Hb3 := Lib.hid (below_step Hb1.out Hb1.out.size hb3); clear ho3 hb3
  go_wp2
  go_loopw [8, 9] (fun u i wr => ∃ (k : Nat) (out : List Vx), k ≤ b.length ∧ i = .int .i64 k ∧ out.length ≤ a.length + k ∧ (∀ y ∈ out, y.ps.length ≤ 1099511627776) ∧ mrgF out (b.drop k) = mrgF a b ∧ OwnR 28 3 4 wr w.heap.size wr.heap.size u (out.map Vx.fd) ∧ Below w.heap.size w wr) (fun _ i _ => b.length - (intOf i).toNat)
  case atStart => exact ⟨0, a, Nat.zero_le _, rfl, by omega, HPa.out, rfl, Ho3.out, Hb3.out⟩
  case round =>
    obtain ⟨k, out, hk, rfl, hol, hop, hmr, hbld, hbel⟩ := hrel
    have Hbld := Lib.hid hbld; clear hbld
    have Hbel := Lib.hid hbel; clear hbel
    have Hmr := Lib.hid hmr; clear hmr
    by_cases hlt : k < b.length
    · obtain ⟨gb, off, rfl, hbb, hat⟩ := (Hb.out.under Hbel.out).at (by omega)
      obtain ⟨c0, c1, ⟨pa, pc, c2, i2, s2⟩, c3⟩ := hat k hlt
      have hpy := HPb.out _ (List.getElem_mem hlt)
      have hrr := vtx_round (Hvb.out _ (List.getElem_mem hlt))
      obtain ⟨fo, hro⟩ := Hbld.out.reads
      have Hadd := Lib.hid (spec_l11Add out _ fo b[k] pa pc wr (by omega) hop hpy hrr.1 (by omega) hro s2 i2)
      have Hstop := Lib.hid (mrg_stop hlt Hmr.out)
      have Hstep := Lib.hid (mrg_step hlt Hmr.out)
      have hal := addG_len out b[k]
      have Hin := Lib.hid (show ∀ y ∈ addG out b[k], y.ps.length ≤ 1099511627776 from fun y hy => by
        rcases addG_mem hy with h | rfl
        · exact hop y h
        · exact hpy)
      clear hat i2 s2 hro hpy hrr hop
      generalize b[k] = y at *
      go_wp2_with fail
      refine Hadd.out.mono ?_
      rintro e w6 ⟨u6, rfl, ho6, hb6⟩
      have Ho6 := Lib.hid (ho6.from Hbel.out.size)
      have Hb6 := Lib.hid (below_step Hbel.out Hbel.out.size hb6); clear ho6 hb6 c0 c1 c2 c3
      by_cases h2 : addN out y = 2
      · obtain ⟨hz1, hz2⟩ := Hnone.out (Hstop.out h2)
        have Hz1 := Lib.hid hz1
        have Hz2 := Lib.hid hz2
        have e2 : (addN out y == 2) = true := by simpa using h2
        clear hz1 hz2 h2
        go_wp2
        go_ret2
        exact ⟨_, by rw [Hz1.out]; rfl, by rw [Hz2.out]; exact ownR_none _ _ Hb6.out.size, Hb6.out.alloc Hb6.out.size _⟩
      · have Hst := Lib.hid (Hstep.out h2)
        have e2 : (addN out y == 2) = false := by simpa using h2
        clear h2
        go_wp2
        go_roundw
        case rel => exact ⟨k + 1, _, by omega, by go_num, by omega, Hin.out, Hst.out, Ho6.out, Hb6.out⟩
        case measure => simp [intOf]; omega
    · have hke : k = b.length := by omega
      subst hke
      obtain ⟨hz1, hz2⟩ := Hsome.out out (mrg_end Hmr.out)
      have Hz1 := Lib.hid hz1
      have Hz2 := Lib.hid hz2
      clear hz1 hz2
      go_wp2
      go_ret2
      exact ⟨_, by rw [Hz1.out]; rfl, by rw [Hz2.out]; exact Hbld.out, Hbel.out⟩

end Go.Proofs.Ytejpoeejhmgphab
