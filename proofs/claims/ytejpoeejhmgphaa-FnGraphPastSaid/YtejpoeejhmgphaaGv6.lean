/- The reference's adding, merging and measuring of graphs, each by a walk of its text; conditions: lists are shorter than 2^40 (a graph: 2^20). -/
import Derived.Test.YtejpoeejhmgphaaRows
import Derived.Test.YtejpoeejhmgphaaGv5
namespace Go.Proofs.Ytejpoeejhmgphaa
open Go.RowKit

theorem vtx_round {c : List Int} {x : Vx} (h : vtxB c x = true) : 0 ≤ x.r ∧ x.r ≤ 30 := by
  unfold vtxB rngB at h; simp only [Bool.and_eq_true, decide_eq_true_eq] at h; exact h.1
theorem graph_vtx {c : List Int} {g : List Vx} (h : graphB c g = true) : ∀ x ∈ g, vtxB c x = true := by
  intro x hx
  obtain ⟨k, hk, rfl⟩ := List.mem_iff_getElem.1 hx
  unfold graphB at h
  simp only [Bool.and_eq_true] at h
  have := allB_upto h.2 k hk
  unfold okV at this
  rw [getV hk] at this
  simp only [Bool.and_eq_true] at this
  exact this.1

def gaB (c : List Int) (g : List Vx) (x : Vx) : Bool := graphB c g && vtxB c x
def gaN (c : List Int) (g : List Vx) (x : Vx) : Int := if gaB c g x = true then addN g x else 4
def gaG (c : List Int) (g : List Vx) (x : Vx) : List Vx := if gaB c g x = true then addG g x else []
theorem ga_no {c : List Int} {g : List Vx} {x : Vx} (h : gaB c g x = false) : gaN c g x = 4 ∧ gaG c g x = [] := ⟨by unfold gaN; rw [if_neg (by simp [h])], by unfold gaG; rw [if_neg (by simp [h])]⟩
theorem ga_yes {c : List Int} {g : List Vx} {x : Vx} (h : gaB c g x = true) : gaN c g x = addN g x ∧ gaG c g x = addG g x := ⟨by unfold gaN; rw [if_pos h], by unfold gaG; rw [if_pos h]⟩
theorem ownR_none (w : World) (w0 : Nat) (h : w0 ≤ w.heap.size) : OwnR 30 3 4 (w.alloc (.cells #[] 30)) w0 (w.alloc (.cells #[] 30)).heap.size (.slice (some ⟨w.heap.size, 0, none⟩) 0 0) (([] : List Vx).map Vx.fd) :=
  .nil (World.ownsRow_made w #[] 0 h (by simp) (by simp)) (fun g e => by cases e; simp)
set_option maxHeartbeats 1000000 in
theorem spec_GraphAdd (ac : Option Addr) (capc : Nat) (c : List Int) (g : List Vx) (v : Value) (fp : List Nat) (x : Vx) (pa : Option Addr) (pc : Nat) (w : World) (hn : c.length ≤ 1099511627776) (hbig : g.length ≤ 1048576) (hps : ∀ y ∈ g, y.ps.length ≤ 1099511627776) (hbp : x.ps.length ≤ 1099511627776) (hc : IntsAt w ac c) (hg : Gr w g v fp) (hs : SrcAt w pa pc x.ps) (hi : IntsAt w pa x.ps) :
    Calls Try.prog 17 #[.slice ac c.length capc, v, .agg #[.int .i64 x.r, .int .i64 x.a, .slice pa x.ps.length pc, .int .i64 x.d]] w fun e w' => ∃ u, e = .returned (.tuple #[u, .int .i64 (gaN c g x)]) ∧ OwnR 30 3 4 w' w.heap.size w'.heap.size u ((gaG c g x).map Vx.fd) ∧ Below w.heap.size w w' := by
  have hb0 : Below w.heap.size w (w.alloc (.cells #[.int .i64 x.r, .int .i64 x.a, .slice pa x.ps.length pc, .int .i64 x.d] 30)) := (Below.refl _ _).alloc (Nat.le_refl _) _
  have s0 := Str.new w 30 #[.int .i64 x.r, .int .i64 x.a, .slice pa x.ps.length pc, .int .i64 x.d]
  have k0 := s0.cell 0 (v := .int .i64 x.r) rfl
  have k1 := s0.cell 1 (v := .int .i64 x.a) rfl
  have k2 := s0.cell 2 (v := .slice pa x.ps.length pc) rfl
  have k3 := s0.cell 3 (v := .int .i64 x.d) rfl
  have hsz0 : (w.alloc (.cells #[.int .i64 x.r, .int .i64 x.a, .slice pa x.ps.length pc, .int .i64 x.d] 30)).heap.size = w.heap.size + 1 := by simp
  have Hs := Lib.hid (hs.under hi hb0); clear hs
  have Hi := Lib.hid (hi.below hb0); clear hi
  have Hc := Lib.hid (hc.below hb0); clear hc
  have Hg := Lib.hid (hg.under hb0); clear hg
  have Hb := Lib.hid hb0; clear hb0
  have Hs0 := Lib.hid s0; clear s0
  have HV := Lib.hid (fun W h h' => spec_GraphValid ac capc c g v fp W hn (by omega) hps h h')
  have hno := ga_no (c := c) (g := g) (x := x)
  have hyes := ga_yes (c := c) (g := g) (x := x)
  cases hgb : graphB c g with
  | false =>
    rw [hgb] at HV
    obtain ⟨hz1, hz2⟩ := hno (by unfold gaB; rw [hgb]; rfl)
    have Hz1 := Lib.hid hz1
    have Hz2 := Lib.hid hz2
    clear hz1 hz2 hno hyes
    go_enter Try.func17, Try.ntmps17
    go_wp2_with fail
    generalize w.alloc (.cells #[.int .i64 x.r, .int .i64 x.a, .slice pa x.ps.length pc, .int .i64 x.d] 30) = W0 at *
    refine (HV.out W0 Hc.out Hg.out).mono ?_
    rintro e w1 ⟨rfl, hb1⟩
    have Hb1 := Lib.hid (below_step Hb.out Hb.out.size hb1)
    clear hb1
    go_wp2
    go_ret2
    exact ⟨_, by rw [Hz1.out]; rfl, by rw [Hz2.out]; exact ownR_none _ _ Hb1.out.size, Hb1.out.alloc Hb1.out.size _⟩
  | true =>
    rw [hgb] at HV
    have hv : validB c = true := by unfold graphB at hgb; simp only [Bool.and_eq_true] at hgb; exact hgb.1
    have HX := Lib.hid (fun W h h' => spec_l11Vertex ac capc c x.r x.a x.d pa pc x.ps W hv hbp h h')
    cases hxb : vtxB c x with
    | false =>
      rw [show vtxB c ⟨x.r, x.a, x.ps, x.d⟩ = false from hxb] at HX
      obtain ⟨hz1, hz2⟩ := hno (by unfold gaB; rw [hgb, hxb]; rfl)
      have Hz1 := Lib.hid hz1
      have Hz2 := Lib.hid hz2
      clear hz1 hz2 hno hyes
      go_enter Try.func17, Try.ntmps17
      go_wp2_with fail
      generalize w.alloc (.cells #[.int .i64 x.r, .int .i64 x.a, .slice pa x.ps.length pc, .int .i64 x.d] 30) = W0 at *
      refine (HV.out W0 Hc.out Hg.out).mono ?_
      rintro e w1 ⟨rfl, hb1⟩
      have Hb1 := Lib.hid (below_step Hb.out Hb.out.size hb1)
      have s1 := (hb1.block _ Hs0.out.lt).trans Hs0.out
      have k0 := Str.cell s1 0 (v := .int .i64 x.r) rfl
      have k1 := Str.cell s1 1 (v := .int .i64 x.a) rfl
      have k2 := Str.cell s1 2 (v := .slice pa x.ps.length pc) rfl
      have k3 := Str.cell s1 3 (v := .int .i64 x.d) rfl
      have HX1 := Lib.hid (HX.out w1 (Hc.out.below hb1) (Hi.out.below hb1))
      clear hb1 s1
      go_wp2_with fail
      refine HX1.out.mono ?_
      rintro e w2 ⟨rfl, hb2⟩
      have Hb2 := Lib.hid (below_step Hb1.out Hb1.out.size hb2)
      clear hb2
      go_wp2
      go_ret2
      exact ⟨_, by rw [Hz1.out]; rfl, by rw [Hz2.out]; exact ownR_none _ _ Hb2.out.size, Hb2.out.alloc Hb2.out.size _⟩
    | true =>
      rw [show vtxB c ⟨x.r, x.a, x.ps, x.d⟩ = true from hxb] at HX
      obtain ⟨hz1, hz2⟩ := hyes (by unfold gaB; rw [hgb, hxb]; rfl)
      have Hz1 := Lib.hid hz1
      have Hz2 := Lib.hid hz2
      have hrr := vtx_round hxb
      have HA := Lib.hid (fun W h1 h2 h3 => spec_l11Add g v fp x pa pc W hbig hps hbp hrr.1 (by omega) h1 h2 h3)
      clear hz1 hz2 hno hyes
      go_enter Try.func17, Try.ntmps17
      go_wp2_with fail
      generalize w.alloc (.cells #[.int .i64 x.r, .int .i64 x.a, .slice pa x.ps.length pc, .int .i64 x.d] 30) = W0 at *
      refine (HV.out W0 Hc.out Hg.out).mono ?_
      rintro e w1 ⟨rfl, hb1⟩
      have Hb1 := Lib.hid (below_step Hb.out Hb.out.size hb1)
      have s1 : Str w1 w.heap.size 30 #[.int .i64 x.r, .int .i64 x.a, .slice pa x.ps.length pc, .int .i64 x.d] := (hb1.block _ Hs0.out.lt).trans Hs0.out
      have k0 := Str.cell s1 0 (v := .int .i64 x.r) rfl
      have k1 := Str.cell s1 1 (v := .int .i64 x.a) rfl
      have k2 := Str.cell s1 2 (v := .slice pa x.ps.length pc) rfl
      have k3 := Str.cell s1 3 (v := .int .i64 x.d) rfl
      have HX1 := Lib.hid (HX.out w1 (Hc.out.below hb1) (Hi.out.below hb1))
      have Hs1 := Lib.hid (Hs.out.under Hi.out hb1)
      have Hi1 := Lib.hid (Hi.out.below hb1)
      have Hg1 := Lib.hid (Hg.out.under hb1)
      have Hst1 := Lib.hid s1
      clear hb1 s1
      go_wp2_with fail
      refine HX1.out.mono ?_
      rintro e w2 ⟨rfl, hb2⟩
      have Hb2 := Lib.hid (below_step Hb1.out Hb1.out.size hb2)
      have s1 : Str w2 w.heap.size 30 #[.int .i64 x.r, .int .i64 x.a, .slice pa x.ps.length pc, .int .i64 x.d] := (hb2.block _ Hst1.out.lt).trans Hst1.out
      have k0 := Str.cell s1 0 (v := .int .i64 x.r) rfl
      have k1 := Str.cell s1 1 (v := .int .i64 x.a) rfl
      have k2 := Str.cell s1 2 (v := .slice pa x.ps.length pc) rfl
      have k3 := Str.cell s1 3 (v := .int .i64 x.d) rfl
      have HA2 := Lib.hid (HA.out w2 (Hg1.out.under hb2) (Hs1.out.under Hi1.out hb2) (Hi1.out.below hb2))
      clear hb2 s1
      go_wp2_with fail
      refine HA2.out.mono ?_
      rintro e w3 ⟨u, rfl, ho, hb3⟩
      have Ho := Lib.hid (ho.from Hb2.out.size)
      have Hb3 := Lib.hid (below_step Hb2.out Hb2.out.size hb3)
      clear ho hb3
      go_wp2
      go_ret2
      exact ⟨_, by rw [Hz1.out]; rfl, by rw [Hz2.out]; exact Ho.out, Hb3.out⟩

