/- Texts that the laws of this folder share, one behind another; no conditions. -/
import Derived.Test.YtjekgjlnaochiaaDoorRows
import Derived.Test.YtjekgjlnaochiaaDoorBu3
import Derived.Deep.QuietTactic
import Derived.BigQuiet
import Derived.Test.YtjekgjlnaochiaaDoorBu0
import Derived.Shelf.Slices.Reverse
import Derived.Sort.OwnSortedInts
import Derived.Test.YtjekgjlnaochiaaDoorBu2
import Derived.Test.YtjekgjlnaochiaaDoorBu1

/- impl's test of one vertex depending on another, by a walk of its text; conditions: the graph is valid, lists are shorter than 2^40. -/
namespace Go.Proofs.YtjekgjlnaochiaaDoor
open Go.RowKit

set_option maxRecDepth 8000 in
set_option maxHeartbeats 1000000 in
theorem lv_dependsOn {w0 w : World} {hi G : Nat} {mv : Value} {c : List Int} {h : Nat → Value} {g : List Vx} {ls : List Int} (l : Lk w0 w hi G mv h g) (ok : Good21 c g ls) {a b : Nat} (ha : a < g.length) (hb : b < g.length) {q p : Nat} (hq : h (plN g[a].r g[a].a) = ptrV q) (hp : h (plN g[b].r g[b].a) = ptrV p) :
    Calls Tryd.prog 82 #[.pointer (some ⟨q, 0, none⟩), .pointer (some ⟨p, 0, none⟩)] w fun e w' => e = .returned (.bool ((pastB g a).getD b false)) ∧ Below w.heap.size w w' := by
  have hz72 : Tryd.zeroCells79 = marksV fun _ => false := by kernel_rfl
  have hbM : Below w.heap.size w (w.alloc (.cells Tryd.zeroCells79 79)) := (Below.refl _ _).alloc (Nat.le_refl _) _
  have sM := Str.new w 79 Tryd.zeroCells79
  rw [hz72] at sM
  have HMc := Lib.hid (mark_past w0 w hi G mv h g w.heap.size l l.le ok.srt ok.pl ok.par ok.r0 ok.ps g[a].r.toNat g[a] q (w.alloc (.cells Tryd.zeroCells79 79)) (fun _ => false) (List.getElem_mem ha) rfl hq (below_rowP hbM _) (by rw [hz72]; exact sM) (fun z _ _ hb => by cases hb))
  have Hmp := Lib.hid (fun bs hm => marks_past (bs := bs) ok.gb ha hm (fun _ _ => .inr trivial) b hb)
  have HL := Lib.hid l
  have HbM := Lib.hid hbM
  have ip := ok.pl _ (List.getElem_mem hb)
  unfold inPl at ip
  obtain ⟨o1, hm1, hm2⟩ := run_mark w.heap.size g[b].r g[b].a ip.1 ip.2.1 ip.2.2.1 ip.2.2.2
  have hbd := plM_bd ip.2.1 ip.2.2.2
  have Hpp : Hid (∃ pa pc pv, Str w p 56 #[.int .i64 g[b].r, .int .i64 g[b].a, .slice pa g[b].ps.length pc, .int .i64 g[b].d, pv] ∧ p < hi) := by
    obtain ⟨p', hp', n⟩ := l.has g[b] (List.getElem_mem hb)
    rw [hp] at hp'
    have e : p = p' := by unfold ptrV at hp'; simpa using hp'
    subst e
    obtain ⟨pa, pc, pv, _, s, _⟩ := n.ex
    exact Lib.hid ⟨pa, pc, pv, s, n.lt⟩
  clear l ok hbM sM ip hq hp hz72
  go_enter Tryd.func82, Tryd.ntmps82
  go_wp2_with fail
  refine HMc.out.mono ?_
  rintro e w3 ⟨rfl, hg3, bs, hs3, hmk⟩
  have Hp := Lib.hid (Hmp.out bs hmk)
  have hb3 : Below w.heap.size w w3 := HbM.out.grown hg3 HbM.out.size (fun g e => by cases e; omega)
  have em := hs3.cell (plM g[b].r g[b].a) (v := .bool (bs (plM g[b].r g[b].a))) (arrP_get hbd)
  rw [Hp.out] at em
  obtain ⟨pa, pc, pv, sp, hlt⟩ := Hpp.out
  have sp3 : Str w3 p 56 #[.int .i64 g[b].r, .int .i64 g[b].a, .slice pa g[b].ps.length pc, .int .i64 g[b].d, pv] := (hb3.block _ sp.lt).trans sp
  have c0 := sp3.cell 0 (v := .int .i64 g[b].r) rfl
  have c1 := sp3.cell 1 (v := .int .i64 g[b].a) rfl
  have Hb3 := Lib.hid hb3
  clear hs3 hg3 hmk sp sp3 hb3 Hp Hmp
  generalize hPB : (pastB g a).getD b false = PB at *
  have HPB := Lib.hid hPB; clear hPB
  go_wp2_with fail
  go_quiet (fail)
  go_wp2
  go_ret
  exact ⟨by rw [HPB.out]; rfl, below_step Hb3.out Hb3.out.size (((Drawn.refl _).drewN _).below _)⟩

end Go.Proofs.YtjekgjlnaochiaaDoor

/- slices.Reverse at a list of ints of the call's own, over the kit's shelf; no conditions but the list's length. -/
namespace Go.Proofs.YtjekgjlnaochiaaDoor
open Go.RowKit Go.Shelf Go.Sort

def revI_ren : Go.Shelf.Ren := ⟨fun | 112 => 83 | n => n, fun | 0 => 0 | 3 => 3 | 4 => 4 | 28 => 23 | n => n, fun n => n⟩
theorem revI : Go.Proofs.Lays.n112 Tryd.prog revI_ren := {
  mixed := by kernel_rfl
  f112 := Tryd.func83.trans (congrArg some (by kernel_rfl))
  t0 := Tryd.underlying0
  a0 := Tryd.isAgg0
  z0 := Tryd.sizeOf0
  v0 := Tryd.zeroValue0
  t3 := Tryd.underlying3
  a3 := Tryd.isAgg3
  z3 := Tryd.sizeOf3
  v3 := Tryd.zeroValue3
  t4 := Tryd.underlying4
  a4 := Tryd.isAgg4
  z4 := Tryd.sizeOf4
  v4 := Tryd.zeroValue4
  t28 := Tryd.underlying23
  a28 := Tryd.isAgg23
  z28 := Tryd.sizeOf23
  v28 := Tryd.zeroValue23
}
theorem rev_own (B : Nat) (v : Value) (xs : List Int) (w : World) (hown : Own 3 w B v xs) (hbig : xs.length ≤ 1048576) :
    Calls Tryd.prog 83 #[v] w fun e w' => e = .returned (.tuple #[]) ∧ Own 3 w' B v xs.reverse ∧ w.grownBy w' v.ownBlock := by
  have hown' := hown
  rcases hown.2 with ⟨rfl, h0⟩ | ⟨g, cap, cur, rfl, hb, hg, hn, hm, hs, ht⟩
  · obtain rfl : xs = [] := List.eq_nil_of_length_eq_zero h0
    refine (Any.slices_Reverse_int_empty revI none 0 w).mono ?_
    rintro e w' ⟨rfl, rfl⟩
    exact ⟨rfl, hown', World.grownBy.refl _ _⟩
  · have hH := holds_of_blockI hg (by rw [Nat.mul_one] at ht; exact ht)
    refine (Any.slices_Reverse_int revI g 0 cap xs w hH (by omega)).mono ?_
    rintro e w' ⟨rfl, n, rfl⟩
    have h1 := ownsRow_sortedI (w := w) (n := n) (os := #[]) (ss := xs) (ts := xs.reverse) (by simp) hb hg hn hm hs
    have h2 := grownBy_sortedI (w := w) (g := g) (n := n) (os := #[]) xs.reverse.toArray
    rw [grow_empty] at h1 h2
    refine ⟨rfl, ?_, h2⟩
    unfold Own
    rw [show xs.reverse.length = xs.length by simp]
    exact h1

end Go.Proofs.YtjekgjlnaochiaaDoor

/- impl's waves that a directly committed wave commits, by a walk of its text; conditions: the graph and the leaders are valid, lists are shorter than 2^40. -/
namespace Go.Proofs.YtjekgjlnaochiaaDoor
open Go.RowKit

/-- Behind some rounds: what is collected, and the current leader vertex. -/
def CbAt (h : Nat → Value) (g : List Vx) (ls : List Int) (lo d : Nat) (x : Nat) (W : List Int) (cu : Value) : Prop :=
  (x = d ∧ W = [] ∧ cu = .pointer none) ∨ (x < d ∧ ∃ (C : List Int) (j : Nat) (hj : j < g.length) (p : Nat), W = C.reverse ∧ C.length + x ≤ d ∧ chZ g ls lo x C j = chZ g ls lo (d - 1) [(d : Int)] (ldZ g ls d) ∧ cu = .pointer (some ⟨p, 0, none⟩) ∧ h (plN g[j].r g[j].a) = ptrV p)

theorem TIq : IntT Tryd.prog 23 3 := ⟨Tryd.underlying23, by kernel_rfl⟩
section
variable {w0 w : World} {hi G q : Nat} {mv : Value} {c : List Int} {h : Nat → Value} {g : List Vx} {al : Option Addr} {cap : Nat} {ls : List Int} {eN eI : Addr}
set_option maxRecDepth 8000 in
set_option maxHeartbeats 4000000 in
theorem led_committedBy (l : Lg w0 w hi G q mv h g al cap ls) (hs : Sen w eN eI) (d lo : Nat) (hd : 1 ≤ d ∧ d ≤ ls.length) (hlo : lo < d) (ok : Good21 c g ls) (hi' : IntsAt w al ls) (hz : 0 ≤ ldZ g ls d) :
    Calls Tryd.prog 67 #[.pointer (some ⟨q, 0, none⟩), .int .i64 d, .int .i64 lo] w fun e w' => ∃ u, e = .returned u ∧ Own 3 w' w.heap.size u (chZ g ls lo (d - 1) [(d : Int)] (ldZ g ls d)) ∧ Below w.heap.size w w' := by
  obtain ⟨hd1, hd2⟩ := hd
  have h15 := ok.l15
  have hb0 : Below w.heap.size w (w.alloc (.cells #[] 3)) := (Below.refl _ _).alloc (Nat.le_refl _) _
  have Ho0 := Lib.hid (own_empty 3 w (Nat.le_refl w.heap.size))
  have Hb0 := Lib.hid hb0
  have HLd := Lib.hid (fun (k : Nat) (hk : 1 ≤ k ∧ k ≤ ls.length) W (hb : Below w.heap.size w W) => led_leader (l.under hb) (hs.below hb) k hk ok.l15 ok.l6 (hi'.below hb) ok.pl)
  have HSn := Lib.hid (fun W (hb : Below w.heap.size w W) => hs.below hb)
  have HDp := Lib.hid (fun W (hb : Below w.heap.size w W) (a b : Nat) (ha : a < g.length) (hb2 : b < g.length) (qq pp : Nat) hq hp => lv_dependsOn (l.under hb).lk ok (a := a) (b := b) ha hb2 (q := qq) (p := pp) hq hp)
  have Hz := Lib.hid hz
  clear l hs ok hi' hb0 hz
  go_enter Tryd.func67, Tryd.ntmps67
  go_wp2
  go_loopw [7, 8, 9] (fun ws cu xx wr => ∃ (x : Nat) (W : List Int), lo ≤ x ∧ x ≤ d ∧ xx = .int .i64 x ∧ W.length + x ≤ d ∧ Hid (CbAt h g ls lo d x W cu) ∧ Own 3 wr w.heap.size ws W ∧ Below w.heap.size w wr) (fun _ _ xx _ => (intOf xx).toNat)
  case atStart => exact ⟨d, [], by omega, by omega, rfl, by simp, Lib.hid (.inl ⟨rfl, rfl, rfl⟩), Ho0.out, Hb0.out⟩
  case round =>
    obtain ⟨x, W, hx1, hx2, rfl, hWl, hcb, ho, hb⟩ := hrel
    have Ho := Lib.hid ho; have Hb := Lib.hid hb
    clear ho hb Ho0 Hb0
    by_cases hlt : lo < x
    · have hlt' : (lo : Int) < (x : Int) := by omega
      have hx9 : IntKind.i64.wrap ((x : Int) - 1) = ((x - 1 : Nat) : Int) := by rw [IntWalk.i64_in _ (by omega)]; omega
      go_wp2_with fail
      refine (HLd.out x ⟨by omega, by omega⟩ wr Hb.out).mono ?_
      rintro e w1 ⟨hcase, hd⟩
      have hs1 := HSn.out w1 (below_step Hb.out Hb.out.size (hd.below _))
      have hgN := hs1.gN
      have Ho1 := Lib.hid (Ho.out.below (hd.below _))
      have Hb1 := Lib.hid (below_step Hb.out Hb.out.size (hd.below _))
      clear hd hs1 Ho Hb
      rcases hcase with ⟨hz, rfl⟩ | ⟨j, hj, p, hz, hp, rfl⟩
      · -- no leader vertex
        have hnew : CbAt h g ls lo d (x - 1) W u8 := by
          rcases hcb.out with ⟨rfl, _, _⟩ | ⟨hxd, C, j, hj, p, e1, e2, e3, e4, e5⟩
          · have := Hz.out; omega
          · refine .inr ⟨by omega, C, j, hj, p, e1, by omega, ?_, e4, e5⟩
            rw [← e3, chZ_no hlt (by unfold linkB; rw [hz]; rfl)]
        have Hnew := Lib.hid hnew
        clear hnew hcb hz
        go_wp2_with fail
        refine (is_same eN w1).mono ?_
        rintro e w2 ⟨rfl, rfl⟩
        go_wp2
        go_roundw
        case rel => exact ⟨x - 1, W, by omega, by omega, by first | rfl | rw [hx9], by omega, Lib.hid Hnew.out, Ho1.out, Hb1.out⟩
        case measure => simp [intOf]; omega
      · have Hlz := Lib.hid hz
        have Hp := Lib.hid hp
        clear hz hp
        go_wp2_with fail
        refine (is_nil eN w1).mono ?_
        rintro e w2 ⟨rfl, rfl⟩
        have hB := Hb1.out.size
        by_cases hxd : x = d
        · obtain ⟨rfl, rfl⟩ : W = [] ∧ u8 = .pointer none := by
            rcases hcb.out with ⟨_, e1, e2⟩ | ⟨h9, _⟩
            · exact ⟨e1, e2⟩
            · omega
          subst hxd
          have Hnew := Lib.hid (show CbAt h g ls lo x (x - 1) [(x : Int)] (.pointer (some ⟨p, 0, none⟩)) from .inr ⟨by omega, [(x : Int)], j, hj, p, rfl, by simp; omega, by rw [Hlz.out], rfl, Hp.out⟩)
          clear hcb
          go_wp2_with (at_builtin; refine wpList_push TIq rfl (.tmp 36) (.tmp 38) rfl w.heap.size _ ([] : List Int) _ rfl Ho1.out (by simp) rfl hB ?_; intro v8 w8 hown8 hg8)
          have Hb8 := Lib.hid (Hb1.out.grown hg8 hB (fun g e => (Ho1.out.lt g e).1))
          have Ho8 := Lib.hid hown8
          clear hown8 hg8
          go_wp2
          go_roundw
          case rel => exact ⟨x - 1, [(x : Int)], by omega, by omega, by first | rfl | rw [hx9], by simp; omega, Lib.hid Hnew.out, by simpa using Ho8.out, Hb8.out⟩
          case measure => simp [intOf]; omega
        · obtain ⟨C, j0, hj0, p0, rfl, e2, e3, rfl, e5⟩ : ∃ (C : List Int) (j0 : Nat) (hj0 : j0 < g.length) (p0 : Nat), W = C.reverse ∧ C.length + x ≤ d ∧ chZ g ls lo x C j0 = chZ g ls lo (d - 1) [(d : Int)] (ldZ g ls d) ∧ u8 = .pointer (some ⟨p0, 0, none⟩) ∧ h (plN g[j0].r g[j0].a) = ptrV p0 := by
            rcases hcb.out with ⟨h9, _⟩ | ⟨_, h9⟩
            · exact absurd h9 hxd
            · exact h9
          have hxd' : ((x : Int) == (d : Int)) = false := by rw [beq_eq_false_iff_ne]; omega
          have HD := Lib.hid (HDp.out w1 Hb1.out j0 j hj0 hj p0 p e5 Hp.out)
          have Hlk := Lib.hid (show linkB g ls j0 x = (pastB g j0).getD j false by unfold linkB; rw [Hlz.out]; simp)
          have Hch := Lib.hid e3
          have He5 := Lib.hid e5
          clear e3 e5 hcb hgN
          cases hl : (pastB g j0).getD j false with
          | true =>
            have Hnew := Lib.hid (show CbAt h g ls lo d (x - 1) (((x : Int) :: C).reverse) (.pointer (some ⟨p, 0, none⟩)) from .inr ⟨by omega, (x : Int) :: C, j, hj, p, rfl, by simp; omega, by rw [← Hch.out, chZ_yes hlt (Hlk.out.trans hl), Hlz.out], rfl, Hp.out⟩)
            rw [hl] at HD
            clear hl Hlk Hch
            rw [List.length_reverse] at hWl
            have hrl : C.reverse.length ≤ 15 := by rw [List.length_reverse]; omega
            go_wp2_with fail
            refine HD.out.mono ?_
            rintro e w2 ⟨rfl, hb2⟩
            have Ho2 := Lib.hid (Ho1.out.below hb2)
            have Hb2 := Lib.hid (below_step Hb1.out Hb1.out.size hb2)
            have hB2 := Hb2.out.size
            clear hb2 Ho1 Hb1
            obtain ⟨RC, hRC⟩ : ∃ RC, C.reverse = RC := ⟨_, rfl⟩
            rw [hRC] at Ho2 hrl
            have HRC := Lib.hid hRC; clear hRC
            go_wp2_with (at_builtin; refine wpList_push TIq rfl (.tmp 36) (.tmp 38) rfl w.heap.size _ RC _ rfl Ho2.out (by omega) rfl hB2 ?_; intro v8 w8 hown8 hg8)
            have Hb8 := Lib.hid (Hb2.out.grown hg8 hB2 (fun g e => (Ho2.out.lt g e).1))
            have Ho8 := Lib.hid hown8
            clear hown8 hg8
            go_wp2
            go_roundw
            case rel => exact ⟨x - 1, ((x : Int) :: C).reverse, by omega, by omega, by first | rfl | rw [hx9], by simp; omega, Lib.hid Hnew.out, by rw [List.reverse_cons, HRC.out]; exact Ho8.out, Hb8.out⟩
            case measure => simp [intOf]; omega
          | false =>
            have Hnew := Lib.hid (show CbAt h g ls lo d (x - 1) C.reverse (.pointer (some ⟨p0, 0, none⟩)) from .inr ⟨by omega, C, j0, hj0, p0, rfl, by omega, by rw [← Hch.out, chZ_no hlt (Hlk.out.trans hl)], rfl, He5.out⟩)
            rw [hl] at HD
            clear hl Hlk Hch
            go_wp2_with fail
            refine HD.out.mono ?_
            rintro e w2 ⟨rfl, hb2⟩
            have Ho2 := Lib.hid (Ho1.out.below hb2)
            have Hb2 := Lib.hid (below_step Hb1.out Hb1.out.size hb2)
            clear hb2 Ho1 Hb1
            go_wp2
            go_roundw
            case rel => exact ⟨x - 1, C.reverse, by omega, by omega, by first | rfl | rw [hx9], by omega, Lib.hid Hnew.out, Ho2.out, Hb2.out⟩
            case measure => simp [intOf]; omega
    · obtain ⟨C, rfl, e3⟩ : ∃ C : List Int, W = C.reverse ∧ chZ g ls lo (d - 1) [(d : Int)] (ldZ g ls d) = C := by
        rcases hcb.out with ⟨h9, _⟩ | ⟨_, C, j0, hj0, p0, e1, _, e3, _⟩
        · omega
        · exact ⟨C, e1, by rw [← e3, chZ_done (by omega)]⟩
      have H3 := Lib.hid e3
      have hrl : C.reverse.length ≤ 15 := by omega
      clear e3 hcb
      have hlt' : ¬ (lo : Int) < (x : Int) := by omega
      obtain ⟨RC, hRC⟩ : ∃ RC, C.reverse = RC := ⟨_, rfl⟩
      rw [hRC] at Ho hrl hWl
      have HRC := Lib.hid hRC; clear hRC
      go_wp2_with fail
      refine (rev_own w.heap.size u7 RC wr Ho.out (by omega)).mono ?_
      rintro e w2 ⟨rfl, ho2, hg2⟩
      have Hb2 := Lib.hid (Hb.out.grown hg2 Hb.out.size (fun g e => (Ho.out.lt g e).1))
      have Ho2 := Lib.hid ho2
      clear ho2 hg2
      go_wp2
      go_ret
      refine ⟨_, rfl, ?_, Hb2.out⟩
      rw [H3.out, show C = RC.reverse by rw [← HRC.out, List.reverse_reverse]]
      exact Ho2.out
end

end Go.Proofs.YtjekgjlnaochiaaDoor

/- impl's committed waves, by a walk of its text; conditions: the graph and the leaders are valid, lists are shorter than 2^40. -/
namespace Go.Proofs.YtjekgjlnaochiaaDoor
open Go.RowKit

section
variable {w0 w : World} {hi G q : Nat} {ac : Option Addr} {capc : Nat} {c : List Int} {h : Nat → Value} {g : List Vx} {al : Option Addr} {cap : Nat} {ls : List Int} {eN eI : Addr}
set_option maxRecDepth 8000 in
set_option maxHeartbeats 2000000 in
theorem led_committed (l : Lg w0 w hi G q (.slice ac c.length capc) h g al cap ls) (hs : Sen w eN eI) (ok : Good21 c g ls) (hbg : g.length ≤ 1048576) (hc : IntsAt w ac c) (hi' : IntsAt w al ls) :
    Calls Tryd.prog 46 #[.pointer (some ⟨q, 0, none⟩)] w fun e w' => ∃ u, e = .returned u ∧ Own 3 w' w.heap.size u (wvs c g ls ls.length).1 ∧ Below w.heap.size w w' := by
  have h15 := ok.l15
  have hb0 : Below w.heap.size w (w.alloc (.cells #[] 3)) := (Below.refl _ _).alloc (Nat.le_refl _) _
  have Ho0 := Lib.hid (own_empty 3 w (Nat.le_refl w.heap.size))
  have Hb0 := Lib.hid hb0
  have HD := Lib.hid (fun (k : Nat) (hk : 1 ≤ k ∧ k ≤ ls.length) W (hb : Below w.heap.size w W) => led_direct (l.under hb) (hs.below hb) k hk ok hbg (hc.below hb) (hi'.below hb))
  have HC := Lib.hid (fun (k lo : Nat) (hk : 1 ≤ k ∧ k ≤ ls.length) (hlo : lo < k) hz W (hb : Below w.heap.size w W) => led_committedBy (l.under hb) (hs.below hb) k lo hk hlo ok (hi'.below hb) hz)
  have Hq := Lib.hid (fun W (hb : Below w.heap.size w W) => (l.under hb).st.cell 1 (v := .slice al ls.length cap) rfl)
  have hbd := totalZ_bd ok.hv
  have Hpos := Lib.hid (fun k (h : totalZ c / 3 + 1 ≤ voZ c g ls k) => (show 0 ≤ ldZ g ls k by
    by_cases h0 : 0 ≤ ldZ g ls k
    · exact h0
    · unfold voZ at h; rw [if_neg h0] at h; omega))
  clear l hs ok hc hi' hb0
  go_enter Tryd.func46, Tryd.ntmps46
  go_wp2
  go_loopw [3, 4, 5] (fun o la i wr => ∃ m : Nat, 1 ≤ m ∧ m ≤ ls.length + 1 ∧ i = .int .i64 m ∧ la = .int .i64 ((wvs c g ls (m - 1)).2 : Nat) ∧ Own 3 wr w.heap.size o (wvs c g ls (m - 1)).1 ∧ Below w.heap.size w wr) (fun _ _ i _ => ls.length + 1 - (intOf i).toNat)
  case atStart => exact ⟨1, by omega, by omega, rfl, rfl, Ho0.out, Hb0.out⟩
  case round =>
    obtain ⟨m, hm1, hm2, rfl, rfl, ho, hb⟩ := hrel
    have hwl := wvs_len (c := c) (g := g) (ls := ls) (m - 1)
    have Ho := Lib.hid ho; have Hb := Lib.hid hb
    have q1 := Hq.out wr hb
    clear ho hb Ho0 Hb0
    by_cases hlt : m ≤ ls.length
    · have hlt' : (m : Int) ≤ (ls.length : Int) := by omega
      go_wp2_with fail
      refine (HD.out m ⟨hm1, hlt⟩ wr Hb.out).mono ?_
      rintro e w1 ⟨rfl, hd1⟩
      have Ho1 := Lib.hid (Ho.out.below (hd1.below _))
      have Hb1 := Lib.hid (below_step Hb.out Hb.out.size (hd1.below _))
      clear hd1 Ho Hb q1
      by_cases hq : totalZ c / 3 + 1 ≤ voZ c g ls m
      · have hy := wvs_yes hm1 (show ¬ voZ c g ls m < totalZ c / 3 + 1 by omega)
        have Hy1 := Lib.hid (show (wvs c g ls m).1 = (wvs c g ls (m - 1)).1 ++ chZ g ls (wvs c g ls (m - 1)).2 (m - 1) [(m : Int)] (ldZ g ls m) by rw [hy])
        have Hy2 := Lib.hid (show (wvs c g ls m).2 = m by rw [hy])
        have hz := Hpos.out m hq
        have hqd : decide (totalZ c / 3 + 1 ≤ voZ c g ls m) = true := decide_eq_true hq
        have HCm := Lib.hid (HC.out m (wvs c g ls (m - 1)).2 ⟨hm1, hlt⟩ (by omega) hz)
        have hcl := chZ_len (g := g) (ls := ls) (lo := (wvs c g ls (m - 1)).2) (m - 1) [(m : Int)] (ldZ g ls m)
        rw [List.length_singleton] at hcl
        clear hy hz hq
        generalize voZ c g ls m = V at *
        generalize (wvs c g ls (m - 1)).2 = lo at *
        generalize (wvs c g ls (m - 1)).1 = O at *
        generalize chZ g ls lo (m - 1) [(m : Int)] (ldZ g ls m) = CH at *
        rw [hqd]
        clear hqd
        go_wp2_with fail
        refine (HCm.out w1 Hb1.out).mono ?_
        rintro e w2 ⟨u, rfl, ho2, hb2⟩
        have Ho2 := Lib.hid (Ho1.out.below hb2)
        have Hb2 := Lib.hid (below_step Hb1.out Hb1.out.size hb2)
        have hB2 := Hb2.out.size
        obtain ⟨au, cu, rfl, _, _⟩ := ho2.ints
        have Hsr := Lib.hid (own_src ho2)
        clear hb2 ho2 Ho1 Hb1 HCm
        go_wp2_with (at_builtin; refine wpList_appI TIq rfl _ _ rfl w.heap.size _ O CH au cu rfl Ho2.out rfl Hsr.out (by omega) hB2 ?_; intro v8 w8 ho8 hg8)
        have Hb8 := Lib.hid (Hb2.out.grown hg8 hB2 (fun q e => (Ho2.out.lt q e).1))
        have Ho8 := Lib.hid ho8
        clear ho8 hg8
        go_wp2
        go_roundw
        case rel => exact ⟨m + 1, by omega, by omega, by go_num, by rw [Nat.add_sub_cancel, Hy2.out], by rw [Nat.add_sub_cancel, Hy1.out]; exact Ho8.out, Hb8.out⟩
        case measure => simp [intOf]; omega
      · have hn := Lib.hid (wvs_no hm1 (show voZ c g ls m < totalZ c / 3 + 1 by omega))
        have hqd : decide (totalZ c / 3 + 1 ≤ voZ c g ls m) = false := decide_eq_false hq
        rw [hqd]
        clear hq hqd
        go_wp2
        go_roundw
        case rel => exact ⟨m + 1, by omega, by omega, by go_num, by rw [Nat.add_sub_cancel, hn.out], by rw [Nat.add_sub_cancel, hn.out]; exact Ho1.out, Hb1.out⟩
        case measure => simp [intOf]; omega
    · have hml : m - 1 = ls.length := by omega
      have Hml := Lib.hid hml
      clear hml hwl
      go_wp2
      go_ret
      exact ⟨_, rfl, by rw [← Hml.out]; exact Ho.out, Hb.out⟩
end

end Go.Proofs.YtjekgjlnaochiaaDoor

/- impl's GraphFind, with the library's search by a function and the function that is handed to it, each by a walk of its text; conditions: lists are shorter than 2^40 (a graph: 2^20). -/
namespace Go.Proofs.YtjekgjlnaochiaaDoor
open Go.RowKit

theorem find_test (x : Vx) (pa : Option Addr) (pc : Nat) (r a : Int) (Br Ba : Nat) (w : World) (hr : Str w Br 3 #[.int .i64 r]) (ha : Str w Ba 3 #[.int .i64 a]) :
    Calls Tryd.prog 38 #[.agg #[.int .i64 x.r, .int .i64 x.a, .slice pa x.ps.length pc, .int .i64 x.d], .pointer (some ⟨Br, 0, none⟩), .pointer (some ⟨Ba, 0, none⟩)] w fun e w' => e = .returned (.bool (sameRA r a x)) ∧ Below w.heap.size w w' := by
  have hb0 : Below w.heap.size w (w.alloc (.cells #[.int .i64 x.r, .int .i64 x.a, .slice pa x.ps.length pc, .int .i64 x.d] 29)) := (Below.refl _ _).alloc (Nat.le_refl _) _
  have s0 := Str.new w 29 #[.int .i64 x.r, .int .i64 x.a, .slice pa x.ps.length pc, .int .i64 x.d]
  have k0 := s0.cell 0 (v := .int .i64 x.r) rfl
  have k1 := s0.cell 1 (v := .int .i64 x.a) rfl
  have q0 := (hr.alloc (.cells #[.int .i64 x.r, .int .i64 x.a, .slice pa x.ps.length pc, .int .i64 x.d] 29)).cell 0 (v := .int .i64 r) rfl
  have q1 := (ha.alloc (.cells #[.int .i64 x.r, .int .i64 x.a, .slice pa x.ps.length pc, .int .i64 x.d] 29)).cell 0 (v := .int .i64 a) rfl
  have Hb := Lib.hid hb0
  clear hb0 s0 hr ha
  by_cases h1 : x.r = r
  · have e1 : (x.r == r) = true := by simpa using h1
    have Hz := Lib.hid (show sameRA r a x = decide (x.a = a) by unfold sameRA; simp [h1])
    clear h1
    go_enter Tryd.func38, Tryd.ntmps38
    go_wp2
    go_ret
    exact ⟨ret_bool (by rw [Hz.out, Bool.eq_iff_iff, decide_eq_true_iff]; simp), Hb.out⟩
  · have e1 : (x.r == r) = false := by simpa using h1
    have Hz := Lib.hid (show sameRA r a x = false from decide_eq_false fun e => h1 e.1)
    clear h1
    go_enter Tryd.func38, Tryd.ntmps38
    go_wp2
    go_ret
    exact ⟨by first | rfl | exact ret_bool (by rw [Hz.out]), Hb.out⟩

theorem lib_IndexFunc (g : List Vx) (v : Value) (fp : List Nat) (r a : Int) (Br Ba : Nat) (w : World) (hbig : g.length ≤ 1099511627776) (hg : Gr w g v fp) (hr : Str w Br 3 #[.int .i64 r]) (ha : Str w Ba 3 #[.int .i64 a]) :
    Calls Tryd.prog 37 #[v, .func (.func 38) #[] #[.pointer (some ⟨Br, 0, none⟩), .pointer (some ⟨Ba, 0, none⟩)]] w fun e w' => e = .returned (.int .i64 (findZ g r a)) ∧ Below w.heap.size w w' := by
  obtain ⟨va, vc, rfl⟩ := hg.slice
  have Hg := Lib.hid hg; clear hg
  have Hr := Lib.hid hr; clear hr
  have Ha := Lib.hid ha; clear ha
  go_enter Tryd.func37, Tryd.ntmps37
  go_wp2
  go_loopw [8] (fun i wr => ∃ k : Nat, k ≤ g.length ∧ i = .int .i64 k ∧ Upto (fun j => !sameRA r a (g.getD j vx0)) k ∧ Below w.heap.size w wr) (fun i _ => g.length - (intOf i).toNat)
  case atStart => exact ⟨0, by omega, rfl, upto_zero _, Below.refl _ _⟩
  case round =>
    obtain ⟨k, hk, rfl, hup, hbel⟩ := hrel
    have Hup := Lib.hid hup; clear hup
    by_cases hlt : k < g.length
    · obtain ⟨b, off, rfl, hb, hat⟩ := (Hg.out.under hbel).at (by omega)
      obtain ⟨c0, c1, ⟨pa, pc, c2, _⟩, c3⟩ := hat k hlt
      have hgk := getV hlt
      have HT := Lib.hid (find_test g[k] pa pc r a Br Ba wr ((hbel.block _ Hr.out.lt).trans Hr.out) ((hbel.block _ Ha.out.lt).trans Ha.out))
      have Hbel := Lib.hid hbel
      cases hs : sameRA r a g[k] with
      | true =>
        have Hz := Lib.hid (findZ_yes hlt Hup.out hs)
        rw [hs] at HT
        clear hat hbel hgk hs
        generalize g[k] = x at *
        obtain ⟨xr, xa, xp, xd⟩ := x
        dsimp only at *
        go_wp2_with fail
        refine HT.out.mono ?_
        rintro e w2 ⟨rfl, hb2⟩
        have Hb2 := Lib.hid (below_step Hbel.out Hbel.out.size hb2)
        clear hb2 c0 c1 c2 c3
        go_wp2
        go_ret
        exact ⟨by rw [Hz.out]; rfl, Hb2.out⟩
      | false =>
        have Hup' := Lib.hid (upto_step Hup.out (k := k) (by simp only [hgk]; simpa using hs))
        rw [hs] at HT
        clear hat hbel hgk hs
        generalize g[k] = x at *
        obtain ⟨xr, xa, xp, xd⟩ := x
        dsimp only at *
        go_wp2_with fail
        refine HT.out.mono ?_
        rintro e w2 ⟨rfl, hb2⟩
        have Hb2 := Lib.hid (below_step Hbel.out Hbel.out.size hb2)
        clear hb2 c0 c1 c2 c3
        go_wp2
        go_roundw
        case rel => exact ⟨k + 1, by omega, by go_num, Hup'.out, Hb2.out⟩
        case measure => simp [intOf]; omega
    · have hz := findZ_no Hup.out (by omega)
      go_wp2
      go_ret
      exact ⟨by rw [hz]; rfl, hbel⟩

theorem impl_GraphFind' (ac : Option Addr) (capc : Nat) (c : List Int) (g : List Vx) (v : Value) (fp : List Nat) (r a : Int) (w : World) (hn : c.length ≤ 1099511627776) (hbig : g.length ≤ 1048576) (hps : ∀ x ∈ g, x.ps.length ≤ 1099511627776) (hc : IntsAt w ac c) (hg : Gr w g v fp) :
    Calls Tryd.prog 13 #[.slice ac c.length capc, v, .int .i64 r, .int .i64 a] w fun e w' => e = .returned (.int .i64 (gfZ c g r a)) ∧ Below w.heap.size w w' := by
  have hb0 : Below w.heap.size w ((w.alloc (.cells #[.int .i64 r] 3)).alloc (.cells #[.int .i64 a] 3)) := ((Below.refl _ w).alloc (Nat.le_refl _) _).alloc (by simp) _
  have s0 := (Str.new w 3 #[.int .i64 r]).alloc (.cells #[.int .i64 a] 3)
  have s1 := Str.new (w.alloc (.cells #[.int .i64 r] 3)) 3 #[.int .i64 a]
  rw [show (w.alloc (.cells #[.int .i64 r] 3)).heap.size = w.heap.size + 1 by simp] at s1
  have hgW := hg.under hb0
  have H := Lib.hid (impl_GraphValid' ac capc c g v fp _ hn hbig hps (hc.below hb0) hgW)
  have Hb0 := Lib.hid hb0
  cases h : graphB c g with
  | false =>
    have Hz := Lib.hid (show gfZ c g r a = -1 by unfold gfZ; rw [h]; rfl)
    rw [h] at H
    clear hc hg hgW hps h hb0 s0 s1
    go_enter Tryd.func13, Tryd.ntmps13
    go_wp2_with fail
    generalize (w.alloc (.cells #[.int .i64 r] 3)).alloc (.cells #[.int .i64 a] 3) = W0 at *
    refine H.out.mono ?_
    rintro e w1 ⟨rfl, hb⟩
    have Hb1 := Lib.hid (below_step Hb0.out Hb0.out.size hb); clear hb
    go_wp2
    go_ret
    exact ⟨by rw [Hz.out]; rfl, Hb1.out⟩
  | true =>
    have Hz := Lib.hid (show gfZ c g r a = findZ g r a by unfold gfZ; rw [h]; rfl)
    rw [h] at H
    have HF := Lib.hid (fun W (hW : Below ((w.alloc (.cells #[.int .i64 r] 3)).alloc (.cells #[.int .i64 a] 3)).heap.size ((w.alloc (.cells #[.int .i64 r] 3)).alloc (.cells #[.int .i64 a] 3)) W) =>
      lib_IndexFunc g v fp r a w.heap.size (w.heap.size + 1) W (by omega) (hgW.under hW) ((hW.block _ s0.lt).trans s0) ((hW.block _ s1.lt).trans s1))
    clear hc hg hgW hps h hb0 s0 s1
    go_enter Tryd.func13, Tryd.ntmps13
    go_wp2_with fail
    generalize (w.alloc (.cells #[.int .i64 r] 3)).alloc (.cells #[.int .i64 a] 3) = W0 at *
    refine H.out.mono ?_
    rintro e w1 ⟨rfl, hb⟩
    have HF1 := Lib.hid (HF.out w1 hb)
    have Hb1 := Lib.hid (below_step Hb0.out Hb0.out.size hb); clear hb
    go_wp2_with fail
    refine HF1.out.mono ?_
    rintro e w2 ⟨rfl, hb2⟩
    have Hb2 := Lib.hid (below_step Hb1.out Hb1.out.size hb2); clear hb2
    go_wp2
    go_ret
    exact ⟨by rw [Hz.out]; rfl, Hb2.out⟩

end Go.Proofs.YtjekgjlnaochiaaDoor

/- impl's WaveLeader, WaveVotes, WaveDirect and CommitWaves, each by a walk of its text; conditions: lists are shorter than 2^40 (a graph: 2^20). -/
namespace Go.Proofs.YtjekgjlnaochiaaDoor
open Go.RowKit

set_option maxRecDepth 8000 in
set_option maxHeartbeats 1000000 in
theorem impl_WaveLeader (ac : Option Addr) (capc : Nat) (c : List Int) (g : List Vx) (v : Value) (fp : List Nat) (al : Option Addr) (cap : Nat) (ls : List Int) (wave : Int) (eN eI : Addr) (w : World) (hn : c.length ≤ 1099511627776) (hbig : g.length ≤ 1048576) (hps : ∀ x ∈ g, x.ps.length ≤ 1099511627776) (hl : ls.length ≤ 1099511627776) (_hcc : c.length ≤ capc) (hc : IntsAt w ac c) (hg : Gr w g v fp) (_hlc : ls.length ≤ cap) (hi : IntsAt w al ls) (hs : Sen w eN eI) :
    Calls Tryd.prog 11 #[.slice ac c.length capc, v, .slice al ls.length cap, .int .i64 wave] w fun e w' => e = .returned (.int .i64 (wlZ c g ls wave)) ∧ Below w.heap.size w w' := by
  cases hw : waB c g ls with
  | false =>
    have H := Lib.hid (ledGraphOf_no ac capc c g v fp al cap ls eN eI w hn hbig hps hl hc hg hi hs hw)
    have hres := Lib.hid (show wlZ c g ls wave = -1 by unfold wlZ wlB; rw [hw]; rfl)
    clear hc hg hi hps hs hw
    go_enter Tryd.func11, Tryd.ntmps11
    go_wp2_with fail
    refine H.out.mono ?_
    rintro e w1 ⟨rfl, hb1⟩
    have Hb1 := Lib.hid hb1; clear hb1
    go_wp2
    go_ret
    exact ⟨by rw [hres.out]; rfl, Hb1.out⟩
  | true =>
  have ok := good21 hw hps
  have H := Lib.hid (ledGraphOf_yes ac capc c g v fp al cap ls w hn hbig hps hl hc hg hi hw)
  have Hs := Lib.hid hs
  have Hi := Lib.hid hi; have Hc := Lib.hid hc
  have HF := Lib.hid (fun (r a : Int) W (hb : Below w.heap.size w W) => impl_GraphFind' ac capc c g v fp r a W hn hbig hps (hc.below hb) (hg.under hb))
  have Hw := Lib.hid hw
  have Hok := Lib.hid ok
  have h15 := ok.l15
  clear hc hg hi hps hs hw ok
  go_enter Tryd.func11, Tryd.ntmps11
  go_wp2_with fail
  refine H.out.mono ?_
  rintro e w1 ⟨q, G, hi', h, rfl, hb1, hq, hL⟩
  have Hb1 := Lib.hid hb1
  have HL := Lib.hid hL
  have Hs1 := Lib.hid (Hs.out.below hb1)
  have Hi1 := Lib.hid (Hi.out.below hb1)
  have Hc1 := Lib.hid (Hc.out.below hb1)
  clear hb1 hL
  by_cases hr : 1 ≤ wave ∧ wave ≤ ls.length
  case neg =>
    have hres := Lib.hid (show wlZ c g ls wave = -1 by unfold wlZ wlB; rw [decide_eq_false hr, Bool.and_false]; rfl)
    go_wp2_with fail
    refine (led_leader_bad HL.out Hs1.out wave h15 hr).mono ?_
    rintro e w2 ⟨rfl, hd2⟩
    have Hb2 := Lib.hid (below_step Hb1.out Hb1.out.size (hd2.below _))
    clear hd2
    go_wp2
    go_ret
    exact ⟨by rw [hres.out]; rfl, Hb2.out⟩
  have hres := Lib.hid (show wlZ c g ls wave = ldZ g ls wave.toNat by unfold wlZ wlB; rw [Hw.out, decide_eq_true hr]; rfl)
  obtain ⟨k, rfl⟩ : ∃ k : Nat, wave = k := ⟨wave.toNat, by omega⟩
  rw [Int.toNat_natCast] at hres
  have HD := Lib.hid (led_leader HL.out Hs1.out k (by omega) h15 Hok.out.l6 Hi1.out Hok.out.pl)
  clear hr
  go_wp2_with fail
  refine HD.out.mono ?_
  rintro e w2 ⟨hcase, hd2⟩
  have Hb2 := Lib.hid (below_step Hb1.out Hb1.out.size (hd2.below _))
  have HL2 := Lib.hid (HL.out.under (hd2.below _))
  clear hd2
  rcases hcase with ⟨hz, rfl⟩ | ⟨j, hj, p, hz, hp, rfl⟩
  · have hres := Lib.hid (hres.out.trans hz)
    clear hz
    go_wp2
    go_ret
    exact ⟨by rw [hres.out]; rfl, Hb2.out⟩
  have hfd : gfZ c g g[j].r g[j].a = j := by
    unfold gfZ
    rw [if_pos Hok.out.gb]
    obtain ⟨k', hk', e, e2⟩ := findZ_mem Hok.out.srt (List.getElem_mem hj)
    rw [e, pair_uni Hok.out.srt hk' hj (by rw [e2]) (by rw [e2])]
  have Hres := Lib.hid (hres.out.trans (hz.trans hfd.symm))
  have Hpp : Hid (∃ pa pc pv, Str w2 p 56 #[.int .i64 g[j].r, .int .i64 g[j].a, .slice pa g[j].ps.length pc, .int .i64 g[j].d, pv] ∧ p < hi') := by
    obtain ⟨p', hp', n⟩ := HL2.out.lk.has g[j] (List.getElem_mem hj)
    rw [hp] at hp'
    have e : p = p' := by unfold ptrV at hp'; simpa using hp'
    subst e
    obtain ⟨pa, pc, pv, _, s, _⟩ := n.ex
    exact Lib.hid ⟨pa, pc, pv, s, n.lt⟩
  obtain ⟨pa, pc, pv, sp, hlt⟩ := Hpp.out
  have c0 := sp.cell 0 (v := .int .i64 g[j].r) rfl
  have c1 := sp.cell 1 (v := .int .i64 g[j].a) rfl
  have hplt := sp.lt
  have HFj := Lib.hid (HF.out g[j].r g[j].a)
  clear hz hp hfd sp Hpp hres
  generalize g[j].r = R at *
  generalize g[j].a = A at *
  go_wp2_with fail
  refine wp_region_held_drew (S := fun W => Below w.heap.size w W ∧ W.cell? ⟨p, 0, none⟩ = some (.int .i64 R) ∧ W.cell? ⟨p, 1, none⟩ = some (.int .i64 A) ∧ p < W.heap.size) (by kernel_rfl) ⟨Hb2.out.drew, c0, c1, hplt⟩ (fun hH => ?_)
  refine takeH 0 (v := ?vwl1) rfl (by kernel_rfl) (by kernel_rfl) (by kernel_rfl) (fun _ _ _ h => h) hH rfl ?ywl1 ?rwl1
  case ywl1 => intro W hSw; go_simp; try with_reducible rfl
  try simp only [Act.put, List.setIfInBounds_toArray, List.set_cons_zero, List.set_cons_succ]
  refine takeH 1 (v := ?vwl2) rfl (by kernel_rfl) (by kernel_rfl) (by kernel_rfl) (fun _ _ _ h => h) hH rfl ?ywl2 ?rwl2
  case ywl2 => intro W hSw; go_simp; try with_reducible rfl
  try simp only [Act.put, List.setIfInBounds_toArray, List.set_cons_zero, List.set_cons_succ]
  refine takeH 2 (v := ?vwl3) rfl (by kernel_rfl) (by kernel_rfl) (by kernel_rfl) (fun _ _ _ h => h) hH rfl ?ywl3 ?rwl3
  case ywl3 => intro W hSw; go_simp; try with_reducible rfl
  try simp only [Act.put, List.setIfInBounds_toArray, List.set_cons_zero, List.set_cons_succ]
  refine takeH 3 (v := ?vwl4) rfl (by kernel_rfl) (by kernel_rfl) (by kernel_rfl) (fun _ _ _ h => h) hH rfl ?ywl4 ?rwl4
  case ywl4 => intro W hSw; go_simp; try with_reducible rfl
  try simp only [Act.put, List.setIfInBounds_toArray, List.set_cons_zero, List.set_cons_succ]
  refine takeH 4 (v := ?vwl5) rfl (by kernel_rfl) (by kernel_rfl) (by kernel_rfl) (fun _ _ _ h => h) hH rfl ?ywl5 ?rwl5
  case ywl5 => intro W hSw; go_simp; try with_reducible rfl
  try simp only [Act.put, List.setIfInBounds_toArray, List.set_cons_zero, List.set_cons_succ]
  refine takeH 5 (v := ?vwl6) rfl (by kernel_rfl) (by kernel_rfl) (by kernel_rfl) (fun _ _ _ h => h) hH rfl ?ywl6 ?rwl6
  case ywl6 => intro W hSw; go_simp; try with_reducible rfl
  try simp only [Act.put, List.setIfInBounds_toArray, List.set_cons_zero, List.set_cons_succ]
  refine takeH 6 (v := ?vwl7) rfl (by kernel_rfl) (by kernel_rfl) (by kernel_rfl) (fun _ _ _ h => h) hH rfl ?ywl7 ?rwl7
  case ywl7 => intro W hSw; go_simp; try with_reducible rfl
  try simp only [Act.put, List.setIfInBounds_toArray, List.set_cons_zero, List.set_cons_succ]
  refine takeH 7 (v := ?vwl8) rfl (by kernel_rfl) (by kernel_rfl) (by kernel_rfl) (fun _ _ _ h => h) hH rfl ?ywl8 ?rwl8
  case ywl8 => intro W hSw; go_simp; try with_reducible rfl
  try simp only [Act.put, List.setIfInBounds_toArray, List.set_cons_zero, List.set_cons_succ]
  refine takeH 8 (v := ?vwl9) rfl (by kernel_rfl) (by kernel_rfl) (by kernel_rfl) (fun _ _ _ h => h) hH rfl ?ywl9 ?rwl9
  case ywl9 => intro W hSw; go_simp; try with_reducible rfl
  try simp only [Act.put, List.setIfInBounds_toArray, List.set_cons_zero, List.set_cons_succ]
  refine takeH 9 (v := ?vwl10) rfl (by kernel_rfl) (by kernel_rfl) (by kernel_rfl) (fun _ _ _ h => h) hH rfl ?ywl10 ?rwl10
  case ywl10 => intro W hSw; go_simp; try with_reducible rfl
  try simp only [Act.put, List.setIfInBounds_toArray, List.set_cons_zero, List.set_cons_succ]
  refine takeH 10 (v := ?vwl11) rfl (by kernel_rfl) (by kernel_rfl) (by kernel_rfl) (fun _ _ _ h => h) hH rfl ?ywl11 ?rwl11
  case ywl11 => intro W hSw; go_simp; try with_reducible rfl
  try simp only [Act.put, List.setIfInBounds_toArray, List.set_cons_zero, List.set_cons_succ]
  refine takeH 11 (v := ?vwl12) rfl (by kernel_rfl) (by kernel_rfl) (by kernel_rfl) (fun _ _ _ h => h) hH rfl ?ywl12 ?rwl12
  case ywl12 => intro W hSw; go_simp; try with_reducible rfl
  try simp only [Act.put, List.setIfInBounds_toArray, List.set_cons_zero, List.set_cons_succ]
  refine callH 12 rfl (by kernel_rfl) rfl (fun K hK => ?_)
  go_simp
  go_at_call 13
  refine (HFj.out _ hH.1).mono ?_
  rintro e wz ⟨rfl, hbz⟩
  refine hK.out _ _ ⟨below_step hH.1 hH.1.size hbz, (hbz.cell (p := ⟨p, 0, none⟩) hH.2.2.2).trans hH.2.1, (hbz.cell (p := ⟨p, 1, none⟩) hH.2.2.2).trans hH.2.2.1, Nat.lt_of_lt_of_le hH.2.2.2 hbz.size⟩ (fun hH => ?_)
  clear hK K
  try simp only [Act.put, List.setIfInBounds_toArray, List.set_cons_zero, List.set_cons_succ]
  have Hbz := Lib.hid hH.1
  refine takeH 13 (v := ?vz) rfl (by kernel_rfl) (by kernel_rfl) (by kernel_rfl) (fun _ _ _ h => h) hH rfl ?yz ?rz
  case yz => intro W hSw; go_simp; try with_reducible rfl
  try simp only [Act.put, List.setIfInBounds_toArray, List.set_cons_zero, List.set_cons_succ]
  refine wpAnyH_done (by kernel_rfl) ?_ _
  try simp only [Act.put]
  clear hH
  go_wp2
  go_ret
  exact ⟨by rw [Hres.out]; rfl, Hbz.out⟩

set_option maxRecDepth 8000 in
set_option maxHeartbeats 1000000 in
theorem impl_WaveVotes (ac : Option Addr) (capc : Nat) (c : List Int) (g : List Vx) (v : Value) (fp : List Nat) (al : Option Addr) (cap : Nat) (ls : List Int) (wave : Int) (eN eI : Addr) (w : World) (hn : c.length ≤ 1099511627776) (hbig : g.length ≤ 1048576) (hps : ∀ x ∈ g, x.ps.length ≤ 1099511627776) (hl : ls.length ≤ 1099511627776) (_hcc : c.length ≤ capc) (hc : IntsAt w ac c) (hg : Gr w g v fp) (_hlc : ls.length ≤ cap) (hi : IntsAt w al ls) (hs : Sen w eN eI) :
    Calls Tryd.prog 15 #[.slice ac c.length capc, v, .slice al ls.length cap, .int .i64 wave] w fun e w' => e = .returned (.int .i64 (wvZ c g ls wave)) ∧ Below w.heap.size w w' := by
  cases hw : waB c g ls with
  | false =>
    have H := Lib.hid (ledGraphOf_no ac capc c g v fp al cap ls eN eI w hn hbig hps hl hc hg hi hs hw)
    have hres := Lib.hid (show wvZ c g ls wave = -1 by unfold wvZ wlB; rw [hw]; rfl)
    clear hc hg hi hps hs hw
    go_enter Tryd.func15, Tryd.ntmps15
    go_wp2_with fail
    refine H.out.mono ?_
    rintro e w1 ⟨rfl, hb1⟩
    have Hb1 := Lib.hid hb1; clear hb1
    go_wp2
    go_ret
    exact ⟨by rw [hres.out]; rfl, Hb1.out⟩
  | true =>
  have ok := good21 hw hps
  have H := Lib.hid (ledGraphOf_yes ac capc c g v fp al cap ls w hn hbig hps hl hc hg hi hw)
  have Hs := Lib.hid hs
  have Hi := Lib.hid hi; have Hc := Lib.hid hc
  have Hw := Lib.hid hw
  have Hok := Lib.hid ok
  have h15 := ok.l15
  clear hc hg hi hps hs hw ok
  go_enter Tryd.func15, Tryd.ntmps15
  go_wp2_with fail
  refine H.out.mono ?_
  rintro e w1 ⟨q, G, hi', h, rfl, hb1, hq, hL⟩
  have Hb1 := Lib.hid hb1
  have HL := Lib.hid hL
  have Hs1 := Lib.hid (Hs.out.below hb1)
  have Hi1 := Lib.hid (Hi.out.below hb1)
  have Hc1 := Lib.hid (Hc.out.below hb1)
  clear hb1 hL
  by_cases hr : 1 ≤ wave ∧ wave ≤ ls.length
  case neg =>
    have hres := Lib.hid (show wvZ c g ls wave = -1 by unfold wvZ wlB; rw [decide_eq_false hr, Bool.and_false]; rfl)
    go_wp2_with fail
    refine (led_votes_bad HL.out Hs1.out wave h15 hr).mono ?_
    rintro e w2 ⟨rfl, hd2⟩
    have hs2 := Hs1.out.below (hd2.below _)
    have hgN := hs2.gN
    have Hb2 := Lib.hid (below_step Hb1.out Hb1.out.size (hd2.below _))
    obtain ⟨cN, tN, hbN⟩ := hs2.bN
    obtain ⟨cI, tI, hbI⟩ := hs2.bI
    have HO := Lib.hid (is_other eI eN cI cN tI tN w2 (fun e => hs2.ne e.symm) hbI hbN)
    clear hd2 hs2 hbN hbI
    go_wp2_with fail
    refine HO.out.mono ?_
    rintro e w3 ⟨rfl, rfl⟩
    go_wp2
    go_ret
    exact ⟨by rw [hres.out]; rfl, Hb2.out⟩
  have hres := Lib.hid (show wvZ c g ls wave = voZ c g ls wave.toNat by unfold wvZ wlB; rw [Hw.out, decide_eq_true hr]; rfl)
  obtain ⟨k, rfl⟩ : ∃ k : Nat, wave = k := ⟨wave.toNat, by omega⟩
  rw [Int.toNat_natCast] at hres
  have HD := Lib.hid (led_votes HL.out Hs1.out k (by omega) Hok.out hbig Hc1.out Hi1.out)
  clear hr
  go_wp2_with fail
  refine HD.out.mono ?_
  rintro e w2 ⟨hcase, hd2⟩
  have hs2 := Hs1.out.below (hd2.below _)
  have hgN := hs2.gN
  have Hb2 := Lib.hid (below_step Hb1.out Hb1.out.size (hd2.below _))
  clear hd2 hs2
  rcases hcase with ⟨hz, rfl⟩ | ⟨hz, rfl⟩
  · have hres := Lib.hid (hres.out.trans (show voZ c g ls k = 0 by unfold voZ; rw [if_neg (by omega)]))
    clear hz
    go_wp2_with fail
    refine (is_same eN w2).mono ?_
    rintro e w3 ⟨rfl, rfl⟩
    go_wp2
    go_ret
    exact ⟨by rw [hres.out]; rfl, Hb2.out⟩
  · clear hz
    generalize voZ c g ls k = V at *
    go_wp2_with fail
    refine (is_nil eN w2).mono ?_
    rintro e w3 ⟨rfl, rfl⟩
    go_wp2
    go_ret
    exact ⟨by rw [hres.out]; rfl, Hb2.out⟩

set_option maxRecDepth 8000 in
set_option maxHeartbeats 1000000 in
theorem impl_WaveDirect (ac : Option Addr) (capc : Nat) (c : List Int) (g : List Vx) (v : Value) (fp : List Nat) (al : Option Addr) (cap : Nat) (ls : List Int) (wave : Int) (eN eI : Addr) (w : World) (hn : c.length ≤ 1099511627776) (hbig : g.length ≤ 1048576) (hps : ∀ x ∈ g, x.ps.length ≤ 1099511627776) (hl : ls.length ≤ 1099511627776) (_hcc : c.length ≤ capc) (hc : IntsAt w ac c) (hg : Gr w g v fp) (_hlc : ls.length ≤ cap) (hi : IntsAt w al ls) (hs : Sen w eN eI) :
    Calls Tryd.prog 19 #[.slice ac c.length capc, v, .slice al ls.length cap, .int .i64 wave] w fun e w' => e = .returned (.bool (wdB c g ls wave)) ∧ Below w.heap.size w w' := by
  cases hw : waB c g ls with
  | false =>
    have H := Lib.hid (ledGraphOf_no ac capc c g v fp al cap ls eN eI w hn hbig hps hl hc hg hi hs hw)
    have hres := Lib.hid (show wdB c g ls wave = false by unfold wdB wlB; rw [hw]; rfl)
    clear hc hg hi hps hs hw
    go_enter Tryd.func19, Tryd.ntmps19
    go_wp2_with fail
    refine H.out.mono ?_
    rintro e w1 ⟨rfl, hb1⟩
    have Hb1 := Lib.hid hb1; clear hb1
    go_wp2
    go_ret
    exact ⟨by rw [hres.out]; rfl, Hb1.out⟩
  | true =>
  have ok := good21 hw hps
  have H := Lib.hid (ledGraphOf_yes ac capc c g v fp al cap ls w hn hbig hps hl hc hg hi hw)
  have Hs := Lib.hid hs
  have Hi := Lib.hid hi; have Hc := Lib.hid hc
  have Hw := Lib.hid hw
  have Hok := Lib.hid ok
  have h15 := ok.l15
  clear hc hg hi hps hs hw ok
  go_enter Tryd.func19, Tryd.ntmps19
  go_wp2_with fail
  refine H.out.mono ?_
  rintro e w1 ⟨q, G, hi', h, rfl, hb1, hq, hL⟩
  have Hb1 := Lib.hid hb1
  have HL := Lib.hid hL
  have Hs1 := Lib.hid (Hs.out.below hb1)
  have Hi1 := Lib.hid (Hi.out.below hb1)
  have Hc1 := Lib.hid (Hc.out.below hb1)
  clear hb1 hL
  by_cases hr : 1 ≤ wave ∧ wave ≤ ls.length
  case neg =>
    have hres := Lib.hid (show wdB c g ls wave = false by unfold wdB wlB; rw [decide_eq_false hr, Bool.and_false]; rfl)
    go_wp2_with fail
    refine (led_direct_bad HL.out Hs1.out wave h15 hr).mono ?_
    rintro e w2 ⟨rfl, hd2⟩
    have Hb2 := Lib.hid (below_step Hb1.out Hb1.out.size (hd2.below _))
    clear hd2
    go_wp2
    go_ret
    exact ⟨by rw [hres.out]; rfl, Hb2.out⟩
  have hres := Lib.hid (show wdB c g ls wave = decide (totalZ c / 3 + 1 ≤ voZ c g ls wave.toNat) by unfold wdB wlB; rw [Hw.out, decide_eq_true hr]; rfl)
  obtain ⟨k, rfl⟩ : ∃ k : Nat, wave = k := ⟨wave.toNat, by omega⟩
  rw [Int.toNat_natCast] at hres
  have HD := Lib.hid (led_direct HL.out Hs1.out k (by omega) Hok.out hbig Hc1.out Hi1.out)
  clear hr
  generalize decide (totalZ c / 3 + 1 ≤ voZ c g ls k) = B at *
  go_wp2_with fail
  refine HD.out.mono ?_
  rintro e w2 ⟨rfl, hd2⟩
  have Hb2 := Lib.hid (below_step Hb1.out Hb1.out.size (hd2.below _))
  clear hd2
  go_wp2
  go_ret
  exact ⟨by rw [hres.out]; rfl, Hb2.out⟩

set_option maxRecDepth 8000 in
set_option maxHeartbeats 1000000 in
theorem impl_CommitWaves (ac : Option Addr) (capc : Nat) (c : List Int) (g : List Vx) (v : Value) (fp : List Nat) (al : Option Addr) (cap : Nat) (ls : List Int) (eN eI : Addr) (w : World) (hn : c.length ≤ 1099511627776) (hbig : g.length ≤ 1048576) (hps : ∀ x ∈ g, x.ps.length ≤ 1099511627776) (hl : ls.length ≤ 1099511627776) (_hcc : c.length ≤ capc) (hc : IntsAt w ac c) (hg : Gr w g v fp) (_hlc : ls.length ≤ cap) (hi : IntsAt w al ls) (hs : Sen w eN eI) :
    Calls Tryd.prog 23 #[.slice ac c.length capc, v, .slice al ls.length cap] w fun e w' => ∃ u, e = .returned u ∧ Own 3 w' w.heap.size u (cwZ c g ls) ∧ Below w.heap.size w w' := by
  cases hw : waB c g ls with
  | false =>
    have H := Lib.hid (ledGraphOf_no ac capc c g v fp al cap ls eN eI w hn hbig hps hl hc hg hi hs hw)
    have hres := Lib.hid (show cwZ c g ls = [] by unfold cwZ; rw [hw]; rfl)
    clear hc hg hi hps hs hw
    go_enter Tryd.func23, Tryd.ntmps23
    go_wp2_with fail
    refine H.out.mono ?_
    rintro e w1 ⟨rfl, hb1⟩
    have Hb1 := Lib.hid hb1
    have Ho := Lib.hid (own_empty 3 w1 hb1.size)
    have hal : Below w1.heap.size w1 (w1.alloc (.cells #[] 3)) := (Below.refl _ _).alloc (Nat.le_refl _) _
    have Hal := Lib.hid hal
    clear hb1 hal
    go_wp2
    go_ret
    exact ⟨_, rfl, by rw [hres.out]; exact Ho.out, below_step Hb1.out Hb1.out.size Hal.out⟩
  | true =>
  have ok := good21 hw hps
  have H := Lib.hid (ledGraphOf_yes ac capc c g v fp al cap ls w hn hbig hps hl hc hg hi hw)
  have Hs := Lib.hid hs
  have Hi := Lib.hid hi; have Hc := Lib.hid hc
  have Hw := Lib.hid hw
  have Hok := Lib.hid ok
  have h15 := ok.l15
  clear hc hg hi hps hs hw ok
  go_enter Tryd.func23, Tryd.ntmps23
  go_wp2_with fail
  refine H.out.mono ?_
  rintro e w1 ⟨q, G, hi', h, rfl, hb1, hq, hL⟩
  have Hb1 := Lib.hid hb1
  have HL := Lib.hid hL
  have Hs1 := Lib.hid (Hs.out.below hb1)
  have Hi1 := Lib.hid (Hi.out.below hb1)
  have Hc1 := Lib.hid (Hc.out.below hb1)
  clear hb1 hL
  have hres := Lib.hid (show cwZ c g ls = (wvs c g ls ls.length).1 by unfold cwZ; rw [Hw.out]; rfl)
  have HD := Lib.hid (led_committed HL.out Hs1.out Hok.out hbig Hc1.out Hi1.out)
  go_wp2_with fail
  refine HD.out.mono ?_
  rintro e w2 ⟨u, rfl, ho2, hb2⟩
  have Ho2 := Lib.hid (ho2.mono Hb1.out.size)
  have Hb2 := Lib.hid (below_step Hb1.out Hb1.out.size hb2)
  clear ho2 hb2
  go_wp2
  go_ret
  exact ⟨u, rfl, by rw [hres.out]; exact Ho2.out, Hb2.out⟩

end Go.Proofs.YtjekgjlnaochiaaDoor

/- Plain facts of the laws of waves; nothing here is walked. -/
namespace Go.Proofs.YtjekgjlnaochiaaDoor
open Go.RowKit

theorem wl_ok {c : List Int} {g : List Vx} {ls : List Int} {wave : Int} (h : wlB c g ls wave = true) : waB c g ls = true ∧ 1 ≤ wave ∧ wave ≤ ls.length := by
  unfold wlB at h; simp only [Bool.and_eq_true, decide_eq_true_eq] at h; exact ⟨h.1, h.2.1, h.2.2⟩
theorem wa_valid {c : List Int} {g : List Vx} {ls : List Int} (h : waB c g ls = true) : validB c = true := by
  unfold waB graphB at h; simp only [Bool.and_eq_true] at h; exact h.1.1
theorem wd_votes (c : List Int) (g : List Vx) (ls : List Int) (wave : Int) : wdB c g ls wave = (decide (0 ≤ wvZ c g ls wave) && decide (orNo c (totalZ c / 3 + 1) ≤ wvZ c g ls wave)) := by
  unfold wdB wvZ
  cases h : wlB c g ls wave with
  | false => simp
  | true =>
    have hv := wa_valid (wl_ok h).1
    have hp := voZ_pos (c := c) (g := g) (ls := ls) (k := wave.toNat) hv
    rw [orNo_yes hv]
    simp [hp]

end Go.Proofs.YtjekgjlnaochiaaDoor
