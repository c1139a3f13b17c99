/- Texts that the laws of this folder share, one behind another; no conditions. -/
import Derived.Test.YtjekgjlnaochiaaDoorRows
import Derived.Test.YtjekgjlnaochiaaDoorBu3
import Derived.Deep.QuietTactic
import Derived.BigQuiet
import Derived.Test.YtjekgjlnaochiaaDoorBu0
import Derived.Shelf.Slices.Reverse
import Derived.Sort.OwnSortedInts
import Derived.Test.YtjekgjlnaochiaaDoorBu2
import Derived.Test.YtjekgjlnaochiaaDoorBu1

/- impl's test of one vertex depending on another, by a walk of its text; conditions: the graph is valid, lists are shorter than 2^40. -/
namespace Go.Proofs.YtjekgjlnaochiaaDoor
open Go.RowKit

set_option maxRecDepth 8000 in
set_option maxHeartbeats 1000000 in
theorem lv_dependsOn {w0 w : World} {hi G : Nat} {mv : Value} {c : List Int} {h : Nat → Value} {g : List Vx} {ls : List Int} (l : Lk w0 w hi G mv h g) (ok : Good21 c g ls) {a b : Nat} (ha : a < g.length) (hb : b < g.length) {q p : Nat} (hq : h (plN g[a].r g[a].a) = ptrV q) (hp : h (plN g[b].r g[b].a) = ptrV p) :
    Calls Tryd.prog 82 #[.pointer (some ⟨q, 0, none⟩), .pointer (some ⟨p, 0, none⟩)] w fun e w' => e = .returned (.bool ((pastB g a).getD b false)) ∧ Below w.heap.size w w' := by
  have hz72 : Tryd.zeroCells79 = marksV fun _ => false := by kernel_rfl
  have hbM : Below w.heap.size w (w.alloc (.cells Tryd.zeroCells79 79)) := (Below.refl _ _).alloc (Nat.le_refl _) _
  have sM := Str.new w 79 Tryd.zeroCells79
  rw [hz72] at sM
  have HMc := Lib.hid (mark_past w0 w hi G mv h g w.heap.size l l.le ok.srt ok.pl ok.par ok.r0 ok.ps g[a].r.toNat g[a] q (w.alloc (.cells Tryd.zeroCells79 79)) (fun _ => false) (List.getElem_mem ha) rfl hq (below_rowP hbM _) (by rw [hz72]; exact sM) (fun z _ _ hb => by cases hb))
  have Hmp := Lib.hid (fun bs hm => marks_past (bs := bs) ok.gb ha hm (fun _ _ => .inr trivial) b hb)
  have HL := Lib.hid l
  have HbM := Lib.hid hbM
  have ip := ok.pl _ (List.getElem_mem hb)
  unfold inPl at ip
  obtain ⟨o1, hm1, hm2⟩ := run_mark w.heap.size g[b].r g[b].a ip.1 ip.2.1 ip.2.2.1 ip.2.2.2
  have hbd := plM_bd ip.2.1 ip.2.2.2
  have Hpp : Hid (∃ pa pc pv, Str w p 56 #[.int .i64 g[b].r, .int .i64 g[b].a, .slice pa g[b].ps.length pc, .int .i64 g[b].d, pv] ∧ p < hi) := by
    obtain ⟨p', hp', n⟩ := l.has g[b] (List.getElem_mem hb)
    rw [hp] at hp'
    have e : p = p' := by unfold ptrV at hp'; simpa using hp'
    subst e
    obtain ⟨pa, pc, pv, _, s, _⟩ := n.ex
    exact Lib.hid ⟨pa, pc, pv, s, n.lt⟩
  clear l ok hbM sM ip hq hp hz72
  go_enter Tryd.func82, Tryd.ntmps82
  go_wp2_with fail
  refine HMc.out.mono ?_
  rintro e w3 ⟨rfl, hg3, bs, hs3, hmk⟩
  have Hp := Lib.hid (Hmp.out bs hmk)
  have hb3 : Below w.heap.size w w3 := HbM.out.grown hg3 HbM.out.size (fun g e => by cases e; omega)
  have em := hs3.cell (plM g[b].r g[b].a) (v := .bool (bs (plM g[b].r g[b].a))) (arrP_get hbd)
  rw [Hp.out] at em
  obtain ⟨pa, pc, pv, sp, hlt⟩ := Hpp.out
  have sp3 : Str w3 p 56 #[.int .i64 g[b].r, .int .i64 g[b].a, .slice pa g[b].ps.length pc, .int .i64 g[b].d, pv] := (hb3.block _ sp.lt).trans sp
  have c0 := sp3.cell 0 (v := .int .i64 g[b].r) rfl
  have c1 := sp3.cell 1 (v := .int .i64 g[b].a) rfl
  have Hb3 := Lib.hid hb3
  clear hs3 hg3 hmk sp sp3 hb3 Hp Hmp
  generalize hPB : (pastB g a).getD b false = PB at *
  have HPB := Lib.hid hPB; clear hPB
  go_wp2_with fail
  go_quiet (fail)
  go_wp2
  go_ret
  exact ⟨by rw [HPB.out]; rfl, below_step Hb3.out Hb3.out.size (((Drawn.refl _).drewN _).below _)⟩

end Go.Proofs.YtjekgjlnaochiaaDoor

/- slices.Reverse at a list of ints of the call's own, over the kit's shelf; no conditions but the list's length. -/
namespace Go.Proofs.YtjekgjlnaochiaaDoor
open Go.RowKit Go.Shelf Go.Sort

def revI_ren : Go.Shelf.Ren := ⟨fun | 112 => 83 | n => n, fun | 0 => 0 | 3 => 3 | 4 => 4 | 28 => 23 | n => n, fun n => n⟩
theorem revI : Go.Proofs.Lays.n112 Tryd.prog revI_ren := {
  mixed := by kernel_rfl
  f112 := Tryd.func83.trans (congrArg some (by kernel_rfl))
  t0 := Tryd.underlying0
  a0 := Tryd.isAgg0
  z0 := Tryd.sizeOf0
  v0 := Tryd.zeroValue0
  t3 := Tryd.underlying3
  a3 := Tryd.isAgg3
  z3 := Tryd.sizeOf3
  v3 := Tryd.zeroValue3
  t4 := Tryd.underlying4
  a4 := Tryd.isAgg4
  z4 := Tryd.sizeOf4
  v4 := Tryd.zeroValue4
  t28 := Tryd.underlying23
  a28 := Tryd.isAgg23
  z28 := Tryd.sizeOf23
  v28 := Tryd.zeroValue23
}
theorem rev_own (B : Nat) (v : Value) (xs : List Int) (w : World) (hown : Own 3 w B v xs) (hbig : xs.length ≤ 1048576) :
    Calls Tryd.prog 83 #[v] w fun e w' => e = .returned (.tuple #[]) ∧ Own 3 w' B v xs.reverse ∧ w.grownBy w' v.ownBlock := by
  have hown' := hown
  rcases hown.2 with ⟨rfl, h0⟩ | ⟨g, cap, cur, rfl, hb, hg, hn, hm, hs, ht⟩
  · obtain rfl : xs = [] := List.eq_nil_of_length_eq_zero h0
    refine (Any.slices_Reverse_int_empty revI none 0 w).mono ?_
    rintro e w' ⟨rfl, rfl⟩
    exact ⟨rfl, hown', World.grownBy.refl _ _⟩
  · have hH := holds_of_blockI hg (by rw [Nat.mul_one] at ht; exact ht)
    refine (Any.slices_Reverse_int revI g 0 cap xs w hH (by omega)).mono ?_
    rintro e w' ⟨rfl, n, rfl⟩
    have h1 := ownsRow_sortedI (w := w) (n := n) (os := #[]) (ss := xs) (ts := xs.reverse) (by simp) hb hg hn hm hs
    have h2 := grownBy_sortedI (w := w) (g := g) (n := n) (os := #[]) xs.reverse.toArray
    rw [grow_empty] at h1 h2
    refine ⟨rfl, ?_, h2⟩
    unfold Own
    rw [show xs.reverse.length = xs.length by simp]
    exact h1

end Go.Proofs.YtjekgjlnaochiaaDoor

/- impl's waves that a directly committed wave commits, by a walk of its text; conditions: the graph and the leaders are valid, lists are shorter than 2^40. -/
namespace Go.Proofs.YtjekgjlnaochiaaDoor
open Go.RowKit

/-- Behind some rounds: what is collected, and the current leader vertex. -/
def CbAt (h : Nat → Value) (g : List Vx) (ls : List Int) (lo d : Nat) (x : Nat) (W : List Int) (cu : Value) : Prop :=
  (x = d ∧ W = [] ∧ cu = .pointer none) ∨ (x < d ∧ ∃ (C : List Int) (j : Nat) (hj : j < g.length) (p : Nat), W = C.reverse ∧ C.length + x ≤ d ∧ chZ g ls lo x C j = chZ g ls lo (d - 1) [(d : Int)] (ldZ g ls d) ∧ cu = .pointer (some ⟨p, 0, none⟩) ∧ h (plN g[j].r g[j].a) = ptrV p)

theorem TIq : IntT Tryd.prog 23 3 := ⟨Tryd.underlying23, by kernel_rfl⟩
section
variable {w0 w : World} {hi G q : Nat} {mv : Value} {c : List Int} {h : Nat → Value} {g : List Vx} {al : Option Addr} {cap : Nat} {ls : List Int} {eN eI : Addr}
set_option maxRecDepth 8000 in
set_option maxHeartbeats 4000000 in
theorem led_committedBy (l : Lg w0 w hi G q mv h g al cap ls) (hs : Sen w eN eI) (d lo : Nat) (hd : 1 ≤ d ∧ d ≤ ls.length) (hlo : lo < d) (ok : Good21 c g ls) (hi' : IntsAt w al ls) (hz : 0 ≤ ldZ g ls d) :
    Calls Tryd.prog 67 #[.pointer (some ⟨q, 0, none⟩), .int .i64 d, .int .i64 lo] w fun e w' => ∃ u, e = .returned u ∧ Own 3 w' w.heap.size u (chZ g ls lo (d - 1) [(d : Int)] (ldZ g ls d)) ∧ Below w.heap.size w w' := by
  obtain ⟨hd1, hd2⟩ := hd
  have h15 := ok.l15
  have hb0 : Below w.heap.size w (w.alloc (.cells #[] 3)) := (Below.refl _ _).alloc (Nat.le_refl _) _
  have Ho0 := Lib.hid (own_empty 3 w (Nat.le_refl w.heap.size))
  have Hb0 := Lib.hid hb0
  have HLd := Lib.hid (fun (k : Nat) (hk : 1 ≤ k ∧ k ≤ ls.length) W (hb : Below w.heap.size w W) => led_leader (l.under hb) (hs.below hb) k hk ok.l15 ok.l6 (hi'.below hb) ok.pl)
  have HSn := Lib.hid (fun W (hb : Below w.heap.size w W) => hs.below hb)
  have HDp := Lib.hid (fun W (hb : Below w.heap.size w W) (a b : Nat) (ha : a < g.length) (hb2 : b < g.length) (qq pp : Nat) hq hp => lv_dependsOn (l.under hb).lk ok (a := a) (b := b) ha hb2 (q := qq) (p := pp) hq hp)
  have Hz := Lib.hid hz
  clear l hs ok hi' hb0 hz
  go_enter Tryd.func67, Tryd.ntmps67
  go_wp2
  go_loopw [7, 8, 9] (fun ws cu xx wr => ∃ (x : Nat) (W : List Int), lo ≤ x ∧ x ≤ d ∧ xx = .int .i64 x ∧ W.length + x ≤ d ∧ Hid (CbAt h g ls lo d x W cu) ∧ Own 3 wr w.heap.size ws W ∧ Below w.heap.size w wr) (fun _ _ xx _ => (intOf xx).toNat)
  case atStart => exact ⟨d, [], by omega, by omega, rfl, by simp, Lib.hid (.inl ⟨rfl, rfl, rfl⟩), Ho0.out, Hb0.out⟩
  case round =>
    obtain ⟨x, W, hx1, hx2, rfl, hWl, hcb, ho, hb⟩ := hrel
    have Ho := Lib.hid ho; have Hb := Lib.hid hb
    clear ho hb Ho0 Hb0
    by_cases hlt : lo < x
    · have hlt' : (lo : Int) < (x : Int) := by omega
      have hx9 : IntKind.i64.wrap ((x : Int) - 1) = ((x - 1 : Nat) : Int) := by rw [IntWalk.i64_in _ (by omega)]; omega
      go_wp2_with fail
      refine (HLd.out x ⟨by omega, by omega⟩ wr Hb.out).mono ?_
      rintro e w1 ⟨hcase, hd⟩
      have hs1 := HSn.out w1 (below_step Hb.out Hb.out.size (hd.below _))
      have hgN := hs1.gN
      have Ho1 := Lib.hid (Ho.out.below (hd.below _))
      have Hb1 := Lib.hid (below_step Hb.out Hb.out.size (hd.below _))
      clear hd hs1 Ho Hb
      rcases hcase with ⟨hz, rfl⟩ | ⟨j, hj, p, hz, hp, rfl⟩
      · -- no leader vertex
        have hnew : CbAt h g ls lo d (x - 1) W u8 := by
          rcases hcb.out with ⟨rfl, _, _⟩ | ⟨hxd, C, j, hj, p, e1, e2, e3, e4, e5⟩
          · have := Hz.out; omega
          · refine .inr ⟨by omega, C, j, hj, p, e1, by omega, ?_, e4, e5⟩
            rw [← e3, chZ_no hlt (by unfold linkB; rw [hz]; rfl)]
        have Hnew := Lib.hid hnew
        clear hnew hcb hz
        go_wp2_with fail
        refine (is_same eN w1).mono ?_
        rintro e w2 ⟨rfl, rfl⟩
        go_wp2
        go_roundw
        case rel => exact ⟨x - 1, W, by omega, by omega, by first | rfl | rw [hx9], by omega, Lib.hid Hnew.out, Ho1.out, Hb1.out⟩
        case measure => simp [intOf]; omega
      · have Hlz := Lib.hid hz
        have Hp := Lib.hid hp
        clear hz hp
        go_wp2_with fail
        refine (is_nil eN w1).mono ?_
        rintro e w2 ⟨rfl, rfl⟩
        have hB := Hb1.out.size
        by_cases hxd : x = d
        · obtain ⟨rfl, rfl⟩ : W = [] ∧ u8 = .pointer none := by
            rcases hcb.out with ⟨_, e1, e2⟩ | ⟨h9, _⟩
            · exact ⟨e1, e2⟩
            · omega
          subst hxd
          have Hnew := Lib.hid (show CbAt h g ls lo x (x - 1) [(x : Int)] (.pointer (some ⟨p, 0, none⟩)) from .inr ⟨by omega, [(x : Int)], j, hj, p, rfl, by simp; omega, by rw [Hlz.out], rfl, Hp.out⟩)
          clear hcb
          go_wp2_with (at_builtin; refine wpList_push TIq rfl (.tmp 36) (.tmp 38) rfl w.heap.size _ ([] : List Int) _ rfl Ho1.out (by simp) rfl hB ?_; intro v8 w8 hown8 hg8)
          have Hb8 := Lib.hid (Hb1.out.grown hg8 hB (fun g e => (Ho1.out.lt g e).1))
          have Ho8 := Lib.hid hown8
          clear hown8 hg8
          go_wp2
          go_roundw
          case rel => exact ⟨x - 1, [(x : Int)], by omega, by omega, by first | rfl | rw [hx9], by simp; omega, Lib.hid Hnew.out, by simpa using Ho8.out, Hb8.out⟩
          case measure => simp [intOf]; omega
        · obtain ⟨C, j0, hj0, p0, rfl, e2, e3, rfl, e5⟩ : ∃ (C : List Int) (j0 : Nat) (hj0 : j0 < g.length) (p0 : Nat), W = C.reverse ∧ C.length + x ≤ d ∧ chZ g ls lo x C j0 = chZ g ls lo (d - 1) [(d : Int)] (ldZ g ls d) ∧ u8 = .pointer (some ⟨p0, 0, none⟩) ∧ h (plN g[j0].r g[j0].a) = ptrV p0 := by
            rcases hcb.out with ⟨h9, _⟩ | ⟨_, h9⟩
            · exact absurd h9 hxd
            · exact h9
          have hxd' : ((x : Int) == (d : Int)) = false := by rw [beq_eq_false_iff_ne]; omega
          have HD := Lib.hid (HDp.out w1 Hb1.out j0 j hj0 hj p0 p e5 Hp.out)
          have Hlk := Lib.hid (show linkB g ls j0 x = (pastB g j0).getD j false by unfold linkB; rw [Hlz.out]; simp)
          have Hch := Lib.hid e3
          have He5 := Lib.hid e5
          clear e3 e5 hcb hgN
          cases hl : (pastB g j0).getD j false with
          | true =>
            have Hnew := Lib.hid (show CbAt h g ls lo d (x - 1) (((x : Int) :: C).reverse) (.pointer (some ⟨p, 0, none⟩)) from .inr ⟨by omega, (x : Int) :: C, j, hj, p, rfl, by simp; omega, by rw [← Hch.out, chZ_yes hlt (Hlk.out.trans hl), Hlz.out], rfl, Hp.out⟩)
            rw [hl] at HD
            clear hl Hlk Hch
            rw [List.length_reverse] at hWl
            have hrl : C.reverse.length ≤ 15 := by rw [List.length_reverse]; omega
            go_wp2_with fail
            refine HD.out.mono ?_
            rintro e w2 ⟨rfl, hb2⟩
            have Ho2 := Lib.hid (Ho1.out.below hb2)
            have Hb2 := Lib.hid (below_step Hb1.out Hb1.out.size hb2)
            have hB2 := Hb2.out.size
            clear hb2 Ho1 Hb1
            obtain ⟨RC, hRC⟩ : ∃ RC, C.reverse = RC := ⟨_, rfl⟩
            rw [hRC] at Ho2 hrl
            have HRC := Lib.hid hRC; clear hRC
            go_wp2_with (at_builtin; refine wpList_push TIq rfl (.tmp 36) (.tmp 38) rfl w.heap.size _ RC _ rfl Ho2.out (by omega) rfl hB2 ?_; intro v8 w8 hown8 hg8)
            have Hb8 := Lib.hid (Hb2.out.grown hg8 hB2 (fun g e => (Ho2.out.lt g e).1))
            have Ho8 := Lib.hid hown8
            clear hown8 hg8
            go_wp2
            go_roundw
            case rel => exact ⟨x - 1, ((x : Int) :: C).reverse, by omega, by omega, by first | rfl | rw [hx9], by simp; omega, Lib.hid Hnew.out, by rw [List.reverse_cons, HRC.out]; exact Ho8.out, Hb8.out⟩
            case measure => simp [intOf]; omega
          | false =>
            have Hnew := Lib.hid (show CbAt h g ls lo d (x - 1) C.reverse (.pointer (some ⟨p0, 0, none⟩)) from .inr ⟨by omega, C, j0, hj0, p0, rfl, by omega, by rw [← Hch.out, chZ_no hlt (Hlk.out.trans hl)], rfl, He5.out⟩)
            rw [hl] at HD
            clear hl Hlk Hch
            go_wp2_with fail
            refine HD.out.mono ?_
            rintro e w2 ⟨rfl, hb2⟩
            have Ho2 := Lib.hid (Ho1.out.below hb2)
            have Hb2 := Lib.hid (below_step Hb1.out Hb1.out.size hb2)
            clear hb2 Ho1 Hb1
            go_wp2
            go_roundw
            case rel => exact ⟨x - 1, C.reverse, by omega, by omega, by first | rfl | rw [hx9], by omega, Lib.hid Hnew.out, Ho2.out, Hb2.out⟩
            case measure => simp [intOf]; omega
    · obtain ⟨C, rfl, e3⟩ : ∃ C : List Int, W = C.reverse ∧ chZ g ls lo (d - 1) [(d : Int)] (ldZ g ls d) = C := by
        rcases hcb.out with ⟨h9, _⟩ | ⟨_, C, j0, hj0, p0, e1, _, e3, _⟩
        · omega
        · exact ⟨C, e1, by rw [← e3, chZ_done (by omega)]⟩
      have H3 := Lib.hid e3
      have hrl : C.reverse.length ≤ 15 := by omega
      clear e3 hcb
      have hlt' : ¬ (lo : Int) < (x : Int) := by omega
      obtain ⟨RC, hRC⟩ : ∃ RC, C.reverse = RC := ⟨_, rfl⟩
      rw [hRC] at Ho hrl hWl
      have HRC := Lib.hid hRC; clear hRC
      go_wp2_with fail
      refine (rev_own w.heap.size u7 RC wr Ho.out (by omega)).mono ?_
      rintro e w2 ⟨rfl, ho2, hg2⟩
      have Hb2 := Lib.hid (Hb.out.grown hg2 Hb.out.size (fun g e => (Ho.out.lt g e).1))
      have Ho2 := Lib.hid ho2
      clear ho2 hg2
      go_wp2
      go_ret
      refine ⟨_, rfl, ?_, Hb2.out⟩
      rw [H3.out, show C = RC.reverse by rw [← HRC.out, List.reverse_reverse]]
      exact Ho2.out
end

end Go.Proofs.YtjekgjlnaochiaaDoor

/- impl's committed waves, by a walk of its text; conditions: the graph and the leaders are valid, lists are shorter than 2^40. -/
namespace Go.Proofs.YtjekgjlnaochiaaDoor
open Go.RowKit

section
variable {w0 w : World} {hi G q : Nat} {ac : Option Addr} {capc : Nat} {c : List Int} {h : Nat → Value} {g : List Vx} {al : Option Addr} {cap : Nat} {ls : List Int} {eN eI : Addr}
set_option maxRecDepth 8000 in
set_option maxHeartbeats 2000000 in
theorem led_committed (l : Lg w0 w hi G q (.slice ac c.length capc) h g al cap ls) (hs : Sen w eN eI) (ok : Good21 c g ls) (hbg : g.length ≤ 1048576) (hc : IntsAt w ac c) (hi' : IntsAt w al ls) :
    Calls Tryd.prog 46 #[.pointer (some ⟨q, 0, none⟩)] w fun e w' => ∃ u, e = .returned u ∧ Own 3 w' w.heap.size u (wvs c g ls ls.length).1 ∧ Below w.heap.size w w' := by
  have h15 := ok.l15
  have hb0 : Below w.heap.size w (w.alloc (.cells #[] 3)) := (Below.refl _ _).alloc (Nat.le_refl _) _
  have Ho0 := Lib.hid (own_empty 3 w (Nat.le_refl w.heap.size))
  have Hb0 := Lib.hid hb0
  have HD := Lib.hid (fun (k : Nat) (hk : 1 ≤ k ∧ k ≤ ls.length) W (hb : Below w.heap.size w W) => led_direct (l.under hb) (hs.below hb) k hk ok hbg (hc.below hb) (hi'.below hb))
  have HC := Lib.hid (fun (k lo : Nat) (hk : 1 ≤ k ∧ k ≤ ls.length) (hlo : lo < k) hz W (hb : Below w.heap.size w W) => led_committedBy (l.under hb) (hs.below hb) k lo hk hlo ok (hi'.below hb) hz)
  have Hq := Lib.hid (fun W (hb : Below w.heap.size w W) => (l.under hb).st.cell 1 (v := .slice al ls.length cap) rfl)
  have hbd := totalZ_bd ok.hv
  have Hpos := Lib.hid (fun k (h : totalZ c / 3 + 1 ≤ voZ c g ls k) => (show 0 ≤ ldZ g ls k by
    by_cases h0 : 0 ≤ ldZ g ls k
    · exact h0
    · unfold voZ at h; rw [if_neg h0] at h; omega))
  clear l hs ok hc hi' hb0
  go_enter Tryd.func46, Tryd.ntmps46
  go_wp2
  go_loopw [3, 4, 5] (fun o la i wr => ∃ m : Nat, 1 ≤ m ∧ m ≤ ls.length + 1 ∧ i = .int .i64 m ∧ la = .int .i64 ((wvs c g ls (m - 1)).2 : Nat) ∧ Own 3 wr w.heap.size o (wvs c g ls (m - 1)).1 ∧ Below w.heap.size w wr) (fun _ _ i _ => ls.length + 1 - (intOf i).toNat)
  case atStart => exact ⟨1, by omega, by omega, rfl, rfl, Ho0.out, Hb0.out⟩
  case round =>
    obtain ⟨m, hm1, hm2, rfl, rfl, ho, hb⟩ := hrel
    have hwl := wvs_len (c := c) (g := g) (ls := ls) (m - 1)
    have Ho := Lib.hid ho; have Hb := Lib.hid hb
    have q1 := Hq.out wr hb
    clear ho hb Ho0 Hb0
    by_cases hlt : m ≤ ls.length
    · have hlt' : (m : Int) ≤ (ls.length : Int) := by omega
      go_wp2_with fail
      refine (HD.out m ⟨hm1, hlt⟩ wr Hb.out).mono ?_
      rintro e w1 ⟨rfl, hd1⟩
      have Ho1 := Lib.hid (Ho.out.below (hd1.below _))
      have Hb1 := Lib.hid (below_step Hb.out Hb.out.size (hd1.below _))
      clear hd1 Ho Hb q1
      by_cases hq : totalZ c / 3 + 1 ≤ voZ c g ls m
      · have hy := wvs_yes hm1 (show ¬ voZ c g ls m < totalZ c / 3 + 1 by omega)
        have Hy1 := Lib.hid (show (wvs c g ls m).1 = (wvs c g ls (m - 1)).1 ++ chZ g ls (wvs c g ls (m - 1)).2 (m - 1) [(m : Int)] (ldZ g ls m) by rw [hy])
        have Hy2 := Lib.hid (show (wvs c g ls m).2 = m by rw [hy])
        have hz := Hpos.out m hq
        have hqd : decide (totalZ c / 3 + 1 ≤ voZ c g ls m) = true := decide_eq_true hq
        have HCm := Lib.hid (HC.out m (wvs c g ls (m - 1)).2 ⟨hm1, hlt⟩ (by omega) hz)
        have hcl := chZ_len (g := g) (ls := ls) (lo := (wvs c g ls (m - 1)).2) (m - 1) [(m : Int)] (ldZ g ls m)
        rw [List.length_singleton] at hcl
        clear hy hz hq
        generalize voZ c g ls m = V at *
        generalize (wvs c g ls (m - 1)).2 = lo at *
        generalize (wvs c g ls (m - 1)).1 = O at *
        generalize chZ g ls lo (m - 1) [(m : Int)] (ldZ g ls m) = CH at *
        rw [hqd]
        clear hqd
        go_wp2_with fail
        refine (HCm.out w1 Hb1.out).mono ?_
        rintro e w2 ⟨u, rfl, ho2, hb2⟩
        have Ho2 := Lib.hid (Ho1.out.below hb2)
        have Hb2 := Lib.hid (below_step Hb1.out Hb1.out.size hb2)
        have hB2 := Hb2.out.size
        obtain ⟨au, cu, rfl, _, _⟩ := ho2.ints
        have Hsr := Lib.hid (own_src ho2)
        clear hb2 ho2 Ho1 Hb1 HCm
        go_wp2_with (at_builtin; refine wpList_appI TIq rfl _ _ rfl w.heap.size _ O CH au cu rfl Ho2.out rfl Hsr.out (by omega) hB2 ?_; intro v8 w8 ho8 hg8)
        have Hb8 := Lib.hid (Hb2.out.grown hg8 hB2 (fun q e => (Ho2.out.lt q e).1))
        have Ho8 := Lib.hid ho8
        clear ho8 hg8
        go_wp2
        go_roundw
        case rel => exact ⟨m + 1, by omega, by omega, by go_num, by rw [Nat.add_sub_cancel, Hy2.out], by rw [Nat.add_sub_cancel, Hy1.out]; exact Ho8.out, Hb8.out⟩
        case measure => simp [intOf]; omega
      · have hn := Lib.hid (wvs_no hm1 (show voZ c g ls m < totalZ c / 3 + 1 by omega))
        have hqd : decide (totalZ c / 3 + 1 ≤ voZ c g ls m) = false := decide_eq_false hq
        rw [hqd]
        clear hq hqd
        go_wp2
        go_roundw
        case rel => exact ⟨m + 1, by omega, by omega, by go_num, by rw [Nat.add_sub_cancel, hn.out], by rw [Nat.add_sub_cancel, hn.out]; exact Ho1.out, Hb1.out⟩
        case measure => simp [intOf]; omega
    · have hml : m - 1 = ls.length := by omega
      have Hml := Lib.hid hml
      clear hml hwl
      go_wp2
      go_ret
      exact ⟨_, rfl, by rw [← Hml.out]; exact Ho.out, Hb.out⟩
end

end Go.Proofs.YtjekgjlnaochiaaDoor

/- impl's GraphFind, with the library's search by a function and the function that is handed to it, each by a walk of its text; conditions: lists are shorter than 2^40 (a graph: 2^20). -/
namespace Go.Proofs.YtjekgjlnaochiaaDoor
open Go.RowKit

theorem find_test (x : Vx) (pa : Option Addr) (pc : Nat) (r a : Int) (Br Ba : Nat) (w : World) (hr : Str w Br 3 #[.int .i64 r]) (ha : Str w Ba 3 #[.int .i64 a]) :
    Calls Tryd.prog 38 #[.agg #[.int .i64 x.r, .int .i64 x.a, .slice pa x.ps.length pc, .int .i64 x.d], .pointer (some ⟨Br, 0, none⟩), .pointer (some ⟨Ba, 0, none⟩)] w fun e w' => e = .returned (.bool (sameRA r a x)) ∧ Below w.heap.size w w' := by
  have hb0 : Below w.heap.size w (w.alloc (.cells #[.int .i64 x.r, .int .i64 x.a, .slice pa x.ps.length pc, .int .i64 x.d] 29)) := (Below.refl _ _).alloc (Nat.le_refl _) _
  have s0 := Str.new w 29 #[.int .i64 x.r, .int .i64 x.a, .slice pa x.ps.length pc, .int .i64 x.d]
  have k0 := s0.cell 0 (v := .int .i64 x.r) rfl
  have k1 := s0.cell 1 (v := .int .i64 x.a) rfl
  have q0 := (hr.alloc (.cells #[.int .i64 x.r, .int .i64 x.a, .slice pa x.ps.length pc, .int .i64 x.d] 29)).cell 0 (v := .int .i64 r) rfl
  have q1 := (ha.alloc (.cells #[.int .i64 x.r, .int .i64 x.a, .slice pa x.ps.length pc, .int .i64 x.d] 29)).cell 0 (v := .int .i64 a) rfl
  have Hb := Lib.hid hb0
  clear hb0 s0 hr ha
  by_cases h1 : x.r = r
  · have e1 : (x.r == r) = true := by simpa using h1
    have Hz := Lib.hid (show sameRA r a x = decide (x.a = a) by unfold sameRA; simp [h1])
    clear h1
    go_enter Tryd.func38, Tryd.ntmps38
    go_wp2
    go_ret
    exact ⟨ret_bool (by rw [Hz.out, Bool.eq_iff_iff, decide_eq_true_iff]; simp), Hb.out⟩
  · have e1 : (x.r == r) = false := by simpa using h1
    have Hz := Lib.hid (show sameRA r a x = false from decide_eq_false fun e => h1 e.1)
    clear h1
    go_enter Tryd.func38, Tryd.ntmps38
    go_wp2
    go_ret
    exact ⟨by first | rfl | exact ret_bool (by rw [Hz.out]), Hb.out⟩

theorem lib_IndexFunc (g : List Vx) (v : Value) (fp : List Nat) (r a : Int) (Br Ba : Nat) (w : World) (hbig : g.length ≤ 1099511627776) (hg : Gr w g v fp) (hr : Str w Br 3 #[.int .i64 r]) (ha : Str w Ba 3 #[.int .i64 a]) :
    Calls Tryd.prog 37 #[v, .func (.func 38) #[] #[.pointer (some ⟨Br, 0, none⟩), .pointer (some ⟨Ba, 0, none⟩)]] w fun e w' => e = .returned (.int .i64 (findZ g r a)) ∧ Below w.heap.size w w' := by
  obtain ⟨va, vc, rfl⟩ := hg.slice
  have Hg := Lib.hid hg; clear hg
  have Hr := Lib.hid hr; clear hr
  have Ha := Lib.hid ha; clear ha
  go_enter Tryd.func37, Tryd.ntmps37
  go_wp2
  go_loopw [8] (fun i wr => ∃ k : Nat, k ≤ g.length ∧ i = .int .i64 k ∧ Upto (fun j => !sameRA r a (g.getD j vx0)) k ∧ Below w.heap.size w wr) (fun i _ => g.length - (intOf i).toNat)
  case atStart => exact ⟨0, by omega, rfl, upto_zero _, Below.refl _ _⟩
  case round =>
    obtain ⟨k, hk, rfl, hup, hbel⟩ := hrel
    have Hup := Lib.hid hup; clear hup
    by_cases hlt : k < g.length
    · obtain ⟨b, off, rfl, hb, hat⟩ := (Hg.out.under hbel).at (by omega)
      obtain ⟨c0, c1, ⟨pa, pc, c2, _⟩, c3⟩ := hat k hlt
      have hgk := getV hlt
      have HT := Lib.hid (find_test g[k] pa pc r a Br Ba wr ((hbel.block _ Hr.out.lt).trans Hr.out) ((hbel.block _ Ha.out.lt).trans Ha.out))
      have Hbel := Lib.hid hbel
      cases hs : sameRA r a g[k] with
      | true =>
        have Hz := Lib.hid (findZ_yes hlt Hup.out hs)
        rw [hs] at HT
        clear hat hbel hgk hs
        generalize g[k] = x at *
        obtain ⟨xr, xa, xp, xd⟩ := x
        dsimp only at *
        go_wp2_with fail
        refine HT.out.mono ?_
        rintro e w2 ⟨rfl, hb2⟩
        have Hb2 := Lib.hid (below_step Hbel.out Hbel.out.size hb2)
        clear hb2 c0 c1 c2 c3
        go_wp2
        go_ret
        exact ⟨by rw [Hz.out]; rfl, Hb2.out⟩
      | false =>
        have Hup' := Lib.hid (upto_step Hup.out (k := k) (by simp only [hgk]; simpa using hs))
        rw [hs] at HT
        clear hat hbel hgk hs
        generalize g[k] = x at *
        obtain ⟨xr, xa, xp, xd⟩ := x
        dsimp only at *
        go_wp2_with fail
        refine HT.out.mono ?_
        rintro e w2 ⟨rfl, hb2⟩
        have Hb2 := Lib.hid (below_step Hbel.out Hbel.out.size hb2)
        clear hb2 c0 c1 c2 c3
        go_wp2
        go_roundw
        case rel => exact ⟨k + 1, by omega, by go_num, Hup'.out, Hb2.out⟩
        case measure => simp [intOf]; omega
    · have hz := findZ_no Hup.out (by omega)
      go_wp2
      go_ret
      exact ⟨by rw [hz]; rfl, hbel⟩

theorem impl_GraphFind' (ac : Option Addr) (capc : Nat) (c : List Int) (g : List Vx) (v : Value) (fp : List Nat) (r a : Int) (w : World) (hn : c.length ≤ 1099511627776) (hbig : g.length ≤ 1048576) (hps : ∀ x ∈ g, x.ps.length ≤ 1099511627776) (hc : IntsAt w ac c) (hg : Gr w g v fp) :
    Calls Tryd.prog 13 #[.slice ac c.length capc, v, .int .i64 r, .int .i64 a] w fun e w' => e = .returned (.int .i64 (gfZ c g r a)) ∧ Below w.heap.size w w' := by
  have hb0 : Below w.heap.size w ((w.alloc (.cells #[.int .i64 r] 3)).alloc (.cells #[.int .i64 a] 3)) := ((Below.refl _ w).alloc (Nat.le_refl _) _).alloc (by simp) _
  have s0 := (Str.new w 3 #[.int .i64 r]).alloc (.cells #[.int .i64 a] 3)
  have s1 := Str.new (w.alloc (.cells #[.int .i64 r] 3)) 3 #[.int .i64 a]
  rw [show (w.alloc (.cells #[.int .i64 r] 3)).heap.size = w.heap.size + 1 by simp] at s1
  have hgW := hg.under hb0
  have H := Lib.hid (impl_GraphValid' ac capc c g v fp _ hn hbig hps (hc.below hb0) hgW)
  have Hb0 := Lib.hid hb0
  cases h : graphB c g with
  | false =>
    have Hz := Lib.hid (show gfZ c g r a = -1 by unfold gfZ; rw [h]; rfl)
    rw [h] at H
    clear hc hg hgW hps h hb0 s0 s1
    go_enter Tryd.func13, Tryd.ntmps13
    go_wp2_with fail
    generalize (w.alloc (.cells #[.int .i64 r] 3)).alloc (.cells #[.int .i64 a] 3) = W0 at *
    refine H.out.mono ?_
    rintro e w1 ⟨rfl, hb⟩
    have Hb1 := Lib.hid (below_step Hb0.out Hb0.out.size hb); clear hb
    go_wp2
    go_ret
    exact ⟨by rw [Hz.out]; rfl, Hb1.out⟩
  | true =>
    have Hz := Lib.hid (show gfZ c g r a = findZ g r a by unfold gfZ; rw [h]; rfl)
    rw [h] at H
    have HF := Lib.hid (fun W (hW : Below ((w.alloc (.cells #[.int .i64 r] 3)).alloc (.cells #[.int .i64 a] 3)).heap.size ((w.alloc (.cells #[.int .i64 r] 3)).alloc (.cells #[.int .i64 a] 3)) W) =>
      lib_IndexFunc g v fp r a w.heap.size (w.heap.size + 1) W (by omega) (hgW.under hW) ((hW.block _ s0.lt).trans s0) ((hW.block _ s1.lt).trans s1))
    clear hc hg hgW hps h hb0 s0 s1
    go_enter Tryd.func13, Tryd.ntmps13
    go_wp2_with fail
    generalize (w.alloc (.cells #[.int .i64 r] 3)).alloc (.cells #[.int .i64 a] 3) = W0 at *
    refine H.out.mono ?_
    rintro e w1 ⟨rfl, hb⟩
    have HF1 := Lib.hid (HF.out w1 hb)
    have Hb1 := Lib.hid (below_step Hb0.out Hb0.out.size hb); clear hb
    go_wp2_with fail
    refine HF1.out.mono ?_
    rintro e w2 ⟨rfl, hb2⟩
    have Hb2 := Lib.hid (below_step Hb1.out Hb1.out.size hb2); clear hb2
    go_wp2
    go_ret
    exact ⟨by rw [Hz.out]; rfl, Hb2.out⟩

end Go.Proofs.YtjekgjlnaochiaaDoor

/- impl's WaveLeader, WaveVotes, WaveDirect and CommitWaves, each by a walk of its text; conditions: lists are shorter than 2^40 (a graph: 2^20). -/
namespace Go.Proofs.YtjekgjlnaochiaaDoor
open Go.RowKit

set_option maxRecDepth 8000 in
set_option maxHeartbeats 1000000 in
theorem impl_WaveLeader (ac : Option Addr) (capc : Nat) (c : List Int) (g : List Vx) (v : Value) (fp : List Nat) (al : Option Addr) (cap : Nat) (ls : List Int) (wave : Int) (eN eI : Addr) (w : World) (hn : c.length ≤ 1099511627776) (hbig : g.length ≤ 1048576) (hps : ∀ x ∈ g, x.ps.length ≤ 1099511627776) (hl : ls.length ≤ 1099511627776) (_hcc : c.length ≤ capc) (hc : IntsAt w ac c) (hg : Gr w g v fp) (_hlc : ls.length ≤ cap) (hi : IntsAt w al ls) (hs : Sen w eN eI) :
    Calls Tryd.prog 11 #[.slice ac c.length capc, v, .slice al ls.length cap, .int .i64 wave] w fun e w' => e = .returned (.int .i64 (wlZ c g ls wave)) ∧ Below w.heap.size w w' := by
  cases hw : waB c g ls with
  | false =>
    have H := Lib.hid (ledGraphOf_no ac capc c g v fp al cap ls eN eI w hn hbig hps hl hc hg hi hs hw)
    have hres := Lib.hid (show wlZ c g ls wave = -1 by unfold wlZ wlB; rw [hw]; rfl)
    clear hc hg hi hps hs hw
    go_enter Tryd.func11, Tryd.ntmps11
    go_wp2_with fail
    refine H.out.mono ?_
    rintro e w1 ⟨rfl, hb1⟩
    have Hb1 := Lib.hid hb1; clear hb1
    go_wp2
    go_ret
    exact ⟨by rw [hres.out]; rfl, Hb1.out⟩
  | true =>
  have ok := good21 hw hps
  have H := Lib.hid (ledGraphOf_yes ac capc c g v fp al cap ls w hn hbig hps hl hc hg hi hw)
  have Hs := Lib.hid hs
  have Hi := Lib.hid hi; have Hc := Lib.hid hc
  have HF := Lib.hid (fun (r a : Int) W (hb : Below w.heap.size w W) => impl_GraphFind' ac capc c g v fp r a W hn hbig hps (hc.below hb) (hg.under hb))
  have Hw := Lib.hid hw
  have Hok := Lib.hid ok
  have h15 := ok.l15
  clear hc hg hi hps hs hw ok
  go_enter Tryd.func11, Tryd.ntmps11
  go_wp2_with fail
  refine H.out.mono ?_
  rintro e w1 ⟨q, G, hi', h, rfl, hb1, hq, hL⟩
  have Hb1 := Lib.hid hb1
  have HL := Lib.hid hL
  have Hs1 := Lib.hid (Hs.out.below hb1)
  have Hi1 := Lib.hid (Hi.out.below hb1)
  have Hc1 := Lib.hid (Hc.out.below hb1)
  clear hb1 hL
  by_cases hr : 1 ≤ wave ∧ wave ≤ ls.length
  case neg =>
    have hres := Lib.hid (show wlZ c g ls wave = -1 by unfold wlZ wlB; rw [decide_eq_false hr, Bool.and_false]; rfl)
    go_wp2_with fail
    refine (led_leader_bad HL.out Hs1.out wave h15 hr).mono ?_
    rintro e w2 ⟨rfl, hd2⟩
    have Hb2 := Lib.hid (below_step Hb1.out Hb1.out.size (hd2.below _))
    clear hd2
    go_wp2
    go_ret
    exact ⟨by rw [hres.out]; rfl, Hb2.out⟩
  have hres := Lib.hid (show wlZ c g ls wave = ldZ g ls wave.toNat by unfold wlZ wlB; rw [Hw.out, decide_eq_true hr]; rfl)
  obtain ⟨k, rfl⟩ : ∃ k : Nat, wave = k := ⟨wave.toNat, by omega⟩
  rw [Int.toNat_natCast] at hres
  have HD := Lib.hid (led_leader HL.out Hs1.out k (by omega) h15 Hok.out.l6 Hi1.out Hok.out.pl)
  clear hr
  go_wp2_with fail
  refine HD.out.mono ?_
  rintro e w2 ⟨hcase, hd2⟩
  have Hb2 := Lib.hid (below_step Hb1.out Hb1.out.size (hd2.below _))
  have HL2 := Lib.hid (HL.out.under (hd2.below _))
  clear hd2
  rcases hcase with ⟨hz, rfl⟩ | ⟨j, hj, p, hz, hp, rfl⟩
  · have hres := Lib.hid (hres.out.trans hz)
    clear hz
    go_wp2
    go_ret
    exact ⟨by rw [hres.out]; rfl, Hb2.out⟩
  have hfd : gfZ c g g[j].r g[j].a = j := by
    unfold gfZ
    rw [if_pos Hok.out.gb]
    obtain ⟨k', hk', e, e2⟩ := findZ_mem Hok.out.srt (List.getElem_mem hj)
    rw [e, pair_uni Hok.out.srt hk' hj (by rw [e2]) (by rw [e2])]
  have Hres := Lib.hid (hres.out.trans (hz.trans hfd.symm))
  have Hpp : Hid (∃ pa pc pv, Str w2 p 56 #[.int .i64 g[j].r, .int .i64 g[j].a, .slice pa g[j].ps.length pc, .int .i64 g[j].d, pv] ∧ p < hi') := by
    obtain ⟨p', hp', n⟩ := HL2.out.lk.has g[j] (List.getElem_mem hj)
    rw [hp] at hp'
    have e : p = p' := by unfold ptrV at hp'; simpa using hp'
    subst e
    obtain ⟨pa, pc, pv, _, s, _⟩ := n.ex
    exact Lib.hid ⟨pa, pc, pv, s, n.lt⟩
  obtain ⟨pa, pc, pv, sp, hlt⟩ := Hpp.out
  have c0 := sp.cell 0 (v := .int .i64 g[j].r) rfl
  have c1 := sp.cell 1 (v := .int .i64 g[j].a) rfl
  have hplt := sp.lt
  have HFj := Lib.hid (HF.out g[j].r g[j].a)
  clear hz hp hfd sp Hpp hres
  generalize g[j].r = R at *
  generalize g[j].a = A at *
  go_wp2_with fail
  refine wp_region_held_drew (S := fun W => Below w.heap.size w W ∧ W.cell? ⟨p, 0, none⟩ = some (.int .i64 R) ∧ W.cell? ⟨p, 1, none⟩ = some (.int .i64 A) ∧ p < W.heap.size) (by kernel_rfl) ⟨Hb2.out.drew, c0, c1, hplt⟩ (fun hH => ?_)
  refine takeH 0 (v := ?vwl1) rfl (by kernel_rfl) (by kernel_rfl) (by kernel_rfl) (fun _ _ _ h => h) hH rfl ?ywl1 ?rwl1
  case ywl1 => intro W hSw; go_simp; try with_reducible rfl
  try simp only [Act.put, List.setIfInBounds_toArray, List.set_cons_zero, List.set_cons_succ]
  refine takeH 1 (v := ?vwl2) rfl (by kernel_rfl) (by kernel_rfl) (by kernel_rfl) (fun _ _ _ h => h) hH rfl ?ywl2 ?rwl2
  case ywl2 => intro W hSw; go_simp; try with_reducible rfl
  try simp only [Act.put, List.setIfInBounds_toArray, List.set_cons_zero, List.set_cons_succ]
  refine takeH 2 (v := ?vwl3) rfl (by kernel_rfl) (by kernel_rfl) (by kernel_rfl) (fun _ _ _ h => h) hH rfl ?ywl3 ?rwl3
  case ywl3 => intro W hSw; go_simp; try with_reducible rfl
  try simp only [Act.put, List.setIfInBounds_toArray, List.set_cons_zero, List.set_cons_succ]
  refine takeH 3 (v := ?vwl4) rfl (by kernel_rfl) (by kernel_rfl) (by kernel_rfl) (fun _ _ _ h => h) hH rfl ?ywl4 ?rwl4
  case ywl4 => intro W hSw; go_simp; try with_reducible rfl
  try simp only [Act.put, List.setIfInBounds_toArray, List.set_cons_zero, List.set_cons_succ]
  refine takeH 4 (v := ?vwl5) rfl (by kernel_rfl) (by kernel_rfl) (by kernel_rfl) (fun _ _ _ h => h) hH rfl ?ywl5 ?rwl5
  case ywl5 => intro W hSw; go_simp; try with_reducible rfl
  try simp only [Act.put, List.setIfInBounds_toArray, List.set_cons_zero, List.set_cons_succ]
  refine takeH 5 (v := ?vwl6) rfl (by kernel_rfl) (by kernel_rfl) (by kernel_rfl) (fun _ _ _ h => h) hH rfl ?ywl6 ?rwl6
  case ywl6 => intro W hSw; go_simp; try with_reducible rfl
  try simp only [Act.put, List.setIfInBounds_toArray, List.set_cons_zero, List.set_cons_succ]
  refine takeH 6 (v := ?vwl7) rfl (by kernel_rfl) (by kernel_rfl) (by kernel_rfl) (fun _ _ _ h => h) hH rfl ?ywl7 ?rwl7
  case ywl7 => intro W hSw; go_simp; try with_reducible rfl
  try simp only [Act.put, List.setIfInBounds_toArray, List.set_cons_zero, List.set_cons_succ]
  refine takeH 7 (v := ?vwl8) rfl (by kernel_rfl) (by kernel_rfl) (by kernel_rfl) (fun _ _ _ h => h) hH rfl ?ywl8 ?rwl8
  case ywl8 => intro W hSw; go_simp; try with_reducible rfl
  try simp only [Act.put, List.setIfInBounds_toArray, List.set_cons_zero, List.set_cons_succ]
  refine takeH 8 (v := ?vwl9) rfl (by kernel_rfl) (by kernel_rfl) (by kernel_rfl) (fun _ _ _ h => h) hH rfl ?ywl9 ?rwl9
  case ywl9 => intro W hSw; go_simp; try with_reducible rfl
  try simp only [Act.put, List.setIfInBounds_toArray, List.set_cons_zero, List.set_cons_succ]
  refine takeH 9 (v := ?vwl10) rfl (by kernel_rfl) (by kernel_rfl) (by kernel_rfl) (fun _ _ _ h => h) hH rfl ?ywl10 ?rwl10
  case ywl10 => intro W hSw; go_simp; try with_reducible rfl
  try simp only [Act.put, List.setIfInBounds_toArray, List.set_cons_zero, List.set_cons_succ]
  refine takeH 10 (v := ?vwl11) rfl (by kernel_rfl) (by kernel_rfl) (by kernel_rfl) (fun _ _ _ h => h) hH rfl ?ywl11 ?rwl11
  case ywl11 => intro W hSw; go_simp; try with_reducible rfl
  try simp only [Act.put, List.setIfInBounds_toArray, List.set_cons_zero, List.set_cons_succ]
  refine takeH 11 (v := ?vwl12) rfl (by kernel_rfl) (by kernel_rfl) (by kernel_rfl) (fun _ _ _ h => h) hH rfl ?ywl12 ?rwl12
  case ywl12 => intro W hSw; go_simp; try with_reducible rfl
  try simp only [Act.put, List.setIfInBounds_toArray, List.set_cons_zero, List.set_cons_succ]
  refine callH 12 rfl (by kernel_rfl) rfl (fun K hK => ?_)
  go_simp
  go_at_call 13
  refine (HFj.out _ hH.1).mono ?_
  rintro e wz ⟨rfl, hbz⟩
  refine hK.out _ _ ⟨below_step hH.1 hH.1.size hbz, (hbz.cell (p := ⟨p, 0, none⟩) hH.2.2.2).trans hH.2.1, (hbz.cell (p := ⟨p, 1, none⟩) hH.2.2.2).trans hH.2.2.1, Nat.lt_of_lt_of_le hH.2.2.2 hbz.size⟩ (fun hH => ?_)
  clear hK K
  try simp only [Act.put, List.setIfInBounds_toArray, List.set_cons_zero, List.set_cons_succ]
  have Hbz := Lib.hid hH.1
  refine takeH 13 (v := ?vz) rfl (by kernel_rfl) (by kernel_rfl) (by kernel_rfl) (fun _ _ _ h => h) hH rfl ?yz ?rz
  case yz => intro W hSw; go_simp; try with_reducible rfl
  try simp only [Act.put, List.setIfInBounds_toArray, List.set_cons_zero, List.set_cons_succ]
  refine wpAnyH_done (by kernel_rfl) ?_ _
  try simp only [Act.put]
  clear hH
  go_wp2
  go_ret
  exact ⟨by rw [Hres.out]; rfl, Hbz.out⟩

set_option maxRecDepth 8000 in
set_option maxHeartbeats 1000000 in
theorem impl_WaveVotes (ac : Option Addr) (capc : Nat) (c : List Int) (g : List Vx) (v : Value) (fp : List Nat) (al : Option Addr) (cap : Nat) (ls : List Int) (wave : Int) (eN eI : Addr) (w : World) (hn : c.length ≤ 1099511627776) (hbig : g.length ≤ 1048576) (hps : ∀ x ∈ g, x.ps.length ≤ 1099511627776) (hl : ls.length ≤ 1099511627776) (_hcc : c.length ≤ capc) (hc : IntsAt w ac c) (hg : Gr w g v fp) (_hlc : ls.length ≤ cap) (hi : IntsAt w al ls) (hs : Sen w eN eI) :
    Calls Tryd.prog 15 #[.slice ac c.length capc, v, .slice al ls.length cap, .int .i64 wave] w fun e w' => e = .returned (.int .i64 (wvZ c g ls wave)) ∧ Below w.heap.size w w' := by
  cases hw : waB c g ls with
  | false =>
    have H := Lib.hid (ledGraphOf_no ac capc c g v fp al cap ls eN eI w hn hbig hps hl hc hg hi hs hw)
    have hres := Lib.hid (show wvZ c g ls wave = -1 by unfold wvZ wlB; rw [hw]; rfl)
    clear hc hg hi hps hs hw
    go_enter Tryd.func15, Tryd.ntmps15
    go_wp2_with fail
    refine H.out.mono ?_
    rintro e w1 ⟨rfl, hb1⟩
    have Hb1 := Lib.hid hb1; clear hb1
    go_wp2
    go_ret
    exact ⟨by rw [hres.out]; rfl, Hb1.out⟩
  | true =>
  have ok := good21 hw hps
  have H := Lib.hid (ledGraphOf_yes ac capc c g v fp al cap ls w hn hbig hps hl hc hg hi hw)
  have Hs := Lib.hid hs
  have Hi := Lib.hid hi; have Hc := Lib.hid hc
  have Hw := Lib.hid hw
  have Hok := Lib.hid ok
  have h15 := ok.l15
  clear hc hg hi hps hs hw ok
  go_enter Tryd.func15, Tryd.ntmps15
  go_wp2_with fail
  refine H.out.mono ?_
  rintro e w1 ⟨q, G, hi', h, rfl, hb1, hq, hL⟩
  have Hb1 := Lib.hid hb1
  have HL := Lib.hid hL
  have Hs1 := Lib.hid (Hs.out.below hb1)
  have Hi1 := Lib.hid (Hi.out.below hb1)
  have Hc1 := Lib.hid (Hc.out.below hb1)
  clear hb1 hL
  by_cases hr : 1 ≤ wave ∧ wave ≤ ls.length
  case neg =>
    have hres := Lib.hid (show wvZ c g ls wave = -1 by unfold wvZ wlB; rw [decide_eq_false hr, Bool.and_false]; rfl)
    go_wp2_with fail
    refine (led_votes_bad HL.out Hs1.out wave h15 hr).mono ?_
    rintro e w2 ⟨rfl, hd2⟩
    have hs2 := Hs1.out.below (hd2.below _)
    have hgN := hs2.gN
    have Hb2 := Lib.hid (below_step Hb1.out Hb1.out.size (hd2.below _))
    obtain ⟨cN, tN, hbN⟩ := hs2.bN
    obtain ⟨cI, tI, hbI⟩ := hs2.bI
    have HO := Lib.hid (is_other eI eN cI cN tI tN w2 (fun e => hs2.ne e.symm) hbI hbN)
    clear hd2 hs2 hbN hbI
    go_wp2_with fail
    refine HO.out.mono ?_
    rintro e w3 ⟨rfl, rfl⟩
    go_wp2
    go_ret
    exact ⟨by rw [hres.out]; rfl, Hb2.out⟩
  have hres := Lib.hid (show wvZ c g ls wave = voZ c g ls wave.toNat by unfold wvZ wlB; rw [Hw.out, decide_eq_true hr]; rfl)
  obtain ⟨k, rfl⟩ : ∃ k : Nat, wave = k := ⟨wave.toNat, by omega⟩
  rw [Int.toNat_natCast] at hres
  have HD := Lib.hid (led_votes HL.out Hs1.out k (by omega) Hok.out hbig Hc1.out Hi1.out)
  clear hr
  go_wp2_with fail
  refine HD.out.mono ?_
  rintro e w2 ⟨hcase, hd2⟩
  have hs2 := Hs1.out.below (hd2.below _)
  have hgN := hs2.gN
  have Hb2 := Lib.hid (below_step Hb1.out Hb1.out.size (hd2.below _))
  clear hd2 hs2
  rcases hcase with ⟨hz, rfl⟩ | ⟨hz, rfl⟩
  · have hres := Lib.hid (hres.out.trans (show voZ c g ls k = 0 by unfold voZ; rw [if_neg (by omega)]))
    clear hz
    go_wp2_with fail
    refine (is_same eN w2).mono ?_
    rintro e w3 ⟨rfl, rfl⟩
    go_wp2
    go_ret
    exact ⟨by rw [hres.out]; rfl, Hb2.out⟩
  · clear hz
    generalize voZ c g ls k = V at *
    go_wp2_with fail
    refine (is_nil eN w2).mono ?_
    rintro e w3 ⟨rfl, rfl⟩
    go_wp2
    go_ret
    exact ⟨by rw [hres.out]; rfl, Hb2.out⟩

set_option maxRecDepth 8000 in
set_option maxHeartbeats 1000000 in
theorem impl_WaveDirect (ac : Option Addr) (capc : Nat) (c : List Int) (g : List Vx) (v : Value) (fp : List Nat) (al : Option Addr) (cap : Nat) (ls : List Int) (wave : Int) (eN eI : Addr) (w : World) (hn : c.length ≤ 1099511627776) (hbig : g.length ≤ 1048576) (hps : ∀ x ∈ g, x.ps.length ≤ 1099511627776) (hl : ls.length ≤ 1099511627776) (_hcc : c.length ≤ capc) (hc : IntsAt w ac c) (hg : Gr w g v fp) (_hlc : ls.length ≤ cap) (hi : IntsAt w al ls) (hs : Sen w eN eI) :
    Calls Tryd.prog 19 #[.slice ac c.length capc, v, .slice al ls.length cap, .int .i64 wave] w fun e w' => e = .returned (.bool (wdB c g ls wave)) ∧ Below w.heap.size w w' := by
  cases hw : waB c g ls with
  | false =>
    have H := Lib.hid (ledGraphOf_no ac capc c g v fp al cap ls eN eI w hn hbig hps hl hc hg hi hs hw)
    have hres := Lib.hid (show wdB c g ls wave = false by unfold wdB wlB; rw [hw]; rfl)
    clear hc hg hi hps hs hw
    go_enter Tryd.func19, Tryd.ntmps19
    go_wp2_with fail
    refine H.out.mono ?_
    rintro e w1 ⟨rfl, hb1⟩
    have Hb1 := Lib.hid hb1; clear hb1
    go_wp2
    go_ret
    exact ⟨by rw [hres.out]; rfl, Hb1.out⟩
  | true =>
  have ok := good21 hw hps
  have H := Lib.hid (ledGraphOf_yes ac capc c g v fp al cap ls w hn hbig hps hl hc hg hi hw)
  have Hs := Lib.hid hs
  have Hi := Lib.hid hi; have Hc := Lib.hid hc
  have Hw := Lib.hid hw
  have Hok := Lib.hid ok
  have h15 := ok.l15
  clear hc hg hi hps hs hw ok
  go_enter Tryd.func19, Tryd.ntmps19
  go_wp2_with fail
  refine H.out.mono ?_
  rintro e w1 ⟨q, G, hi', h, rfl, hb1, hq, hL⟩
  have Hb1 := Lib.hid hb1
  have HL := Lib.hid hL
  have Hs1 := Lib.hid (Hs.out.below hb1)
  have Hi1 := Lib.hid (Hi.out.below hb1)
  have Hc1 := Lib.hid (Hc.out.below hb1)
  clear hb1 hL
  by_cases hr : 1 ≤ wave ∧ wave ≤ ls.length
  case neg =>
    have hres := Lib.hid (show wdB c g ls wave = false by unfold wdB wlB; rw [decide_eq_false hr, Bool.and_false]; rfl)
    go_wp2_with fail
    refine (led_direct_bad HL.out Hs1.out wave h15 hr).mono ?_
    rintro e w2 ⟨rfl, hd2⟩
    have Hb2 := Lib.hid (below_step Hb1.out Hb1.out.size (hd2.below _))
    clear hd2
    go_wp2
    go_ret
    exact ⟨by rw [hres.out]; rfl, Hb2.out⟩
  have hres := Lib.hid (show wdB c g ls wave = decide (totalZ c / 3 + 1 ≤ voZ c g ls wave.toNat) by unfold wdB wlB; rw [Hw.out, decide_eq_true hr]; rfl)
  obtain ⟨k, rfl⟩ : ∃ k : Nat, wave = k := ⟨wave.toNat, by omega⟩
  rw [Int.toNat_natCast] at hres
  have HD := Lib.hid (led_direct HL.out Hs1.out k (by omega) Hok.out hbig Hc1.out Hi1.out)
  clear hr
  generalize decide (totalZ c / 3 + 1 ≤ voZ c g ls k) = B at *
  go_wp2_with fail
  refine HD.out.mono ?_
  rintro e w2 ⟨rfl, hd2⟩
  have Hb2 := Lib.hid (below_step Hb1.out Hb1.out.size (hd2.below _))
  clear hd2
  go_wp2
  go_ret
  exact ⟨by rw [hres.out]; rfl, Hb2.out⟩

set_option maxRecDepth 8000 in
set_option maxHeartbeats 1000000 in
theorem impl_CommitWaves (ac : Option Addr) (capc : Nat) (c : List Int) (g : List Vx) (v : Value) (fp : List Nat) (al : Option Addr) (cap : Nat) (ls : List Int) (eN eI : Addr) (w : World) (hn : c.length ≤ 1099511627776) (hbig : g.length ≤ 1048576) (hps : ∀ x ∈ g, x.ps.length ≤ 1099511627776) (hl : ls.length ≤ 1099511627776) (_hcc : c.length ≤ capc) (hc : IntsAt w ac c) (hg : Gr w g v fp) (_hlc : ls.length ≤ cap) (hi : IntsAt w al ls) (hs : Sen w eN eI) :
    Calls Tryd.prog 23 #[.slice ac c.length capc, v, .slice al ls.length cap] w fun e w' => ∃ u, e = .returned u ∧ Own 3 w' w.heap.size u (cwZ c g ls) ∧ Below w.heap.size w w' := by
  cases hw : waB c g ls with
  | false =>
    have H := Lib.hid (ledGraphOf_no ac capc c g v fp al cap ls eN eI w hn hbig hps hl hc hg hi hs hw)
    have hres := Lib.hid (show cwZ c g ls = [] by unfold cwZ; rw [hw]; rfl)
    clear hc hg hi hps hs hw
    go_enter Tryd.func23, Tryd.ntmps23
    go_wp2_with fail
    refine H.out.mono ?_
    rintro e w1 ⟨rfl, hb1⟩
    have Hb1 := Lib.hid hb1
    have Ho := Lib.hid (own_empty 3 w1 hb1.size)
    have hal : Below w1.heap.size w1 (w1.alloc (.cells #[] 3)) := (Below.refl _ _).alloc (Nat.le_refl _) _
    have Hal := Lib.hid hal
    clear hb1 hal
    go_wp2
    go_ret
    exact ⟨_, rfl, by rw [hres.out]; exact Ho.out, below_step Hb1.out Hb1.out.size Hal.out⟩
  | true =>
  have ok := good21 hw hps
  have H := Lib.hid (ledGraphOf_yes ac capc c g v fp al cap ls w hn hbig hps hl hc hg hi hw)
  have Hs := Lib.hid hs
  have Hi := Lib.hid hi; have Hc := Lib.hid hc
  have Hw := Lib.hid hw
  have Hok := Lib.hid ok
  have h15 := ok.l15
  clear hc hg hi hps hs hw ok
  go_enter Tryd.func23, Tryd.ntmps23
  go_wp2_with fail
  refine H.out.mono ?_
  rintro e w1 ⟨q, G, hi', h, rfl, hb1, hq, hL⟩
  have Hb1 := Lib.hid hb1
  have HL := Lib.hid hL
  have Hs1 := Lib.hid (Hs.out.below hb1)
  have Hi1 := Lib.hid (Hi.out.below hb1)
  have Hc1 := Lib.hid (Hc.out.below hb1)
  clear hb1 hL
  have hres := Lib.hid (show cwZ c g ls = (wvs c g ls ls.length).1 by unfold cwZ; rw [Hw.out]; rfl)
  have HD := Lib.hid (led_committed HL.out Hs1.out Hok.out hbig Hc1.out Hi1.out)
  go_wp2_with fail
  refine HD.out.mono ?_
  rintro e w2 ⟨u, rfl, ho2, hb2⟩
  have Ho2 := Lib.hid (ho2.mono Hb1.out.size)
  have Hb2 := Lib.hid (below_step Hb1.out Hb1.out.size hb2)
  clear ho2 hb2
  go_wp2
  go_ret
  exact ⟨u, rfl, by rw [hres.out]; exact Ho2.out, Hb2.out⟩

end Go.Proofs.YtjekgjlnaochiaaDoor

/- Plain facts of the laws of waves; nothing here is walked. -/
namespace Go.Proofs.YtjekgjlnaochiaaDoor
open Go.RowKit

theorem wl_ok {c : List Int} {g : List Vx} {ls : List Int} {wave : Int} (h : wlB c g ls wave = true) : waB c g ls = true ∧ 1 ≤ wave ∧ wave ≤ ls.length := by
  unfold wlB at h; simp only [Bool.and_eq_true, decide_eq_true_eq] at h; exact ⟨h.1, h.2.1, h.2.2⟩
theorem wa_valid {c : List Int} {g : List Vx} {ls : List Int} (h : waB c g ls = true) : validB c = true := by
  unfold waB graphB at h; simp only [Bool.and_eq_true] at h; exact h.1.1
theorem wd_votes (c : List Int) (g : List Vx) (ls : List Int) (wave : Int) : wdB c g ls wave = (decide (0 ≤ wvZ c g ls wave) && decide (orNo c (totalZ c / 3 + 1) ≤ wvZ c g ls wave)) := by
  unfold wdB wvZ
  cases h : wlB c g ls wave with
  | false => simp
  | true =>
    have hv := wa_valid (wl_ok h).1
    have hp := voZ_pos (c := c) (g := g) (ls := ls) (k := wave.toNat) hv
    rw [orNo_yes hv]
    simp [hp]
theorem validB_of_graph {c : List Int} {g : List Vx} (h : graphB c g = true) : validB c = true := by unfold graphB at h; simp only [Bool.and_eq_true] at h; exact h.1

end Go.Proofs.YtjekgjlnaochiaaDoor

/- The waves that are committed, as chains of links back from the last one that is committed directly; plain facts on lists, nothing here speaks of the program. -/
namespace Go.Proofs.YtjekgjlnaochiaaDoor
open Go.RowKit

/-- The waves from x down to behind lo that are linked, back from cur, in ascending order. -/
def chF (lk : Nat → Nat → Bool) (lo : Nat) : Nat → Nat → List Nat
  | 0, _ => []
  | x + 1, cur => if x + 1 ≤ lo then [] else if lk cur (x + 1) then chF lk lo x (x + 1) ++ [x + 1] else chF lk lo x cur
def fuW (lk : Nat → Nat → Bool) (w : Nat) : List Nat := chF lk 0 (w - 1) w ++ [w]
def lkB (g : List Vx) (ls : List Int) (cur x : Nat) : Bool := linkB g ls (ldZ g ls cur) x
theorem chF_done {lk : Nat → Nat → Bool} {lo x cur : Nat} (h : x ≤ lo) : chF lk lo x cur = [] := by
  cases x with
  | zero => rfl
  | succ x => unfold chF; rw [if_pos h]
theorem chZ_chF (g : List Vx) (ls : List Int) (lo : Nat) : ∀ (x cur : Nat) (ch : List Int), chZ g ls lo x ch (ldZ g ls cur) = (chF (lkB g ls) lo x cur).map Int.ofNat ++ ch
  | 0, cur, ch => by simp [chZ, chF]
  | x + 1, cur, ch => by
    unfold chZ chF
    by_cases h1 : x + 1 ≤ lo
    · rw [if_pos h1, if_pos h1]; rfl
    · rw [if_neg h1, if_neg h1]
      cases h2 : lkB g ls cur (x + 1) with
      | true =>
        have h2' : linkB g ls (ldZ g ls cur) (x + 1) = true := h2
        rw [if_pos h2', if_pos rfl, chZ_chF g ls lo x (x + 1)]
        simp
      | false =>
        have h2' : ¬ linkB g ls (ldZ g ls cur) (x + 1) = true := by
          intro h; have : lkB g ls cur (x + 1) = true := h; rw [h2] at this; cases this
        rw [if_neg h2', if_neg (by simp), chZ_chF g ls lo x cur]
/-- A link leads to a wave with a leader vertex. -/
theorem lk_has {g : List Vx} {ls : List Int} {cur x : Nat} (h : lkB g ls cur x = true) : 0 ≤ ldZ g ls x := by
  unfold lkB linkB at h; simp only [Bool.and_eq_true, decide_eq_true_eq] at h; exact h.1
section
variable {lk : Nat → Nat → Bool} {has : Nat → Prop}
/-- Where every later leader reaches the leader of wave m, the chain goes through m. -/
theorem chF_split (hlk : ∀ u x, lk u x = true → has x) {m : Nat} (hm : 1 ≤ m) (hD : ∀ u, m < u → has u → lk u m = true) : ∀ (x cur : Nat), m ≤ x → x < cur → has cur → chF lk 0 x cur = fuW lk m ++ chF lk m x cur
  | 0, cur, h, _, _ => by omega
  | x + 1, cur, h, hc, hh => by
    by_cases e : x + 1 = m
    · have h1 := hD cur (by omega) hh
      rw [← e] at h1
      rw [show chF lk m (x + 1) cur = [] from chF_done (by omega), List.append_nil]
      rw [chF, if_neg (by omega), if_pos h1]
      unfold fuW
      rw [← e]
      rfl
    · have ih1 := chF_split hlk hm hD x (x + 1) (by omega) (by omega)
      have ih2 := chF_split hlk hm hD x cur (by omega) (by omega) hh
      have e1 : chF lk 0 (x + 1) cur = if lk cur (x + 1) then chF lk 0 x (x + 1) ++ [x + 1] else chF lk 0 x cur := by rw [chF, if_neg (by omega)]
      have e2 : chF lk m (x + 1) cur = if lk cur (x + 1) then chF lk m x (x + 1) ++ [x + 1] else chF lk m x cur := by rw [chF, if_neg (by omega)]
      rw [e1, e2]
      cases h2 : lk cur (x + 1) with
      | true =>
        rw [if_pos rfl, if_pos rfl, ih1 (hlk _ _ h2), List.append_assoc]
      | false => rw [if_neg (by simp), if_neg (by simp), ih2]
theorem fuW_split (hlk : ∀ u x, lk u x = true → has x) {m w : Nat} (hm : 1 ≤ m) (hw : m < w) (hD : ∀ u, m < u → has u → lk u m = true) (hh : has w) : fuW lk w = fuW lk m ++ chF lk m (w - 1) w ++ [w] := by
  rw [show fuW lk w = chF lk 0 (w - 1) w ++ [w] from rfl, chF_split hlk hm hD (w - 1) w (by omega) (by omega) hh]
theorem fuW_pre (hlk : ∀ u x, lk u x = true → has x) {m w : Nat} (hm : 1 ≤ m) (hw : m ≤ w) (hD : ∀ u, m < u → has u → lk u m = true) (hh : has w) : fuW lk m <+: fuW lk w := by
  by_cases e : m = w
  · rw [e]; exact List.prefix_refl _
  · rw [fuW_split hlk hm (by omega) hD hh, List.append_assoc]; exact List.prefix_append _ _
/-- Two relations that agree on what has a leader vertex make the same chains. -/
theorem chF_same {lk' : Nat → Nat → Bool} {has' : Nat → Prop} (hlk' : ∀ u x, lk' u x = true → has' x) (he : ∀ u x, has' u → lk' u x = lk u x) (lo : Nat) : ∀ x cur, has' cur → chF lk' lo x cur = chF lk lo x cur
  | 0, _, _ => rfl
  | x + 1, cur, hh => by
    unfold chF
    rw [← he cur (x + 1) hh]
    by_cases h1 : x + 1 ≤ lo
    · rw [if_pos h1, if_pos h1]
    · rw [if_neg h1, if_neg h1]
      cases h2 : lk' cur (x + 1) with
      | true => rw [if_pos rfl, if_pos rfl, chF_same hlk' he lo x (x + 1) (hlk' _ _ h2)]
      | false => rw [if_neg (by simp), if_neg (by simp), chF_same hlk' he lo x cur hh]
/-- What stands in a chain: in order, below cur, each with a leader vertex; and each is linked to by the next. -/
theorem chF_mem (hlk : ∀ u x, lk u x = true → has x) (lo : Nat) : ∀ x cur, x < cur → ∀ y ∈ chF lk lo x cur, lo < y ∧ y ≤ x ∧ has y
  | 0, _, _, y, hy => by simp [chF] at hy
  | x + 1, cur, hc, y, hy => by
    unfold chF at hy
    by_cases h1 : x + 1 ≤ lo
    · rw [if_pos h1] at hy; cases hy
    · rw [if_neg h1] at hy
      cases h2 : lk cur (x + 1) with
      | true =>
        rw [h2, if_pos rfl] at hy
        rcases List.mem_append.1 hy with h | h
        · have := chF_mem hlk lo x (x + 1) (by omega) y h; exact ⟨this.1, by omega, this.2.2⟩
        · have : y = x + 1 := by simpa using h
          subst this
          exact ⟨by omega, Nat.le_refl _, hlk _ _ h2⟩
      | false =>
        rw [h2, if_neg (by simp)] at hy
        have := chF_mem hlk lo x cur (by omega) y hy; exact ⟨this.1, by omega, this.2.2⟩
theorem chF_asc (hlk : ∀ u x, lk u x = true → has x) (lo : Nat) : ∀ x cur, x < cur → (chF lk lo x cur).Pairwise (· < ·)
  | 0, _, _ => by simp [chF]
  | x + 1, cur, hc => by
    unfold chF
    by_cases h1 : x + 1 ≤ lo
    · rw [if_pos h1]; exact .nil
    · rw [if_neg h1]
      cases h2 : lk cur (x + 1) with
      | true =>
        rw [if_pos rfl]
        refine List.pairwise_append.2 ⟨chF_asc hlk lo x (x + 1) (by omega), by simp, fun a ha b hb => ?_⟩
        have := (chF_mem hlk lo x (x + 1) (by omega) a ha).2.1
        have : b = x + 1 := by simpa using hb
        omega
      | false => rw [if_neg (by simp)]; exact chF_asc hlk lo x cur (by omega)
/-- Each is linked to by the next one. -/
def Lkd (lk : Nat → Nat → Bool) : List Nat → Prop
  | a :: b :: r => lk b a = true ∧ Lkd lk (b :: r)
  | _ => True
theorem lkd_snoc {lk : Nat → Nat → Bool} : ∀ (l : List Nat) (a b : Nat), Lkd lk (l ++ [a]) → lk b a = true → Lkd lk (l ++ [a] ++ [b])
  | [], _, _, _, h => ⟨h, trivial⟩
  | [_], _, _, h1, h => ⟨h1.1, h, trivial⟩
  | _ :: d :: l, a, b, h1, h => ⟨h1.1, lkd_snoc (d :: l) a b h1.2 h⟩
theorem chF_lkd (lo : Nat) : ∀ x cur, Lkd lk (chF lk lo x cur ++ [cur])
  | 0, _ => trivial
  | x + 1, cur => by
    unfold chF
    by_cases h1 : x + 1 ≤ lo
    · rw [if_pos h1]; trivial
    · rw [if_neg h1]
      cases h2 : lk cur (x + 1) with
      | true => rw [if_pos rfl]; exact lkd_snoc _ _ _ (chF_lkd lo x (x + 1)) h2
      | false => rw [if_neg (by simp)]; exact chF_lkd lo x cur
theorem lkd_at {lk : Nat → Nat → Bool} : ∀ (l : List Nat), Lkd lk l → ∀ i (h : i + 1 < l.length), lk l[i + 1] (l[i]'(by omega)) = true
  | [], _, i, h => by simp at h
  | [_], _, i, h => by simp at h
  | a :: b :: r, hl, 0, _ => hl.1
  | a :: b :: r, hl, i + 1, h => lkd_at (b :: r) hl.2 i (by simpa using h)
theorem fuW_asc (hlk : ∀ u x, lk u x = true → has x) {w : Nat} (hw : 1 ≤ w) : (fuW lk w).Pairwise (· < ·) := by
  refine List.pairwise_append.2 ⟨chF_asc hlk 0 (w - 1) w (by omega), by simp, fun a ha b hb => ?_⟩
  have := (chF_mem hlk 0 (w - 1) w (by omega) a ha).2.1
  have : b = w := by simpa using hb
  omega
theorem fuW_mem (hlk : ∀ u x, lk u x = true → has x) {w : Nat} (hw : 1 ≤ w) (hh : has w) : ∀ y ∈ fuW lk w, 1 ≤ y ∧ y ≤ w ∧ has y := by
  intro y hy
  rcases List.mem_append.1 hy with h | h
  · have := chF_mem hlk 0 (w - 1) w (by omega) y h; exact ⟨by omega, by omega, this.2.2⟩
  · have : y = w := by simpa using h
    subst this; exact ⟨hw, Nat.le_refl _, hh⟩
theorem fuW_lkd (w : Nat) : Lkd lk (fuW lk w) := chF_lkd 0 (w - 1) w
end

/-- Whether a wave is committed directly. -/
def dirB (c : List Int) (g : List Vx) (ls : List Int) (w : Nat) : Bool := decide (totalZ c / 3 + 1 ≤ voZ c g ls w)
theorem dir_has {c : List Int} {g : List Vx} {ls : List Int} {w : Nat} (hv : validB c = true) (h : dirB c g ls w = true) : 0 ≤ ldZ g ls w := by
  have h := of_decide_eq_true h
  have hb := totalZ_bd hv
  by_cases h0 : 0 ≤ ldZ g ls w
  · exact h0
  · unfold voZ at h; rw [if_neg h0] at h; omega
theorem wvs_no' {c : List Int} {g : List Vx} {ls : List Int} {m : Nat} (h : dirB c g ls (m + 1) = false) : wvs c g ls (m + 1) = wvs c g ls m := by
  have := of_decide_eq_false h
  exact wvs_no (by omega) (by omega)
theorem wvs_yes' {c : List Int} {g : List Vx} {ls : List Int} {m : Nat} (h : dirB c g ls (m + 1) = true) : wvs c g ls (m + 1) = ((wvs c g ls m).1 ++ chZ g ls (wvs c g ls m).2 m [((m + 1 : Nat) : Int)] (ldZ g ls (m + 1)), m + 1) := by
  have := of_decide_eq_true h
  exact wvs_yes (by omega) (by omega)
/-- The last wave among the first m that is committed directly: 0 if there is none. -/
theorem wvs_last {c : List Int} {g : List Vx} {ls : List Int} : ∀ m, (wvs c g ls m).2 ≤ m ∧ ((wvs c g ls m).2 = 0 ∨ dirB c g ls (wvs c g ls m).2 = true) ∧ ∀ w, 1 ≤ w → w ≤ m → dirB c g ls w = true → w ≤ (wvs c g ls m).2
  | 0 => ⟨Nat.le_refl _, .inl rfl, fun w h1 h2 => by omega⟩
  | m + 1 => by
    obtain ⟨i1, i2, i3⟩ := wvs_last (c := c) (g := g) (ls := ls) m
    cases h : dirB c g ls (m + 1) with
    | false =>
      rw [wvs_no' h]
      refine ⟨by omega, i2, fun w h1 h2 h3 => ?_⟩
      by_cases e : w = m + 1
      · rw [e, h] at h3; cases h3
      · exact i3 w h1 (by omega) h3
    | true =>
      rw [wvs_yes' h]
      exact ⟨Nat.le_refl _, .inr h, fun w _ h2 _ => h2⟩
/-- What is committed is the whole chain back from the last wave that is committed directly. -/
theorem wvs_full {c : List Int} {g : List Vx} {ls : List Int} (hv : validB c = true) (hR : ∀ m u, 1 ≤ m → dirB c g ls m = true → m < u → 0 ≤ ldZ g ls u → lkB g ls u m = true) : ∀ m, (wvs c g ls m).1 = if (wvs c g ls m).2 = 0 then [] else (fuW (lkB g ls) (wvs c g ls m).2).map Int.ofNat
  | 0 => rfl
  | m + 1 => by
    have ih := wvs_full hv hR m
    have hl := wvs_last (c := c) (g := g) (ls := ls) m
    cases h : dirB c g ls (m + 1) with
    | false => rw [wvs_no' h]; exact ih
    | true =>
      have hh := dir_has hv h
      rw [wvs_yes' h]
      show (wvs c g ls m).1 ++ chZ g ls (wvs c g ls m).2 m [((m + 1 : Nat) : Int)] (ldZ g ls (m + 1)) = if m + 1 = 0 then [] else _
      rw [if_neg (by omega), chZ_chF]
      by_cases h0 : (wvs c g ls m).2 = 0
      · rw [if_pos h0] at ih
        rw [ih, h0]; simp [fuW]
      · rw [if_neg h0] at ih
        have hd := hl.2.1.resolve_left h0
        rw [ih, fuW_split (lk := lkB g ls) (has := fun u => 0 ≤ ldZ g ls u) (m := (wvs c g ls m).2) (w := m + 1) (fun u x => lk_has) (by omega) (by omega) (fun u hu hh => hR _ u (by omega) hd hu hh) hh]
        simp

theorem cwZ_len (c : List Int) (g : List Vx) (ls : List Int) : (cwZ c g ls).length ≤ ls.length := by
  unfold cwZ
  split
  · have := wvs_len (c := c) (g := g) (ls := ls) ls.length; omega
  · simp

end Go.Proofs.YtjekgjlnaochiaaDoor

/- Plain arithmetic of sets of members and their weights; no walk and no condition of our own. -/
namespace Go.Proofs.YtjekgjlnaochiaaDoor

/-- Ascending members below n. -/
def AscP (n : Nat) (ms : List Int) : Prop := ms.Pairwise (· < ·) ∧ ∀ m ∈ ms, 0 ≤ m ∧ m < n
theorem ascP_of {n : Nat} {ms : List Int} (h : membersB n ms = true) : AscP n ms := by
  have step : ∀ d i (hi : i + 1 + d < ms.length), ms[i] < ms[i + 1 + d] := by
    intro d
    induction d with
    | zero =>
      intro i hi
      have := okAt_bd hi (allB_upto h (i + 1) hi)
      rcases this.2.2 with h0 | h0
      · omega
      · rw [show i + 1 + 0 - 1 = i by omega, getD_get (by omega)] at h0; exact h0
    | succ d ih =>
      intro i hi
      have h1 := ih i (by omega)
      have := okAt_bd hi (allB_upto h (i + 1 + (d + 1)) hi)
      rcases this.2.2 with h0 | h0
      · omega
      · rw [show i + 1 + (d + 1) - 1 = i + 1 + d by omega, getD_get (by omega)] at h0
        exact Int.lt_trans h1 h0
  refine ⟨List.pairwise_iff_getElem.2 fun i j hi hj hij => ?_, fun m hm => ?_⟩
  · have := step (j - i - 1) i (by omega)
    simpa [show i + 1 + (j - i - 1) = j by omega] using this
  · obtain ⟨j, hj, rfl⟩ := List.mem_iff_getElem.1 hm
    exact membersB_at h j hj
theorem of_ascP {n : Nat} {ms : List Int} (h : AscP n ms) : membersB n ms = true := by
  unfold membersB
  refine allB_yes (k := ms.length) (fun j hj => ?_) (Nat.le_refl _)
  have hb := h.2 ms[j] (List.getElem_mem hj)
  refine okAt_yes hj hb.1 hb.2 ?_
  by_cases h0 : j = 0
  · exact .inl h0
  · refine .inr ?_
    rw [getD_get (by omega)]
    exact List.pairwise_iff_getElem.1 h.1 (j - 1) j (by omega) hj (by omega)
theorem ascP_filter {n : Nat} {ms : List Int} (p : Int → Bool) (h : AscP n ms) : AscP n (ms.filter p) :=
  ⟨h.1.filter p, fun m hm => h.2 m (List.mem_filter.1 hm).1⟩
theorem ascP_rangeF (p : Nat → Bool) (n : Nat) : AscP n (rangeF p n) := by
  induction n with
  | zero => exact ⟨by simp [rangeF], by simp [rangeF]⟩
  | succ n ih =>
    cases hp : p n with
    | false => rw [rangeF_no hp]; exact ⟨ih.1, fun m hm => by have := ih.2 m hm; omega⟩
    | true =>
      rw [rangeF_yes hp]
      refine ⟨List.pairwise_append.2 ⟨ih.1, by simp, fun a ha b hb => ?_⟩, fun m hm => ?_⟩
      · simp at hb; subst hb; exact (ih.2 a ha).2
      · rcases List.mem_append.1 hm with hm | hm
        · have := ih.2 m hm; omega
        · simp at hm; omega
theorem mem_rangeF {p : Nat → Bool} {n i : Nat} : (i : Int) ∈ rangeF p n ↔ i < n ∧ p i = true := by
  unfold rangeF
  simp only [List.mem_map, List.mem_filter, List.mem_range]
  constructor
  · rintro ⟨a, h, e⟩
    obtain rfl : a = i := by omega
    exact h
  · intro h; exact ⟨i, h, rfl⟩

/-- f 0 + .. + f (n - 1). -/
def isum (f : Nat → Int) : Nat → Int
  | 0 => 0
  | n + 1 => isum f n + f n
theorem isum_congr {f g : Nat → Int} {n : Nat} (h : ∀ i, i < n → f i = g i) : isum f n = isum g n := by
  induction n with
  | zero => rfl
  | succ n ih => simp only [isum]; rw [ih (fun i hi => h i (by omega)), h n (by omega)]
theorem isum_add (f g : Nat → Int) (n : Nat) : isum (fun i => f i + g i) n = isum f n + isum g n := by
  induction n with
  | zero => rfl
  | succ n ih => simp only [isum]; rw [ih]; omega
theorem isum_le {f g : Nat → Int} {n : Nat} (h : ∀ i, i < n → f i ≤ g i) : isum f n ≤ isum g n := by
  induction n with
  | zero => exact Int.le_refl _
  | succ n ih => simp only [isum]; have := ih (fun i hi => h i (by omega)); have := h n (by omega); omega
theorem isum_total (c : List Int) : isum (fun i => c.getD i 0) c.length = totalZ c := by
  have : ∀ k, k ≤ c.length → isum (fun i => c.getD i 0) k = sumTo c k := by
    intro k
    induction k with
    | zero => intro _; rfl
    | succ k ih => intro hk; simp only [isum]; rw [ih (by omega), sumTo_succ (by omega), getD_get (by omega)]
  exact this _ (Nat.le_refl _)

/-- The weight of i if it is among ms. -/
def wAt (c ms : List Int) (i : Nat) : Int := if hasB ms i = true then c.getD i 0 else 0
theorem weightTo_app (c ms : List Int) (x : Int) : weightZ c (ms ++ [x]) = weightZ c ms + c.getD x.toNat 0 := by
  unfold weightZ
  rw [List.length_append]
  simp only [List.length_cons, List.length_nil]
  rw [weightTo_succ (by simp)]
  congr 1
  · unfold weightTo; simp
  · simp
theorem weight_isum (c : List Int) : ∀ (n : Nat) (ms : List Int), AscP n ms → weightZ c ms = isum (wAt c ms) n := by
  intro n
  induction n with
  | zero =>
    intro ms h
    cases ms with
    | nil => rfl
    | cons m ms => have := h.2 m (by simp); omega
  | succ n ih =>
    intro ms h
    simp only [isum]
    rcases List.eq_nil_or_concat ms with rfl | ⟨l, x, rfl⟩
    · rw [← ih [] ⟨by simp, by simp⟩]; simp [wAt, hasB]
    · rw [List.concat_eq_append] at h ⊢
      have hp := List.pairwise_append.1 h.1
      have hx := h.2 x (by simp)
      have hl : ∀ m ∈ l, 0 ≤ m ∧ m < x := fun m hm => ⟨(h.2 m (by simp [hm])).1, hp.2.2 m hm x (by simp)⟩
      by_cases hxn : x = n
      · subst hxn
        have h1 := ih l ⟨hp.1, fun m hm => ⟨(hl m hm).1, by have := hl m hm; omega⟩⟩
        rw [weightTo_app, h1]
        congr 1
        · refine isum_congr fun i hi => ?_
          unfold wAt hasB
          have : ((i : Int) ∈ l ++ [(n : Int)]) = ((i : Int) ∈ l) := by
            rw [List.mem_append]; simp; omega
          simp only [this]
        · unfold wAt hasB; simp
      · have h1 := ih (l ++ [x]) ⟨h.1, fun m hm => by
          have := h.2 m hm
          rcases List.mem_append.1 hm with hm | hm
          · have := hl m hm; omega
          · simp at hm; omega⟩
        rw [h1]
        have : wAt c (l ++ [x]) n = 0 := by
          unfold wAt hasB
          rw [if_neg]
          rw [decide_eq_true_eq]
          intro hm
          rcases List.mem_append.1 hm with hm | hm
          · have := hl _ hm; omega
          · simp at hm; omega
        omega

theorem hasB_common (a b : List Int) (i : Int) : hasB (commonZ a b) i = (hasB a i && hasB b i) := by
  rw [commonZ_eq, Bool.eq_iff_iff]
  simp [hasB, List.mem_filter]
theorem c_nonneg {c : List Int} (h : validB c = true) (i : Nat) (hi : i < c.length) : 0 ≤ c.getD i 0 := by have := good_getD h hi; omega

/-- Two sets weigh no more together than all members and what is common. -/
theorem weights_meet {c a b : List Int} (h : validB c = true) (ha : AscP c.length a) (hb : AscP c.length b) : weightZ c a + weightZ c b ≤ totalZ c + weightZ c (commonZ a b) := by
  have hc : AscP c.length (commonZ a b) := by rw [commonZ_eq]; exact ascP_filter _ ha
  rw [weight_isum c _ a ha, weight_isum c _ b hb, weight_isum c _ _ hc, ← isum_total, ← isum_add, ← isum_add]
  refine isum_le fun i hi => ?_
  have := c_nonneg h i hi
  unfold wAt
  rw [hasB_common]
  generalize c.getD i 0 = x at *
  cases hasB a i <;> cases hasB b i <;> simp <;> omega
/-- Weights are added. -/
theorem weights_add {c a b : List Int} (ha : AscP c.length a) (hb : AscP c.length b) :
    weightZ c a + weightZ c b = weightZ c (rangeF (fun i => hasB a i || hasB b i) c.length) + weightZ c (commonZ a b) := by
  have hc : AscP c.length (commonZ a b) := by rw [commonZ_eq]; exact ascP_filter _ ha
  have hu := ascP_rangeF (fun i => hasB a i || hasB b i) c.length
  rw [weight_isum c _ a ha, weight_isum c _ b hb, weight_isum c _ _ hc, weight_isum c _ _ hu, ← isum_add, ← isum_add]
  refine isum_congr fun i hi => ?_
  unfold wAt
  rw [hasB_common]
  have : hasB (rangeF (fun i => hasB a i || hasB b i) c.length) i = (hasB a i || hasB b i) := by
    rw [Bool.eq_iff_iff]; unfold hasB; rw [decide_eq_true_eq, mem_rangeF]; simp [hi]
  rw [this]
  cases hasB a i <;> cases hasB b i <;> simp

/-- The weight of all members. -/
theorem weight_all {c : List Int} (h : validB c = true) : weightZ c (rangeF (bitB 127) c.length) = totalZ c := by
  rw [weight_isum c _ _ (ascP_rangeF _ _), ← isum_total]
  refine isum_congr fun i hi => ?_
  have hl := validB_len h
  have h7 : bitB 127 i = true := by
    have : i < 7 := by omega
    match i, this with
    | 0, _ => rfl
    | 1, _ => rfl
    | 2, _ => rfl
    | 3, _ => rfl
    | 4, _ => rfl
    | 5, _ => rfl
    | 6, _ => rfl
  have : hasB (rangeF (bitB 127) c.length) i = true := decide_eq_true (mem_rangeF.2 ⟨hi, h7⟩)
  unfold wAt
  rw [if_pos this]

theorem mwZ_of {c ms : List Int} (h : validB c = true) (hm : AscP c.length ms) : mwZ c ms = weightZ c ms := mwZ_yes (by rw [mvB_yes h]; exact of_ascP hm)
theorem mwZ_rangeF {c : List Int} (h : validB c = true) (p : Nat → Bool) : mwZ c (rangeF p c.length) = weightZ c (rangeF p c.length) := mwZ_of h (ascP_rangeF p _)

theorem weight_bd {c a : List Int} (h : validB c = true) (ha : AscP c.length a) : 0 ≤ weightZ c a ∧ weightZ c a ≤ totalZ c := by
  have h0 : isum (fun _ => 0) c.length = 0 := by
    generalize c.length = n
    induction n with
    | zero => rfl
    | succ n ih => simp only [isum]; rw [ih]; rfl
  rw [weight_isum c _ a ha, ← isum_total]
  refine ⟨Int.le_trans (Int.le_of_eq h0.symm) (isum_le fun i hi => ?_), isum_le fun i hi => ?_⟩ <;> (have := c_nonneg h i hi; unfold wAt; split <;> omega)
theorem ascP_common {n : Nat} {a b : List Int} (ha : AscP n a) : AscP n (commonZ a b) := by rw [commonZ_eq]; exact ascP_filter _ ha
theorem common_pos {c a b : List Int} (h : 0 < weightZ c (commonZ a b)) : 0 < (commonZ a b).length := by
  rcases Nat.eq_zero_or_pos (commonZ a b).length with h0 | h0
  · rw [List.eq_nil_of_length_eq_zero h0] at h; exact absurd h (by simp [weightZ, weightTo])
  · exact h0

theorem validB_iff (c : List Int) : validB c = true ↔ (1 ≤ c.length ∧ c.length ≤ 7) ∧ ∀ x ∈ c, 1 ≤ x ∧ x ≤ 9 := by
  unfold validB goodB
  rw [Bool.and_eq_true, decide_eq_true_eq, List.all_eq_true]
  simp
theorem valid_less {c : List Int} {k : Nat} (h : validB c = true) (hk : k < c.length) (h1 : c.length ≠ 1) : validB (c.take k ++ c.drop (k + 1)) = true := by
  rw [validB_iff] at h ⊢
  refine ⟨?_, fun x hx => h.2 x ?_⟩
  · rw [List.length_append, List.length_take, List.length_drop]; omega
  · rcases List.mem_append.1 hx with hx | hx
    · exact List.mem_of_mem_take hx
    · exact List.mem_of_mem_drop hx
theorem valid_zero {c : List Int} {k : Nat} (hk : k < c.length) : validB (c.set k 0) = false := by
  rw [Bool.eq_false_iff]
  intro h
  rw [validB_iff] at h
  have := h.2 0 (List.mem_set hk 0)
  omega

theorem members_less {n : Nat} {ms : List Int} {k : Nat} (h : AscP n ms) : AscP n (ms.take k ++ ms.drop (k + 1)) := by
  have hsub : (ms.take k ++ ms.drop (k + 1)).Sublist ms := by rw [← List.eraseIdx_eq_take_drop_succ]; exact List.eraseIdx_sublist ms k
  exact ⟨h.1.sublist hsub, fun m hm => h.2 m (hsub.subset hm)⟩
theorem members_twice {n : Nat} {ms : List Int} {k : Nat} (hk : k < ms.length) : membersB n (ms.take (k + 1) ++ ms.drop k) = false := by
  rw [Bool.eq_false_iff]
  intro h
  have hp := (List.pairwise_append.1 (ascP_of h).1).2.2 ms[k] (by rw [List.mem_take_iff_getElem]; exact ⟨k, by omega, rfl⟩) ms[k] (by rw [List.mem_drop_iff_getElem]; exact ⟨0, by omega, by simp⟩)
  omega

end Go.Proofs.YtjekgjlnaochiaaDoor

/- A wave that is committed directly is reached by every later vertex: a quorum and a supporting set have a member in common; plain facts, nothing here speaks of the program. -/
namespace Go.Proofs.YtjekgjlnaochiaaDoor
open Go.RowKit

/-- Whether the author i votes in round r for the vertex of L. -/
def vB (g : List Vx) (L : Int) (r : Nat) (i : Nat) : Bool := g.any fun y => decide (y.r = (r : Int) ∧ y.a = (i : Int)) && hasB y.ps L
theorem vB_of {g : List Vx} {L : Int} {r i : Nat} (h : vB g L r i = true) : ∃ y ∈ g, y.r = (r : Int) ∧ y.a = (i : Int) ∧ L ∈ y.ps := by
  unfold vB at h
  obtain ⟨y, hy, hh⟩ := List.any_eq_true.1 h
  simp only [Bool.and_eq_true, decide_eq_true_eq] at hh
  exact ⟨y, hy, hh.1.1, hh.1.2, of_decide_eq_true hh.2⟩
theorem votP_isum {c : List Int} {L : Int} {r : Nat} {g : List Vx} (hs : Srt g) (hp : ∀ v ∈ g, inPl v) : ∀ a, votP c L r g a = isum (fun i => if vB g L r i = true then c.getD i 0 else 0) a
  | 0 => by rw [votP_zero hp]; rfl
  | a + 1 => by
    have ih := votP_isum (c := c) (L := L) (r := r) hs hp a
    by_cases he : ∃ y ∈ g, y.r = (r : Int) ∧ y.a = (a : Int)
    · obtain ⟨y, hy, er, ea⟩ := he
      rw [votP_yes hs hy er ea, ih]
      have e : vB g L r a = hasB y.ps L := by
        rw [Bool.eq_iff_iff]
        constructor
        · intro h
          obtain ⟨z, hz, zr, za, hm⟩ := vB_of h
          have : z = y := srt_uni hs hz hy (by omega) (by omega)
          rw [← this]; exact decide_eq_true hm
        · intro h
          unfold vB
          exact List.any_eq_true.2 ⟨y, hy, by rw [h, decide_eq_true ⟨er, ea⟩]; rfl⟩
      show _ = isum _ a + (if vB g L r a = true then c.getD a 0 else 0)
      rw [e]
    · have hn : ∀ v ∈ g, ¬ (v.r = (r : Int) ∧ v.a = (a : Int)) := fun v hv e => he ⟨v, hv, e⟩
      rw [votP_no hs hn, ih]
      have e : vB g L r a = false := by
        cases h : vB g L r a with
        | false => rfl
        | true =>
          obtain ⟨z, hz, zr, za, _⟩ := vB_of h
          exact absurd ⟨zr, za⟩ (hn z hz)
      show _ = isum _ a + (if vB g L r a = true then c.getD a 0 else 0)
      rw [e]; simp

theorem isum_cut {f : Nat → Int} : ∀ (d n : Nat), (∀ i, n ≤ i → f i = 0) → isum f (n + d) = isum f n
  | 0, _, _ => rfl
  | d + 1, n, h => by rw [← Nat.add_assoc]; show isum f (n + d) + f (n + d) = _; rw [isum_cut d n h, h (n + d) (by omega)]; omega
theorem voZ_isum {c : List Int} {g : List Vx} {ls : List Int} {w : Nat} (ok : Good21 c g ls) (h0 : 0 ≤ ldZ g ls w) : voZ c g ls w = isum (fun i => if vB g (ls.getD (w - 1) 0) (2 * w) i = true then c.getD i 0 else 0) c.length := by
  have h7 := (validB_len ok.hv).2
  unfold voZ
  rw [if_pos h0, show (2 * (w : Int)) = ((2 * w : Nat) : Int) by omega, ← votP_all ok.pl, votP_isum ok.srt ok.pl]
  have := isum_cut (f := fun i => if vB g (ls.getD (w - 1) 0) (2 * w) i = true then c.getD i 0 else 0) (7 - c.length) c.length (fun i hi => by
    split
    · simp [List.getD, List.getElem?_eq_none hi]
    · rfl)
  rw [← this, show c.length + (7 - c.length) = 7 by omega]
/-- A quorum and the voters for a wave that is committed directly have a member in common. -/
theorem quo_meet {c : List Int} {g : List Vx} {ls : List Int} {w : Nat} (ok : Good21 c g ls) (hd : dirB c g ls w = true) {ps : List Int} (hm : membersB c.length ps = true) (hq : quorumZ c ≤ weightZ c ps) :
    ∃ y ∈ g, y.r = 2 * (w : Int) ∧ y.a ∈ ps ∧ ls.getD (w - 1) 0 ∈ y.ps := by
  have h0 := dir_has ok.hv hd
  have hd := of_decide_eq_true hd
  rw [voZ_isum ok h0] at hd
  rw [weight_isum c _ ps (ascP_of hm)] at hq
  have hbd := totalZ_bd ok.hv
  unfold quorumZ at hq
  by_cases he : ∃ i, i < c.length ∧ hasB ps i = true ∧ vB g (ls.getD (w - 1) 0) (2 * w) i = true
  · obtain ⟨i, hi, h1, h2⟩ := he
    obtain ⟨y, hy, yr, ya, hl⟩ := vB_of h2
    exact ⟨y, hy, by omega, by rw [ya]; exact of_decide_eq_true h1, hl⟩
  · have hle : isum (fun i => wAt c ps i + (if vB g (ls.getD (w - 1) 0) (2 * w) i = true then c.getD i 0 else 0)) c.length ≤ isum (fun i => c.getD i 0) c.length := isum_le fun i hi => by
      have hc := c_nonneg ok.hv i hi
      have hn : ¬ (hasB ps i = true ∧ vB g (ls.getD (w - 1) 0) (2 * w) i = true) := fun h => he ⟨i, hi, h.1, h.2⟩
      unfold wAt
      by_cases h1 : hasB ps i = true
      · rw [if_pos h1, if_neg (fun h => hn ⟨h1, h⟩)]; omega
      · rw [if_neg h1]
        split <;> omega
    rw [isum_add, isum_total] at hle
    omega

/-- One vertex is reached from another by way of parents. -/
inductive Rch (g : List Vx) : Vx → Vx → Prop where
  | refl (x : Vx) : Rch g x x
  | step {x z y : Vx} (hz : z ∈ g) (hr : z.r = x.r - 1) (ha : z.a ∈ x.ps) (h : Rch g z y) : Rch g x y
theorem Rch.snoc {g : List Vx} {x y z : Vx} (h : Rch g x y) (hz : z ∈ g) (hr : z.r = y.r - 1) (ha : z.a ∈ y.ps) : Rch g x z := by
  induction h with
  | refl x => exact .step hz hr ha (.refl _)
  | step h1 h2 h3 _ ih => exact .step h1 h2 h3 (ih hr ha)
/-- The past of a vertex is what it reaches. -/
theorem past_rch {c : List Int} {g : List Vx} (h : graphB c g = true) {a b : Nat} (ha : a < g.length) (hb : b < g.length) : (pastB g a).getD b false = true ↔ Rch g g[a] g[b] := by
  have hs := graph_sorted h
  obtain ⟨hcl, hca, _⟩ := past_closed h ha
  constructor
  · have key : ∀ n b, (hb : b < g.length) → g.length - b ≤ n → (pastB g a).getD b false = true → Rch g g[a] g[b] := by
      intro n
      induction n with
      | zero => intro b hb hn; omega
      | succ n ih =>
        intro b hb hn hbt
        by_cases e : b = a
        · subst e; exact .refl _
        · obtain ⟨i, hi, hji, hbi, _, er, ep⟩ := past_least h ha b hbt e
          exact (ih i hi (by omega) hbi).snoc (List.getElem_mem hb) (by omega) ep
    exact key (g.length - b) b hb (Nat.le_refl _)
  · have key : ∀ x y, Rch g x y → ∀ i (hi : i < g.length), g[i] = x → (pastB g a).getD i false = true → ∀ j (hj : j < g.length), g[j] = y → (pastB g a).getD j false = true := by
      intro x y hr
      induction hr with
      | refl x =>
        intro i hi e hbt j hj e2
        rwa [pair_uni hs hi hj (by rw [e, e2]) (by rw [e, e2])] at hbt
      | @step x z y hz hzr hza _ ih =>
        intro i hi e hbt j hj e2
        subst e
        obtain ⟨k, hk, ek⟩ := List.mem_iff_getElem.1 hza
        have h1 := hcl i hi (Nat.zero_le _) hbt k hk
        obtain ⟨m, hm, em, em2⟩ := findZ_mem hs hz
        rw [ek, ← hzr, em, Int.toNat_natCast] at h1
        exact ih m hm em2 h1 j hj e2
    intro hr
    exact key _ _ hr a ha rfl hca b hb rfl

/-- What a wave's leader vertex is, as an index. -/
theorem ld_at {g : List Vx} {ls : List Int} {w : Nat} (h : 0 ≤ ldZ g ls w) : ∃ j, ∃ hj : j < g.length, ldZ g ls w = (j : Int) ∧ g[j].r = 2 * (w : Int) - 1 ∧ g[j].a = ls.getD (w - 1) 0 := by
  rcases findZ_cases g (2 * (w : Int) - 1) (ls.getD (w - 1) 0) with ⟨e, _⟩ | ⟨j, hj, e, hsm, _⟩
  · exact absurd (show ldZ g ls w = -1 from e) (by omega)
  · have h2 : g[j].r = 2 * (w : Int) - 1 ∧ g[j].a = ls.getD (w - 1) 0 := of_decide_eq_true hsm
    exact ⟨j, hj, e, h2.1, h2.2⟩
/-- Every later vertex reaches the leader vertex of a wave that is committed directly. -/
theorem dir_reach {c : List Int} {g : List Vx} {ls : List Int} {w : Nat} (ok : Good21 c g ls) (hvx : ∀ y ∈ g, vtxB c y = true) (hw : 1 ≤ w) (hd : dirB c g ls w = true) {L : Vx} (hL : L ∈ g) (hLr : L.r = 2 * (w : Int) - 1) (hLa : L.a = ls.getD (w - 1) 0) :
    ∀ (n : Nat) (v : Vx), v ∈ g → v.r = 2 * (w : Int) + 1 + n → Rch g v L := by
  have quo : ∀ v ∈ g, 1 ≤ v.r → membersB c.length v.ps = true ∧ quorumZ c ≤ weightZ c v.ps := by
    intro v hv h1
    have := hvx v hv
    unfold vtxB quoB at this
    simp only [Bool.and_eq_true] at this
    rw [if_neg (by omega)] at this
    exact ⟨this.2.2.1, of_decide_eq_true this.2.2.2.2⟩
  intro n
  induction n with
  | zero =>
    intro v hv hr
    obtain ⟨hm, hq⟩ := quo v hv (by omega)
    obtain ⟨y, hy, yr, ya, yl⟩ := quo_meet ok hd hm hq
    exact .step hy (by omega) ya (.step hL (by omega) (by rw [hLa]; exact yl) (.refl _))
  | succ n ih =>
    intro v hv hr
    obtain ⟨hm, hq⟩ := quo v hv (by omega)
    have hne : v.ps ≠ [] := by
      intro e
      rw [e] at hq
      have : weightZ c [] = 0 := rfl
      have hbd := totalZ_bd ok.hv
      unfold quorumZ at hq
      omega
    obtain ⟨p, hp⟩ := List.exists_mem_of_ne_nil _ hne
    obtain ⟨z, hz, zr, za⟩ := ok.par v hv p hp
    exact .step hz zr (by rw [za]; exact hp) (ih z hz (by omega))
theorem dir_link {c : List Int} {g : List Vx} {ls : List Int} (ok : Good21 c g ls) (m u : Nat) (hm : 1 ≤ m) (hd : dirB c g ls m = true) (hmu : m < u) (hu : 0 ≤ ldZ g ls u) : lkB g ls u m = true := by
  obtain ⟨j, hj, ej, rj, aj⟩ := ld_at (dir_has ok.hv hd)
  obtain ⟨k, hk, ek, rk, ak⟩ := ld_at hu
  have hr := dir_reach ok (graph_vtx ok.gb) hm hd (List.getElem_mem hj) rj aj (2 * u - 2 - 2 * m) g[k] (List.getElem_mem hk) (by omega)
  unfold lkB linkB
  rw [ej, ek, Int.toNat_natCast, (past_rch ok.gb hk hj).2 hr]
  simp
/-- The committed waves are the whole chain back from the last one that is committed directly. -/
theorem cw_full {c : List Int} {g : List Vx} {ls : List Int} (ok : Good21 c g ls) (m : Nat) : (wvs c g ls m).1 = if (wvs c g ls m).2 = 0 then [] else (fuW (lkB g ls) (wvs c g ls m).2).map Int.ofNat :=
  wvs_full ok.hv (fun m u h1 h2 h3 h4 => dir_link ok m u h1 h2 h3 h4) m

/-- The votes, whether or not there is a leader vertex: without it nobody refers to it. -/
theorem vo_all {c : List Int} {g : List Vx} {ls : List Int} (ok : Good21 c g ls) (w : Nat) : voZ c g ls w = votTo c (ls.getD (w - 1) 0) (2 * (w : Int)) g g.length := by
  unfold voZ
  by_cases h0 : 0 ≤ ldZ g ls w
  · rw [if_pos h0]
  · rw [if_neg h0]
    have hz : ∀ l : List Vx, (∀ y ∈ l, y ∈ g) → (l.map (votC c (ls.getD (w - 1) 0) (2 * (w : Int)))).sum = 0 := by
      intro l
      induction l with
      | nil => intro _; rfl
      | cons y l ih =>
        intro hl
        rw [List.map_cons, List.sum_cons, ih fun z hz => hl z (List.mem_cons_of_mem _ hz)]
        have hy := hl y (by simp)
        unfold votC
        rw [if_neg]
        · omega
        · rintro ⟨hr, hh⟩
          obtain ⟨z, hz, zr, za⟩ := ok.par y hy _ (of_decide_eq_true hh)
          obtain ⟨j, hj, ej, _⟩ := findZ_mem ok.srt hz
          have : ldZ g ls w = j := by unfold ldZ; rw [← ej, zr, za, hr]
          omega
    unfold votTo
    rw [List.take_length]
    exact (hz g fun y hy => hy).symm

theorem hasB_idx {bs : List Bool} {n j : Nat} (hj : j < n) (h : bs.getD j false = true) : hasB (idxTo bs n) (j : Int) = true := by
  unfold hasB idxTo
  refine decide_eq_true (List.mem_map.2 ⟨j, List.mem_filter.2 ⟨List.mem_range.2 hj, h⟩, rfl⟩)
/-- What is committed, element by element. -/
structure CwOk (c : List Int) (g : List Vx) (ls : List Int) (O : List Nat) : Prop where
  ok : waB c g ls = true
  asc : O.Pairwise (· < ·)
  mem : ∀ y ∈ O, 1 ≤ y ∧ y ≤ ls.length ∧ 0 ≤ ldZ g ls y
  lkd : Lkd (lkB g ls) O
  last : ∀ h : O ≠ [], dirB c g ls (O.getLast h) = true
  all : ∀ w, 1 ≤ w → w ≤ ls.length → dirB c g ls w = true → w ∈ O
theorem getLast_snoc {l : List Nat} {x : Nat} (h : l ++ [x] ≠ []) : (l ++ [x]).getLast h = x := by simp
theorem cw_ok {c : List Int} {g : List Vx} {ls : List Int} (ok : waB c g ls = true) (hps : ∀ x ∈ g, x.ps.length ≤ 1099511627776) : ∃ O : List Nat, cwZ c g ls = O.map Int.ofNat ∧ CwOk c g ls O := by
  have gk := good21 ok hps
  have hl := wvs_last (c := c) (g := g) (ls := ls) ls.length
  have hf := cw_full gk ls.length
  have hcw : cwZ c g ls = (wvs c g ls ls.length).1 := by unfold cwZ; rw [if_pos ok]
  by_cases h0 : (wvs c g ls ls.length).2 = 0
  · rw [if_pos h0] at hf
    refine ⟨[], by rw [hcw, hf]; rfl, ok, .nil, (fun y hy => by cases hy), trivial, (fun h => absurd rfl h), fun w h1 h2 h3 => ?_⟩
    have := hl.2.2 w h1 h2 h3
    omega
  · rw [if_neg h0] at hf
    have hd := hl.2.1.resolve_left h0
    have hh := dir_has gk.hv hd
    have hlk : ∀ u x, lkB g ls u x = true → 0 ≤ ldZ g ls x := fun u x => lk_has
    refine ⟨_, by rw [hcw, hf], ok, fuW_asc hlk (by omega), fun y hy => ?_, fuW_lkd _, fun h => ?_, fun w h1 h2 h3 => ?_⟩
    · have := fuW_mem (has := fun u => 0 ≤ ldZ g ls u) hlk (by omega) hh y hy
      exact ⟨this.1, by omega, this.2.2⟩
    · rw [show (fuW (lkB g ls) (wvs c g ls ls.length).2).getLast h = (wvs c g ls ls.length).2 from getLast_snoc h]
      exact hd
    · have hw := hl.2.2 w h1 h2 h3
      have hp := fuW_pre (has := fun u => 0 ≤ ldZ g ls u) hlk h1 hw (fun u hu hh => dir_link gk w u h1 h3 hu hh) hh
      exact hp.subset (by unfold fuW; simp)
theorem cw_none {c : List Int} {g : List Vx} {ls : List Int} (h : waB c g ls = false) : cwZ c g ls = [] := by unfold cwZ; rw [h]; rfl
theorem wl_at {c : List Int} {g : List Vx} {ls : List Int} {y : Nat} (ok : waB c g ls = true) (h1 : 1 ≤ y) (h2 : y ≤ ls.length) : wlZ c g ls (y : Int) = ldZ g ls y ∧ wdB c g ls (y : Int) = dirB c g ls y ∧ wvZ c g ls (y : Int) = voZ c g ls y := by
  have hwl : wlB c g ls (y : Int) = true := by unfold wlB; rw [ok, decide_eq_true ⟨by omega, by omega⟩]; rfl
  refine ⟨?_, ?_, ?_⟩
  · unfold wlZ; rw [hwl]; simp
  · unfold wdB dirB; rw [hwl]; simp
  · unfold wvZ; rw [hwl]; simp

theorem cw_laws {c : List Int} {g : List Vx} {ls : List Int} (h0 : ¬ (cwZ c g ls).length = 0) (hps : ∀ x ∈ g, x.ps.length ≤ 1099511627776) :
    (∀ i, i < (cwZ c g ls).length → 0 ≤ wlZ c g ls ((cwZ c g ls).getD i 0)) ∧ (∀ i, i < (cwZ c g ls).length → 0 < i → (cwZ c g ls).getD (i - 1) 0 < (cwZ c g ls).getD i 0) ∧ wdB c g ls ((cwZ c g ls).getD ((cwZ c g ls).length - 1) 0) = true := by
  cases hw : waB c g ls with
  | false => rw [cw_none hw] at h0; exact absurd rfl h0
  | true =>
  obtain ⟨O, hO, ok⟩ := cw_ok hw hps
  have hl : (cwZ c g ls).length = O.length := by rw [hO]; simp
  have hat : ∀ i (h : i < O.length), (cwZ c g ls).getD i 0 = ((O[i] : Nat) : Int) := fun i h => by rw [getD_get (by omega)]; simp [hO]
  refine ⟨fun i h => ?_, fun i h hi => ?_, ?_⟩
  · have hm := ok.mem _ (List.getElem_mem (show i < O.length by omega))
    rw [hat i (by omega), (wl_at hw hm.1 hm.2.1).1]; exact hm.2.2
  · rw [hat i (by omega), hat (i - 1) (by omega)]
    have := List.pairwise_iff_getElem.1 ok.asc (i - 1) i (by omega) (by omega) (by omega)
    omega
  · have hne : O ≠ [] := by intro e; rw [e] at hl; exact h0 hl
    have hm := ok.mem _ (List.getElem_mem (show (cwZ c g ls).length - 1 < O.length by omega))
    rw [hat _ (by omega), (wl_at hw hm.1 hm.2.1).2.1]
    have := ok.last hne
    rw [List.getLast_eq_getElem] at this
    simpa [hl] using this

theorem cw_links {c : List Int} {g : List Vx} {ls : List Int} (hps : ∀ x ∈ g, x.ps.length ≤ 1099511627776) (i : Nat) (hi : i < (cwZ c g ls).length) (h0 : 0 < i) :
    ∃ k : Nat, (cwZ c g ls).getD i 0 = (k : Int) ∧ 1 ≤ k ∧ k ≤ ls.length ∧ k ≤ 15 ∧ hasB (gpZ c g (2 * (k : Int) - 1) (ls.getD (k - 1) 0)) (wlZ c g ls ((cwZ c g ls).getD (i - 1) 0)) = true := by
  cases hw : waB c g ls with
  | false => rw [cw_none hw] at hi; simp at hi
  | true =>
  obtain ⟨O, hO, ok⟩ := cw_ok hw hps
  have gk := good21 hw hps
  have hl : (cwZ c g ls).length = O.length := by rw [hO]; simp
  have hat : ∀ i (h : i < O.length), (cwZ c g ls).getD i 0 = ((O[i] : Nat) : Int) := fun i h => by rw [getD_get (by omega)]; simp [hO]
  have hm := ok.mem _ (List.getElem_mem (show i < O.length by omega))
  have hm' := ok.mem _ (List.getElem_mem (show i - 1 < O.length by omega))
  have h15 := gk.l15
  refine ⟨O[i]'(by omega), hat i (by omega), hm.1, hm.2.1, by omega, ?_⟩
  rw [hat (i - 1) (by omega), (wl_at hw hm'.1 hm'.2.1).1]
  have hlk := lkd_at O ok.lkd (i - 1) (by omega)
  have e : O[i - 1 + 1]'(by omega) = O[i]'(by omega) := by congr 1; omega
  rw [e] at hlk
  unfold lkB linkB at hlk
  obtain ⟨j, hj, ej, _⟩ := ld_at hm'.2.2
  rw [ej] at hlk ⊢
  simp only [Bool.and_eq_true] at hlk
  have hgp : gpZ c g (2 * ((O[i]'(by omega) : Nat) : Int) - 1) (ls.getD ((O[i]'(by omega)) - 1) 0) = idxTo (pastB g (ldZ g ls (O[i]'(by omega)))) g.length := by unfold gpZ; rw [if_pos gk.gb]; rfl
  rw [hgp]
  exact hasB_idx hj hlk.2

theorem cw_reach {c : List Int} {g : List Vx} {ls : List Int} (hgb : graphB c g = true) (hps : ∀ x ∈ g, x.ps.length ≤ 1099511627776) (k : Nat) (hk : k < g.length) (m : Nat) (hm : 1 ≤ m) (hm2 : m ≤ ls.length) (hr : 2 * (m : Int) < g[k].r) (hd : wdB c g ls (m : Int) = true) :
    hasB (gpZ c g g[k].r g[k].a) (wlZ c g ls (m : Int)) = true := by
  have hw : waB c g ls = true := (wl_ok (by unfold wdB at hd; simp only [Bool.and_eq_true] at hd; exact hd.1)).1
  have gk := good21 hw hps
  obtain ⟨e1, e2, _⟩ := wl_at hw hm hm2
  rw [e2] at hd
  obtain ⟨j, hj, ej, rj, aj⟩ := ld_at (dir_has gk.hv hd)
  have hrch := dir_reach gk (graph_vtx gk.gb) hm hd (List.getElem_mem hj) rj aj (g[k].r - 2 * (m : Int) - 1).toNat g[k] (List.getElem_mem hk) (by omega)
  have hfz : findZ g g[k].r g[k].a = k := by
    obtain ⟨i, hi, e, e3⟩ := findZ_mem gk.srt (List.getElem_mem hk)
    rw [e, pair_uni gk.srt hi hk (by rw [e3]) (by rw [e3])]
  rw [e1, ej, show gpZ c g g[k].r g[k].a = idxTo (pastB g k) g.length by unfold gpZ; rw [if_pos hgb, hfz]]
  exact hasB_idx hj ((past_rch hgb hk hj).2 hrch)

end Go.Proofs.YtjekgjlnaochiaaDoor
