/- The reference's VoterForget, by a walk of its text; condition: the list is shorter than 2^40. -/
import Derived.Test.YtkndndcjchlpdaaRows
import Derived.Test.YtkndndcjchlpdaaVa3
import Derived.Test.YtkndndcjchlpdaaVt2
import Derived.Test.YtkndndcjchlpdaaVq1
import Derived.Test.YtkndndcjchlpdaaRVoter
import Derived.Test.YtkndndcjchlpdaaEx
import Derived.Deep.QuietTactic
import Derived.BigQuiet
namespace Go.Proofs.Ytkndndcjchlpdaa
open Go.RowKit

/-- What forgetting up to the floor n answers. -/
def fgB (f : Int) (g : List Vt) (n : Int) : Bool := voterB f g && decide (f ≤ n ∧ n ≤ 31)
def fgF (f : Int) (g : List Vt) (n : Int) : Int := if fgB f g n then n else 0
def fgG (f : Int) (g : List Vt) (n : Int) : List Vt := if fgB f g n then forgetG n g else []
theorem fg_no {f n : Int} {g : List Vt} (h : fgB f g n = false) : fgF f g n = 0 ∧ fgG f g n = [] ∧ fgB f g n = false := by unfold fgF fgG; rw [h]; exact ⟨rfl, rfl, rfl⟩
theorem fg_yes {f n : Int} {g : List Vt} (h : fgB f g n = true) : fgF f g n = n ∧ fgG f g n = forgetG n g ∧ fgB f g n = true := by unfold fgF fgG; rw [h]; exact ⟨rfl, rfl, rfl⟩
theorem fg_step (n : Int) (g : List Vt) (k : Nat) (h : k < g.length) : forgetG n (g.take (k + 1)) = forgetG n (g.take k) ++ (if n ≤ g[k].r then [g[k]] else []) := by
  unfold forgetG
  rw [List.take_succ_eq_append_getElem h, List.filter_append]
  by_cases hr : n ≤ g[k].r
  · rw [if_pos hr, List.filter_cons_of_pos (by simpa using hr)]; rfl
  · rw [if_neg hr, List.filter_cons_of_neg (by simpa using hr)]; rfl

set_option maxHeartbeats 8000000 in
set_option maxRecDepth 8000 in
theorem spec_VoterForget (f : Int) (g : List Vt) (v : Value) (fp : List Nat) (n : Int) (w : World) (hbig : g.length ≤ 1099511627776) (hg : Vts w g v fp) :
    Calls Try.prog 17 #[.agg #[.int .i64 f, v], .int .i64 n] w fun e w' => ∃ vv, e = .returned (.tuple #[.agg #[.int .i64 (fgF f g n), vv], .bool (fgB f g n)]) ∧ OwnR 27 3 3 w' w.heap.size w'.heap.size vv ((fgG f g n).map Vt.fd) ∧ Below w.heap.size w w' := by
  obtain ⟨va, vc, rfl⟩ := hg.slice
  have hb0 : Below w.heap.size w ((w.alloc (.cells #[.int .i64 f, .slice va g.length vc] 25)).alloc (.cells #[.int .i64 0, .slice none 0 0] 25)) := ((Below.refl _ _).alloc (Nat.le_refl _) _).alloc (by simp) _
  have sx := (Str.new w 25 #[.int .i64 f, .slice va g.length vc]).alloc (.cells #[.int .i64 0, .slice none 0 0] 25)
  have sr := Str.new (w.alloc (.cells #[.int .i64 f, .slice va g.length vc] 25)) 25 #[.int .i64 0, .slice none 0 0]
  have hz0 : w.heap.size + 2 ≤ ((w.alloc (.cells #[.int .i64 f, .slice va g.length vc] 25)).alloc (.cells #[.int .i64 0, .slice none 0 0] 25)).heap.size := by simp
  simp only [World.size_alloc] at sr
  have SX := Lib.hid (show Str ((w.alloc (.cells #[.int .i64 f, .slice va g.length vc] 25)).alloc (.cells #[.int .i64 0, .slice none 0 0] 25)) (w.heap.size) 25 #[.int .i64 f, .slice va g.length vc] from sx)
  have SR := Lib.hid (show Str ((w.alloc (.cells #[.int .i64 f, .slice va g.length vc] 25)).alloc (.cells #[.int .i64 0, .slice none 0 0] 25)) (w.heap.size + 1) 25 #[.int .i64 0, .slice none 0 0] from sr)
  have Hg := Lib.hid hg
  have Hb := Lib.hid hb0
  clear sx sr hb0 hg
  go_enter Try.func17, Try.ntmps17
  have cX_0 := SX.out.cell 0 (v := .int .i64 f) rfl
  have cX_1 := SX.out.cell 1 (v := .slice va g.length vc) rfl
  go_wp2_with fail
  clear cX_0 cX_1
  generalize ((w.alloc (.cells #[.int .i64 f, .slice va g.length vc] 25)).alloc (.cells #[.int .i64 0, .slice none 0 0] 25)) = W0 at *
  refine (spec_VoterValid f g _ fp _ hbig (Hg.out.under Hb.out)).mono ?_
  rintro e w1 ⟨rfl, hb1⟩
  have SX := Lib.hid (show Str w1 (w.heap.size) 25 #[.int .i64 f, .slice va g.length vc] from (hb1.block _ SX.out.lt).trans SX.out)
  have SR := Lib.hid (show Str w1 (w.heap.size + 1) 25 #[.int .i64 0, .slice none 0 0] from (hb1.block _ SR.out.lt).trans SR.out)
  have hsz9 := hb1.size
  have Hb := Lib.hid (below_step Hb.out Hb.out.size hb1)
  clear hb1
  cases h1 : voterB f g with
  | false =>
    obtain ⟨z1, z2, z3⟩ := fg_no (f := f) (g := g) (n := n) (by unfold fgB; rw [h1]; rfl)
    have Z1 := Lib.hid z1; have Z2 := Lib.hid z2; have Z3 := Lib.hid z3; clear z1 z2 z3
    have cX_0 := SX.out.cell 0 (v := .int .i64 f) rfl
    have cX_1 := SX.out.cell 1 (v := .slice va g.length vc) rfl
    have cR_0 := SR.out.cell 0 (v := .int .i64 0) rfl
    have cR_1 := SR.out.cell 1 (v := .slice none 0 0) rfl
    have fR_0 := SR.out.frozen 0
    have fR_1 := SR.out.frozen 1
    have sF := (SR.out.set 0 (.int .i64 0)).set 1 (.slice none 0 0)
    have e0 := sF.cell 0 (v := .int .i64 0) rfl
    have e1 := sF.cell 1 (v := .slice none 0 0) rfl
    clear sF
    go_wp2
    refine bodyPost_ret (v := .tuple #[.agg #[.int .i64 0, .slice none 0 0], .bool false]) (by simp [results, Try.f17, go_sem, e0, e1]) rfl ?_
    rw [Z1.out, Z2.out, Z3.out]
    exact ⟨_, rfl, OwnR.nil ⟨rfl, .inl ⟨rfl, rfl⟩⟩ (fun g e => by cases e), (Hb.out.setCell (p := ⟨w.heap.size + 1, 0, none⟩) (by simp only; omega) _).setCell (p := ⟨w.heap.size + 1, 1, none⟩) (by simp only; omega) _⟩
  | true =>
  have cX_0 := SX.out.cell 0 (v := .int .i64 f) rfl
  have cX_1 := SX.out.cell 1 (v := .slice va g.length vc) rfl
  go_wp2_with fail
  clear cX_0 cX_1
  refine (spec_l6In n f 31 _).mono ?_
  rintro e w2 ⟨rfl, rfl⟩
  cases h2 : decide (f ≤ n ∧ n ≤ 31) with
  | false =>
    obtain ⟨z1, z2, z3⟩ := fg_no (f := f) (g := g) (n := n) (by unfold fgB; rw [h1, h2]; rfl)
    have Z1 := Lib.hid z1; have Z2 := Lib.hid z2; have Z3 := Lib.hid z3; clear z1 z2 z3
    have cX_0 := SX.out.cell 0 (v := .int .i64 f) rfl
    have cX_1 := SX.out.cell 1 (v := .slice va g.length vc) rfl
    have cR_0 := SR.out.cell 0 (v := .int .i64 0) rfl
    have cR_1 := SR.out.cell 1 (v := .slice none 0 0) rfl
    have fR_0 := SR.out.frozen 0
    have fR_1 := SR.out.frozen 1
    have sF := (SR.out.set 0 (.int .i64 0)).set 1 (.slice none 0 0)
    have e0 := sF.cell 0 (v := .int .i64 0) rfl
    have e1 := sF.cell 1 (v := .slice none 0 0) rfl
    clear sF
    go_wp2
    refine bodyPost_ret (v := .tuple #[.agg #[.int .i64 0, .slice none 0 0], .bool false]) (by simp [results, Try.f17, go_sem, e0, e1]) rfl ?_
    rw [Z1.out, Z2.out, Z3.out]
    exact ⟨_, rfl, OwnR.nil ⟨rfl, .inl ⟨rfl, rfl⟩⟩ (fun g e => by cases e), (Hb.out.setCell (p := ⟨w.heap.size + 1, 0, none⟩) (by simp only; omega) _).setCell (p := ⟨w.heap.size + 1, 1, none⟩) (by simp only; omega) _⟩
  | true =>
  obtain ⟨z1, z2, z3⟩ := fg_yes (f := f) (g := g) (n := n) (by unfold fgB; rw [h1, h2]; rfl)
  have Z1 := Lib.hid z1; have Z2 := Lib.hid z2; have Z3 := Lib.hid z3; clear z1 z2 z3
  have hgl := (voter_len h1).2.2
  have so : Str ((w1.alloc (.cells #[] 27)).alloc (.cells #[.int .i64 n, .slice (some ⟨w1.heap.size, 0, none⟩) 0 0] 25)) (w1.heap.size + 1) 25 #[.int .i64 n, .slice (some ⟨w1.heap.size, 0, none⟩) 0 0] := by have := Str.new (w1.alloc (.cells #[] 27)) 25 #[.int .i64 n, .slice (some ⟨w1.heap.size, 0, none⟩) 0 0]; simpa only [World.size_alloc] using this
  have ol : OwnV 27 ((w1.alloc (.cells #[] 27)).alloc (.cells #[.int .i64 n, .slice (some ⟨w1.heap.size, 0, none⟩) 0 0] 25)) (w1.heap.size) (.slice (some ⟨w1.heap.size, 0, none⟩) 0 0) [] := (OwnV.empty 27 w1).below ((Below.refl _ _).alloc (Nat.le_refl _) _)
  have sx := (SX.out.alloc (.cells #[] 27)).alloc (.cells #[.int .i64 n, .slice (some ⟨w1.heap.size, 0, none⟩) 0 0] 25)
  have sr := (SR.out.alloc (.cells #[] 27)).alloc (.cells #[.int .i64 n, .slice (some ⟨w1.heap.size, 0, none⟩) 0 0] 25)
  have hb : Below w.heap.size w ((w1.alloc (.cells #[] 27)).alloc (.cells #[.int .i64 n, .slice (some ⟨w1.heap.size, 0, none⟩) 0 0] 25)) := (Hb.out.alloc (by omega) (.cells #[] 27)).alloc (by simp only [World.size_alloc]; omega) (.cells #[.int .i64 n, .slice (some ⟨w1.heap.size, 0, none⟩) 0 0] 25)
  have hne : ∀ q, (Value.slice (some ⟨w1.heap.size, 0, none⟩) 0 0).ownBlock = some q → q ≠ w1.heap.size + 1 := fun q e => by have e' : some (w1.heap.size) = some q := e; have := Option.some.inj e'; omega
  have hw2 : w.heap.size + 2 ≤ w1.heap.size := by omega
  have Q1 := Lib.hid so; have Q2 := Lib.hid ol; have Q3 := Lib.hid sx; have Q4 := Lib.hid sr; have Q5 := Lib.hid hb; have Q6 := Lib.hid hne; clear so ol sx sr hb hne
  have cX_0 := SX.out.cell 0 (v := .int .i64 f) rfl
  have cX_1 := SX.out.cell 1 (v := .slice va g.length vc) rfl
  have cR_0 := SR.out.cell 0 (v := .int .i64 0) rfl
  have cR_1 := SR.out.cell 1 (v := .slice none 0 0) rfl
  have fR_0 := SR.out.frozen 0
  have fR_1 := SR.out.frozen 1
  go_wp2
  clear cX_0 cX_1 cR_0 cR_1 fR_0 fR_1
  go_loopw [7] (fun i wr => ∃ (k : Nat) (a : Option Addr) (cc : Nat), k ≤ g.length ∧ i = .int .i64 k ∧ Str wr (w.heap.size) 25 #[.int .i64 f, .slice va g.length vc] ∧ Str wr (w.heap.size + 1) 25 #[.int .i64 0, .slice none 0 0] ∧ Str wr (w1.heap.size + 1) 25 #[.int .i64 n, .slice a (forgetG n (g.take k)).length cc] ∧ OwnV 27 wr (w1.heap.size) (.slice a (forgetG n (g.take k)).length cc) (forgetG n (g.take k)) ∧ (∀ q, (Value.slice a (forgetG n (g.take k)).length cc).ownBlock = some q → q ≠ w1.heap.size + 1) ∧ Below w.heap.size w wr) (fun i _ => g.length - (intOf i).toNat)
  case atStart => exact ⟨0, _, _, by omega, rfl, Q3.out, Q4.out, Q1.out, Q2.out, Q6.out, Q5.out⟩
  case round =>
    obtain ⟨k, a, cc, hk, rfl, sx, sr, so, ol, hne, hb⟩ := hrel
    clear SX SR Hb Q1 Q2 Q3 Q4 Q5 Q6
    have SX := Lib.hid sx; have SR := Lib.hid sr; have SO := Lib.hid so; have OL := Lib.hid ol; have Hb := Lib.hid hb; have Hne := Lib.hid hne; clear sx sr so ol hb hne
    have hfl : (forgetG n (g.take k)).length ≤ 40 := Nat.le_trans (List.length_filter_le _ _) (by rw [List.length_take]; omega)
    have hst := fun h => fg_step n g k h
    have hfk : k = g.length → forgetG n (g.take k) = forgetG n g := fun e => by rw [e, List.take_length]
    have Hst := Lib.hid hst; have Hfk := Lib.hid hfk; clear hst hfk
    generalize hF : forgetG n (g.take k) = F at *
    have HF := Lib.hid hF; clear hF
    have hob := SO.out.lt
    by_cases hlt : k < g.length
    · skip
      obtain ⟨b, off, rfl, hbk, hat⟩ := Hg.out.at (by omega)
      obtain ⟨e0, e1, e2⟩ := hat k hlt
      have hst := Hst.out hlt
      generalize hx : g[k] = x at *
      obtain ⟨xr, xa, xd⟩ := x
      dsimp only at *
      clear hat hx
      have Hst := Lib.hid hst; clear hst
      have C0 := Lib.hid ((Hb.out.cell (p := ⟨b, off + k * 3, none⟩) hbk).trans e0)
      have C1 := Lib.hid ((Hb.out.cell (p := ⟨b, off + k * 3 + 1, none⟩) hbk).trans e1)
      have C2 := Lib.hid ((Hb.out.cell (p := ⟨b, off + k * 3 + 2, none⟩) hbk).trans e2)
      clear e0 e1 e2
      by_cases hr : n ≤ xr
      · skip
        have hrd : decide (n ≤ xr) = true := decide_eq_true hr
        have HR := Lib.hid hr
        have c0 := C0.out
        have cX_0 := SX.out.cell 0 (v := .int .i64 f) rfl
        have cX_1 := SX.out.cell 1 (v := .slice (some ⟨b, off, none⟩) g.length vc) rfl
        have cO_0 := SO.out.cell 0 (v := .int .i64 n) rfl
        have cO_1 := SO.out.cell 1 (v := .slice a F.length cc) rfl
        go_wp2_with fail
        clear cX_0 cX_1 cO_0 cO_1
        clear c0
        have hdr : Below wr.heap.size wr wr.drew := (Below.refl _ _).drew
        have SX := Lib.hid (show Str wr.drew (w.heap.size) 25 #[.int .i64 f, .slice (some ⟨b, off, none⟩) g.length vc] from SX.out)
        have SR := Lib.hid (show Str wr.drew (w.heap.size + 1) 25 #[.int .i64 0, .slice none 0 0] from SR.out)
        have SO := Lib.hid (show Str wr.drew (w1.heap.size + 1) 25 #[.int .i64 n, .slice a F.length cc] from SO.out)
        have OL := Lib.hid (show OwnV 27 wr.drew (w1.heap.size) ((Value.slice a F.length cc)) (F) from OL.out)
        have C0 := Lib.hid (show wr.drew.cell? ⟨b, off + k * 3, none⟩ = some (.int .i64 xr) from C0.out)
        have C1 := Lib.hid (show wr.drew.cell? ⟨b, off + k * 3 + 1, none⟩ = some (.int .i64 xa) from C1.out)
        have C2 := Lib.hid (show wr.drew.cell? ⟨b, off + k * 3 + 2, none⟩ = some (.int .i64 xd) from C2.out)
        have Hb := Lib.hid Hb.out.drew
        have hzwd : wr.heap.size ≤ wr.drew.heap.size := Nat.le_refl _
        clear hdr
        refine wp_region_L 10 (fun w' => w'.cell? ⟨w.heap.size, 0, none⟩ = some (.int .i64 f) ∧ w'.cell? ⟨w.heap.size, 1, none⟩ = some (.slice (some ⟨b, off, none⟩) g.length vc) ∧ w'.cell? ⟨w1.heap.size + 1, 0, none⟩ = some (.int .i64 n) ∧ w'.cell? ⟨w1.heap.size + 1, 1, none⟩ = some (.slice a F.length cc) ∧ w'.cell? ⟨b, off + k * 3, none⟩ = some (.int .i64 xr) ∧ w'.cell? ⟨b, off + k * 3 + 1, none⟩ = some (.int .i64 xa) ∧ w'.cell? ⟨b, off + k * 3 + 2, none⟩ = some (.int .i64 xd)) (by kernel_rfl) ⟨SX.out.cell 0 (v := .int .i64 f) rfl, SX.out.cell 1 (v := .slice (some ⟨b, off, none⟩) g.length vc) rfl, SO.out.cell 0 (v := .int .i64 n) rfl, SO.out.cell 1 (v := .slice a F.length cc) rfl, C0.out, C1.out, C2.out⟩ (fun hH => ?_)
        generalize wr.drew = wd at *
        refine takeL 0 (v := ?vt1) rfl (by kernel_rfl) (by kernel_rfl) (by kernel_rfl) (by kernel_rfl) (by kernel_rfl) (fun _ _ _ h => h) hH rfl ?yt1 ?rt1
        case yt1 => intro W hSw; go_simp; try with_reducible rfl
        try simp only [Act.put, List.setIfInBounds_toArray, List.set_cons_zero, List.set_cons_succ]
        refine takeL 1 (v := ?vt2) rfl (by kernel_rfl) (by kernel_rfl) (by kernel_rfl) (by kernel_rfl) (by kernel_rfl) (fun _ _ _ h => h) hH rfl ?yt2 ?rt2
        case yt2 => intro W hSw; go_simp; try with_reducible rfl
        try simp only [Act.put, List.setIfInBounds_toArray, List.set_cons_zero, List.set_cons_succ]
        refine takeL 2 (v := ?vt3) rfl (by kernel_rfl) (by kernel_rfl) (by kernel_rfl) (by kernel_rfl) (by kernel_rfl) (fun _ _ _ h => h) hH rfl ?yt3 ?rt3
        case yt3 => intro W hSw; go_simp; try with_reducible rfl
        try simp only [Act.put, List.setIfInBounds_toArray, List.set_cons_zero, List.set_cons_succ]
        refine takeL 3 (v := ?vt4) rfl (by kernel_rfl) (by kernel_rfl) (by kernel_rfl) (by kernel_rfl) (by kernel_rfl) (fun _ _ _ h => h) hH rfl ?yt4 ?rt4
        case yt4 => intro W hSw; go_simp; try with_reducible rfl
        try simp only [Act.put, List.setIfInBounds_toArray, List.set_cons_zero, List.set_cons_succ]
        refine takeL 4 (v := ?vt5) rfl (by kernel_rfl) (by kernel_rfl) (by kernel_rfl) (by kernel_rfl) (by kernel_rfl) (fun _ _ _ h => h) hH rfl ?yt5 ?rt5
        case yt5 => intro W hSw; go_simp; try with_reducible rfl
        try simp only [Act.put, List.setIfInBounds_toArray, List.set_cons_zero, List.set_cons_succ]
        refine takeL 5 (v := ?vt6) rfl (by kernel_rfl) (by kernel_rfl) (by kernel_rfl) (by kernel_rfl) (by kernel_rfl) (fun _ _ _ h => h) hH rfl ?yt6 ?rt6
        case yt6 => intro W hSw; go_simp; try with_reducible rfl
        try simp only [Act.put, List.setIfInBounds_toArray, List.set_cons_zero, List.set_cons_succ]
        refine takeL 6 (v := ?vt7) rfl (by kernel_rfl) (by kernel_rfl) (by kernel_rfl) (by kernel_rfl) (by kernel_rfl) (fun _ _ _ h => h) hH rfl ?yt7 ?rt7
        case yt7 => intro W hSw; go_simp; try with_reducible rfl
        try simp only [Act.put, List.setIfInBounds_toArray, List.set_cons_zero, List.set_cons_succ]
        refine callL 7 rfl (by kernel_rfl) rfl (fun K hK => ?_)
        go_simp
        have hal : Below wd.heap.size wd (wd.alloc (.cells #[.int .i64 xr, .int .i64 xa, .int .i64 xd] 27)) := (Below.refl _ _).alloc (Nat.le_refl _) _
        have sN := Str.new wd 27 #[.int .i64 xr, .int .i64 xa, .int .i64 xd]
        have hzn : wd.heap.size < (wd.alloc (.cells #[.int .i64 xr, .int .i64 xa, .int .i64 xd] 27)).heap.size := by simp
        have SX := Lib.hid (show Str (wd.alloc (.cells #[.int .i64 xr, .int .i64 xa, .int .i64 xd] 27)) (w.heap.size) 25 #[.int .i64 f, .slice (some ⟨b, off, none⟩) g.length vc] from (hal.block _ SX.out.lt).trans SX.out)
        have SR := Lib.hid (show Str (wd.alloc (.cells #[.int .i64 xr, .int .i64 xa, .int .i64 xd] 27)) (w.heap.size + 1) 25 #[.int .i64 0, .slice none 0 0] from (hal.block _ SR.out.lt).trans SR.out)
        have SO := Lib.hid (show Str (wd.alloc (.cells #[.int .i64 xr, .int .i64 xa, .int .i64 xd] 27)) (w1.heap.size + 1) 25 #[.int .i64 n, .slice a F.length cc] from (hal.block _ SO.out.lt).trans SO.out)
        have OL := Lib.hid (show OwnV 27 (wd.alloc (.cells #[.int .i64 xr, .int .i64 xa, .int .i64 xd] 27)) (w1.heap.size) ((Value.slice a F.length cc)) (F) from OL.out.below hal)
        have C0 := Lib.hid (show (wd.alloc (.cells #[.int .i64 xr, .int .i64 xa, .int .i64 xd] 27)).cell? ⟨b, off + k * 3, none⟩ = some (.int .i64 xr) from (hal.cell (p := ⟨b, off + k * 3, none⟩) (show b < _ from Nat.lt_of_lt_of_le hbk Hb.out.size)).trans C0.out)
        have C1 := Lib.hid (show (wd.alloc (.cells #[.int .i64 xr, .int .i64 xa, .int .i64 xd] 27)).cell? ⟨b, off + k * 3 + 1, none⟩ = some (.int .i64 xa) from (hal.cell (p := ⟨b, off + k * 3 + 1, none⟩) (show b < _ from Nat.lt_of_lt_of_le hbk Hb.out.size)).trans C1.out)
        have C2 := Lib.hid (show (wd.alloc (.cells #[.int .i64 xr, .int .i64 xa, .int .i64 xd] 27)).cell? ⟨b, off + k * 3 + 2, none⟩ = some (.int .i64 xd) from (hal.cell (p := ⟨b, off + k * 3 + 2, none⟩) (show b < _ from Nat.lt_of_lt_of_le hbk Hb.out.size)).trans C2.out)
        have hsz9 := hal.size
        have Hb := Lib.hid (below_step Hb.out Hb.out.size hal)
        have SP := Lib.hid sN; clear sN hal
        refine hK.out _ _ ⟨SX.out.cell 0 (v := .int .i64 f) rfl, SX.out.cell 1 (v := .slice (some ⟨b, off, none⟩) g.length vc) rfl, SO.out.cell 0 (v := .int .i64 n) rfl, SO.out.cell 1 (v := .slice a F.length cc) rfl, C0.out, C1.out, C2.out⟩ (fun hH => ?_)
        clear hK K
        try simp only [Act.put, List.setIfInBounds_toArray, List.set_cons_zero, List.set_cons_succ]
        generalize (wd.alloc (.cells #[.int .i64 xr, .int .i64 xa, .int .i64 xd] 27)) = wp at *
        generalize hPB : wd.heap.size = PB at *
        refine callL 8 rfl (by kernel_rfl) rfl (fun K hK => ?_)
        refine op_app_V (.tmp 38) (.tmp 44) rfl (w1.heap.size) _ F [(⟨xr, xa, xd⟩ : Vt)] (some ⟨PB, 0, none⟩) 1 rfl OL.out rfl (.inr ⟨_, rfl, srcV_one SP.out⟩) (by simp only [List.length_singleton]; omega) (by omega) (fun u wa ho9 hg9 hp9 => ?_)
        have hrow : ∀ q, (Value.slice a F.length cc).ownBlock = some q → w1.heap.size ≤ q ∧ q ≠ w1.heap.size + 1 := fun q e => ⟨(OL.out.lt q e).1, Hne.out q e⟩
        have hne : ∀ q, u.ownBlock = some q → q ≠ w1.heap.size + 1 := fun q e => by rcases hp9 q e with h | h; exact Hne.out q h; omega
        clear hp9 Hne
        have Hne := Lib.hid hne; clear hne
        have C0 := Lib.hid (show wa.cell? ⟨b, off + k * 3, none⟩ = some (.int .i64 xr) from hg9.cell C0.out (fun e => by have := (hrow _ e.symm).1; have := Hb.out.size; simp only at *; omega))
        have C1 := Lib.hid (show wa.cell? ⟨b, off + k * 3 + 1, none⟩ = some (.int .i64 xa) from hg9.cell C1.out (fun e => by have := (hrow _ e.symm).1; have := Hb.out.size; simp only at *; omega))
        have C2 := Lib.hid (show wa.cell? ⟨b, off + k * 3 + 2, none⟩ = some (.int .i64 xd) from hg9.cell C2.out (fun e => by have := (hrow _ e.symm).1; have := Hb.out.size; simp only at *; omega))
        have SX := Lib.hid (show Str wa (w.heap.size) 25 #[.int .i64 f, .slice (some ⟨b, off, none⟩) g.length vc] from SX.out.kept hg9 (fun e => by have := hrow _ e.symm; omega))
        have SR := Lib.hid (show Str wa (w.heap.size + 1) 25 #[.int .i64 0, .slice none 0 0] from SR.out.kept hg9 (fun e => by have := hrow _ e.symm; omega))
        have SO := Lib.hid (show Str wa (w1.heap.size + 1) 25 #[.int .i64 n, .slice a F.length cc] from SO.out.kept hg9 (fun e => by have := hrow _ e.symm; omega))
        have hsz9 := hg9.size
        have Hb := Lib.hid (Hb.out.grown hg9 Hb.out.size (fun q e => by have := hrow q e; omega))
        clear hrow hg9
        have hF2 : F ++ [(⟨xr, xa, xd⟩ : Vt)] = forgetG n (g.take (k + 1)) := by rw [Hst.out, if_pos HR.out]
        have HF2 := Lib.hid hF2; clear hF2
        have OL := Lib.hid (show OwnV 27 wa (w1.heap.size) u (F ++ [(⟨xr, xa, xd⟩ : Vt)]) from ho9)
        clear ho9
        generalize F ++ [(⟨xr, xa, xd⟩ : Vt)] = F2 at *
        obtain ⟨a2, c2, rfl⟩ := OL.out.slice
        refine hK.out _ _ ⟨SX.out.cell 0 (v := .int .i64 f) rfl, SX.out.cell 1 (v := .slice (some ⟨b, off, none⟩) g.length vc) rfl, SO.out.cell 0 (v := .int .i64 n) rfl, SO.out.cell 1 (v := .slice a F.length cc) rfl, C0.out, C1.out, C2.out⟩ (fun hH => ?_)
        clear hK K
        try simp only [Act.put, List.setIfInBounds_toArray, List.set_cons_zero, List.set_cons_succ]
        try simp only [Act.put]
        refine callL 9 rfl (by kernel_rfl) rfl (fun K hK => ?_)
        go_simp
        refine hK.out _ _ ⟨SX.out.cell 0 (v := .int .i64 f) rfl, SX.out.cell 1 (v := .slice (some ⟨b, off, none⟩) g.length vc) rfl, SO.out.cell 0 (v := .int .i64 n) rfl, SO.out.cell 1 (v := .slice a F.length cc) rfl, C0.out, C1.out, C2.out⟩ (fun hH => ?_)
        clear hK K
        try simp only [Act.put, List.setIfInBounds_toArray, List.set_cons_zero, List.set_cons_succ]
        have cO_0 := SO.out.cell 0 (v := .int .i64 n) rfl
        have cO_1 := SO.out.cell 1 (v := .slice a F.length cc) rfl
        have fO_0 := SO.out.frozen 0
        have fO_1 := SO.out.frozen 1
        refine lastL rfl (by kernel_rfl) (by kernel_rfl) (by kernel_rfl) rfl (fun K hK => ?_)
        go_simp
        refine hK.out _ _ ?_
        clear hK K hH
        try simp only [Act.put]
        clear cO_0 cO_1 fO_0 fO_1
        have so := SO.out.set 1 (.slice a2 F2.length c2)
        have ol : OwnV 27 (wa.setCell ⟨w1.heap.size + 1, 1, none⟩ (.slice a2 F2.length c2)) (w1.heap.size) (.slice a2 F2.length c2) F2 := OL.out.kept fun q e => set1 (OL.out.lt q e).2 (Hne.out q e)
        have sx := SX.out.other (B' := w1.heap.size + 1) (by omega) 1 (.slice a2 F2.length c2)
        have sr := SR.out.other (B' := w1.heap.size + 1) (by omega) 1 (.slice a2 F2.length c2)
        have hb := Hb.out.setCell (p := ⟨w1.heap.size + 1, 1, none⟩) (by simp only; omega) (.slice a2 F2.length c2)
        generalize (wa.setCell ⟨w1.heap.size + 1, 1, none⟩ (.slice a2 F2.length c2)) = wz at *
        skip
        have Q1 := Lib.hid so; have Q2 := Lib.hid ol; have Q3 := Lib.hid sx; have Q4 := Lib.hid sr; have Q5 := Lib.hid hb; clear so ol sx sr hb
        go_wp2
        go_roundw
        case rel => refine ⟨k + 1, a2, c2, by omega, by go_num, ?_⟩; rw [← HF2.out]; exact ⟨Q3.out, Q4.out, Q1.out, Q2.out, Hne.out, Q5.out⟩
        case measure => simp [intOf]; omega
      have hrd : decide (n ≤ xr) = false := decide_eq_false hr
      have HR := Lib.hid hr
      have c0 := C0.out
      have cX_0 := SX.out.cell 0 (v := .int .i64 f) rfl
      have cX_1 := SX.out.cell 1 (v := .slice (some ⟨b, off, none⟩) g.length vc) rfl
      have cO_0 := SO.out.cell 0 (v := .int .i64 n) rfl
      have cO_1 := SO.out.cell 1 (v := .slice a F.length cc) rfl
      go_wp2
      clear cX_0 cX_1 cO_0 cO_1
      go_roundw
      case rel => refine ⟨k + 1, a, cc, by omega, by go_num, ?_⟩; rw [Hst.out, if_neg HR.out, List.append_nil]; exact ⟨SX.out, SR.out, SO.out, OL.out, Hne.out, Hb.out⟩
      case measure => simp [intOf]; omega
    have hFe := Hfk.out (by omega)
    have HFe := Lib.hid hFe; clear hFe
    have cX_0 := SX.out.cell 0 (v := .int .i64 f) rfl
    have cX_1 := SX.out.cell 1 (v := .slice va g.length vc) rfl
    have cO_0 := SO.out.cell 0 (v := .int .i64 n) rfl
    have cO_1 := SO.out.cell 1 (v := .slice a F.length cc) rfl
    have cR_0 := SR.out.cell 0 (v := .int .i64 0) rfl
    have cR_1 := SR.out.cell 1 (v := .slice none 0 0) rfl
    have fR_0 := SR.out.frozen 0
    have fR_1 := SR.out.frozen 1
    have sF := (SR.out.set 0 (.int .i64 n)).set 1 (.slice a F.length cc)
    have e0 := sF.cell 0 (v := .int .i64 n) rfl
    have e1 := sF.cell 1 (v := .slice a F.length cc) rfl
    clear sF
    go_wp2
    refine bodyPost_ret (v := .tuple #[.agg #[.int .i64 n, .slice a F.length cc], .bool true]) (by simp [results, Try.f17, go_sem, e0, e1]) rfl ?_
    clear cX_0 cX_1 cO_0 cO_1 cR_0 cR_1 fR_0 fR_1
    have ol : OwnV 27 ((wr.setCell ⟨w.heap.size + 1, 0, none⟩ (.int .i64 n)).setCell ⟨w.heap.size + 1, 1, none⟩ (.slice a F.length cc)) (w1.heap.size) (.slice a F.length cc) F := OL.out.kept fun q e => set2 (OL.out.lt q e).2 (by have := (OL.out.lt q e).1; omega)
    rw [Z1.out, Z2.out, Z3.out, ← HFe.out]
    exact ⟨.slice a F.length cc, rfl, OwnR.from (ol.ownR (Nat.le_refl _)) (by omega), (Hb.out.setCell (p := ⟨w.heap.size + 1, 0, none⟩) (by simp only; omega) _).setCell (p := ⟨w.heap.size + 1, 1, none⟩) (by simp only; omega) _⟩

end Go.Proofs.Ytkndndcjchlpdaa
