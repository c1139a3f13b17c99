/- Texts that the laws of this folder share, one behind another; no conditions. -/
import Derived.Test.YthojbcecbeapgabRows
import Derived.Test.YthojbcecbeapgabBu1
import Derived.Deep.QuietTactic
import Derived.BigQuiet
import Derived.RangeFuncBox
import Derived.Test.YthojbcecbeapgabBu0
import Derived.Deep.RegionHeld3

/- impl's iterator over the batches of its linked list, what it counts and what an author uses, each by a walk of its text; condition: the list lies as it should. -/
namespace Go.Proofs.Ythojbcecbeapgab
open Go.RowKit Go.Shelf
attribute [local go_sem] Oper.semAt_some

def msA (ns : List (Nat × Bt)) : Value → Nat
  | .pointer (some a) => ns.length - ixA ns (.pointer (some a))
  | _ => 0
/-- Between two rounds of a loop over a store's batches: the list, the iterator's box, the loop's own two blocks. -/
structure Itr (w0 W : World) (lo hi P : Nat) (f : Int) (ns : List (Nat × Bt)) (Bs D L : Nat) (o : Obj) : Prop where
  ls : LS W lo hi P f ns
  box : Str W Bs 57 #[ptV P]
  dd : W.heap[D]? = some (.deferred (some []))
  ll : W.heap[L]? = some o
  bel : Below w0.heap.size w0 W
  hi0 : hi ≤ w0.heap.size
  ord : Bs < D ∧ w0.heap.size ≤ D ∧ D < L
section
variable {w0 W W' : World} {lo hi P : Nat} {f : Int} {ns : List (Nat × Bt)} {Bs D L : Nat} {o : Obj}
theorem Itr.ltL (h : Itr w0 W lo hi P f ns Bs D L o) : L < W.heap.size := (Array.getElem?_eq_some_iff.1 h.ll).1
theorem Itr.kept (h : Itr w0 W lo hi P f ns Bs D L o) {row : Option Nat} (hg : W.grownBy W' row) (hrow : ∀ m, row = some m → w0.heap.size ≤ m ∧ m ≠ Bs ∧ m ≠ D ∧ m ≠ L) : Itr w0 W' lo hi P f ns Bs D L o := by
  have h1 := h.hi0
  have h2 := (Array.getElem?_eq_some_iff.1 h.dd).1
  refine ⟨h.ls.kept hg fun m e => .inl (by have := hrow m e; omega), h.box.kept hg fun e => (hrow Bs e.symm).2.1 rfl, (hg.block D h2 fun e => (hrow D e.symm).2.2.1 rfl).trans h.dd, (hg.block L h.ltL fun e => (hrow L e.symm).2.2.2 rfl).trans h.ll, h.bel.grown hg h.bel.size fun m e => (hrow m e).1, h1, h.ord⟩
theorem Itr.put (h : Itr w0 W lo hi P f ns Bs D L o) (o' : Obj) : Itr w0 (W.putObj L o') lo hi P f ns Bs D L o' := by
  have h1 := h.hi0
  have h2 := h.ord
  have hg := grownBy_putObj' W L o'
  refine ⟨h.ls.kept hg fun m e => .inl (by cases e; omega), h.box.kept hg (by simp; omega), (World.putObj_heap_other (by omega)).trans h.dd, World.putObj_heap_same h.ltL, h.bel.grown hg h.bel.size fun m e => by cases e; omega, h1, h2⟩
end

theorem impl_batches (P : Nat) (w : World) : Calls Try.prog 55 #[ptV P] w fun e w' =>
    e = .returned (.func (.func 61) #[] #[.pointer (some ⟨w.heap.size, 0, none⟩)]) ∧ w' = w.alloc (.cells #[ptV P] 57) := by
  go_enter Try.func55, Try.ntmps55
  go_wp2
  go_ret
  exact ⟨rfl, rfl⟩

theorem impl_batches1 (L Bs lo hi P : Nat) (f : Int) (ns : List (Nat × Bt)) (J : List Bt → World → Prop)
    (hJ : ∀ pre W, J pre W → LS W lo hi P f ns ∧ Str W Bs 57 #[ptV P])
    (hY : ∀ pre x rest W, pre ++ x :: rest = bsL ns → J pre W → YieldAt Fence.wide 1 Try.prog L #[agB x] W fun e W' => e = .returned (.bool true) ∧ J (pre ++ [x]) W')
    (W : World) (h0 : J [] W) :
    CallsIn Fence.wide 2 Try.prog 61 #[.func (.yield L) #[] #[], .pointer (some ⟨Bs, 0, none⟩)] W fun e W' => (∃ v, e = .returned v) ∧ J (bsL ns) W' := by
  obtain ⟨hls, hbx⟩ := hJ [] W h0
  obtain ⟨_, z1, _, _⟩ := hls.cell
  obtain ⟨q0, b0, hq0⟩ := hls.head
  rw [nxV_at hq0] at z1
  have hn0 := (hls.node hq0).2.2.2.2.1
  have hb0 := hbx.cell 0 (v := ptV P) rfl
  have hlb := bsL_len ns
  have Hlb := Lib.hid hlb; clear hlb
  have Hne := Lib.hid hls.ne
  have HJ := Lib.hid hJ; clear hJ hls hbx
  have HY := Lib.hid hY; clear hY
  have Hbs := Lib.hid (bsL_at ns)
  unfold ptV at z1 hb0
  refine callsIn_of_wp Try.func61 rfl trivial ?_ rfl
  simp only [Try.ntmps61, List.size_toArray, List.length_cons, List.length_nil, Nat.reduceAdd, Nat.reduceSub, Array.replicate_succ, Array.replicate_zero, List.push_toArray, List.append_toArray, List.nil_append, List.cons_append]
  gi_wp2
  gi_loopw [3] (fun at_ wr => ∃ k : Nat, k ≤ (bsL ns).length ∧ at_ = nxV ns (k + 1) ∧ J ((bsL ns).take k) wr) (fun at_ _ => msA ns at_)
  case atStart => exact ⟨0, by omega, rfl, by rw [List.take_zero]; exact h0⟩
  case round =>
    obtain ⟨k, hk, rfl, hJk⟩ := hrel
    clear z1 hn0 hb0
    cases hn : ns[k + 1]? with
    | none =>
      have hl2 : ns.length ≤ k + 1 := List.getElem?_eq_none_iff.1 hn
      rw [nxV_end hn]
      have hkl : (bsL ns).take k = bsL ns := List.take_of_length_le (by have := Hlb.out; omega)
      rw [hkl] at hJk
      have HJk := Lib.hid hJk
      clear hn hkl hJk
      gi_wp2
      refine ⟨fun _ _ => trivial, ?_⟩
      gi_wp2
      go_end0
      exact ⟨⟨_, rfl⟩, HJk.out⟩
    | some x =>
      obtain ⟨q, b⟩ := x
      obtain ⟨hls, _⟩ := HJ.out _ _ hJk
      obtain ⟨c0, c1, c2, c3, _, _⟩ := hls.node hn
      have Hix := Lib.hid (hls.ix hn)
      have Hn := Lib.hid hn
      rw [nxV_at hn]
      have hl2 := (List.getElem?_eq_some_iff.1 hn).1
      have hkl : k < (bsL ns).length := by have := Hlb.out; omega
      have hbk : (bsL ns)[k] = b := by
        have e := Hbs.out k
        rw [hn, List.getElem?_eq_getElem hkl] at e
        exact Option.some.inj e
      have hpre : (bsL ns).take k ++ b :: (bsL ns).drop (k + 1) = bsL ns := by
        rw [← hbk, ← List.drop_eq_getElem_cons hkl, List.take_append_drop]
      have hsuc : (bsL ns).take k ++ [b] = (bsL ns).take (k + 1) := by rw [← hbk, List.take_append_getElem hkl]
      obtain ⟨fn, tmps, assign, body, hy, hR⟩ := HY.out _ b _ wr hpre hJk
      rw [hsuc] at hR
      clear hn hls hpre hsuc hbk hJk
      obtain ⟨bd, ba, br, bs⟩ := b
      unfold agB at hy
      unfold ptV
      dsimp only at *
      gi_wp2
      refine hR.mono ?_
      rintro e W3 ⟨rfl, hJ3⟩
      obtain ⟨hls3, _⟩ := HJ.out _ _ hJ3
      have c4 := (hls3.node Hn.out).2.2.2.2.1
      have Hl3 := Lib.hid hls3
      have HJ3 := Lib.hid hJ3
      clear hls3 hJ3 hR hy
      gi_wp2
      go_roundw
      case rel => exact ⟨k + 1, by omega, rfl, HJ3.out⟩
      case measure =>
        show msA ns (nxV ns (k + 1 + 1)) < msA ns (.pointer (some ⟨q, 0, none⟩))
        have e1 : msA ns (.pointer (some ⟨q, 0, none⟩)) = ns.length - (k + 1) := by show ns.length - ixA ns _ = _; rw [Hix.out]
        rw [e1]
        cases hn2 : ns[k + 1 + 1]? with
        | none => rw [nxV_end hn2]; show 0 < _; omega
        | some x =>
          obtain ⟨q2, b2⟩ := x
          rw [nxV_at hn2]
          have e2 := Hl3.out.ix hn2
          show ns.length - ixA ns (.pointer (some ⟨q2, 0, none⟩)) < _
          rw [e2]; omega

theorem impl_count (lo hi P : Nat) (f : Int) (ns : List (Nat × Bt)) (w : World) (h : LS w lo hi P f ns) (hsm : ns.length ≤ 1048576) :
    Calls Try.prog 59 #[ptV P] w fun e w' => e = .returned (.int .i64 (bsL ns).length) ∧ Below w.heap.size w w' := by
  have H := Lib.hid h; clear h
  have Hlb := Lib.hid (bsL_len ns)
  refine (callsIn_wide (n := 3)).1 ?_
  refine callsIn_of_wp_marks Try.func59 rfl trivial ?_ rfl
  simp only [Try.ntmps59, List.size_toArray, List.length_cons, List.length_nil, Nat.reduceAdd, Nat.reduceSub, Array.replicate_succ, Array.replicate_zero, List.push_toArray, List.append_toArray, List.nil_append, List.cons_append]
  gi_wp2_with fail
  refine ⟨trivial, (callsIn_wide.2 (impl_batches P _)).mono ?_⟩
  rintro e w' ⟨rfl, rfl⟩
  gi_wp2_with fail
  obtain ⟨w1, hw1⟩ : ∃ w1, (w.alloc (.cells #[.int .i64 0] 3)).alloc (.cells #[ptV P] 57) = w1 := ⟨_, rfl⟩
  have hz1 : w1.heap.size = w.heap.size + 2 := by rw [← hw1]; simp
  have hr1 : Str w1 w.heap.size 3 #[.int .i64 0] := by rw [← hw1]; exact (Str.new _ _ _).alloc _
  have hl1 : Str w1 (w.heap.size + 1) 57 #[ptV P] := by
    have := Str.new (w.alloc (.cells #[.int .i64 0] 3)) 57 #[ptV P]
    rw [hw1, World.size_alloc] at this
    exact this
  have hb1 : Below w.heap.size w w1 := by rw [← hw1]; exact ((Below.refl _ w).alloc (Nat.le_refl _) _).alloc (by simp) _
  rw [hw1]
  clear hw1
  refine wpIn_over (gf := 61) (lb := #[.pointer (some ⟨w.heap.size + 1, 0, none⟩)]) rfl (enters_of Try.func61 (by kernel_rfl) rfl) ?_
  intro rec _ hround
  have Hround := Lib.hid hround; clear hround
  obtain ⟨w2, hw2⟩ : ∃ w2, (w1.alloc (.deferred (some []))).alloc (rec .ready none) = w2 := ⟨_, rfl⟩
  have hD2 : w2.heap[w1.heap.size]? = some (.deferred (some [])) := by
    rw [← hw2]; exact (Below.heap_alloc _ _ _ (by simp)).trans (World.alloc_heap_new w1 _)
  have hL2 : w2.heap[w1.heap.size + 1]? = some (rec .ready none) := by
    rw [← hw2]; have := World.alloc_heap_new (w1.alloc (.deferred (some []))) (rec .ready none); rwa [World.size_alloc] at this
  have hb2 : Below w1.heap.size w1 w2 := by rw [← hw2]; exact ((Below.refl _ w1).alloc (Nat.le_refl _) _).alloc (by simp) _
  rw [hw2]
  clear hw2
  have hbw : Below w.heap.size w w2 := below_step hb1 hb1.size hb2
  have hI2 : Itr w w2 lo hi P f ns (w.heap.size + 1) w1.heap.size (w1.heap.size + 1) (rec .ready none) := ⟨H.out.under hbw, (hb2.block _ (by omega)).trans hl1, hD2, hL2, hbw, H.out.le, by omega⟩
  refine (impl_batches1 (w1.heap.size + 1) (w.heap.size + 1) lo hi P f ns
    (fun pre W => Str W w.heap.size 3 #[.int .i64 (pre.length : Nat)] ∧ Itr w W lo hi P f ns (w.heap.size + 1) w1.heap.size (w1.heap.size + 1) (rec .ready none)) (fun pre W hJ => ⟨hJ.2.ls, hJ.2.box⟩) ?Y w2
    ⟨(hb2.block _ (by omega)).trans hr1, hI2⟩).mono ?_
  case Y =>
    rintro pre x rest W hpre ⟨hbx, hI⟩
    have hpl : pre.length + 1 ≤ (bsL ns).length := by rw [← hpre]; simp
    refine Hround.out #[agB x] W _ rfl hI.ll ?_
    gi_wp2
    refine ⟨hI.ll, ?_⟩
    have hI3 := hI.put (rec .busy none)
    have hbx3 := hbx.kept (grownBy_putObj' W (w1.heap.size + 1) (rec .busy none)) (by simp; omega)
    clear hI hbx
    generalize W.putObj (w1.heap.size + 1) (rec .busy none) = W3 at *
    have hcb := hbx3.cell 0 (v := .int .i64 (pre.length : Nat)) rfl
    have hfb := hbx3.frozen 0
    have HI3 := Lib.hid hI3; clear hI3
    have Hlb2 := Hlb.out
    have hw : IntKind.i64.wrap (((pre.length : Nat) : Int) + 1) = ((pre.length + 1 : Nat) : Int) := by rw [IntWalk.i64_in _ (by omega)]; omega
    obtain ⟨m, hm⟩ : ∃ m, m = pre.length := ⟨_, rfl⟩
    have Hm := Lib.hid hm
    rw [← hm] at hcb hbx3 hw
    have Hbx3 := Lib.hid hbx3
    have Hpl := Lib.hid hpl
    clear hbx3 hpl hm Hlb2
    gi_wp2
    have hm := Hm.out
    have hI4 := HI3.out.kept (grownBy_set W3 w.heap.size 0 (.int .i64 ((m : Int) + 1))) (fun m e => by cases e; omega)
    have hbx4 := Hbx3.out.set 0 (.int .i64 ((m : Int) + 1))
    refine ⟨hI4.ll, .inl ⟨rfl, rfl, ?_, hI4.put (rec .ready none)⟩⟩
    have e1 : (((pre ++ [x]).length : Nat) : Int) = (m : Int) + 1 := by rw [List.length_append, ← hm]; rfl
    rw [e1]
    exact hbx4.kept (grownBy_putObj' _ _ _) (by simp; omega)
  · rintro e W ⟨hv, hbx, hI⟩
    refine ⟨hv, .inl ⟨hI.ll, ?_⟩⟩
    have hI3 := hI.put (rec .exhausted none)
    have hbx3 := hbx.kept (grownBy_putObj' W (w1.heap.size + 1) (rec .exhausted none)) (by simp; omega)
    clear hI hbx
    generalize W.putObj (w1.heap.size + 1) (rec .exhausted none) = W3 at *
    have hcb := hbx3.cell 0 (v := .int .i64 ((bsL ns).length : Nat)) rfl
    have HI3 := Lib.hid hI3; clear hI3
    have Hz1 := Lib.hid hz1; clear hz1
    gi_wp2
    refine ⟨by simp, .inl ⟨_, _, rfl, run_takeDeferred HI3.out.dd, ?_⟩⟩
    have hz := Hz1.out
    exact ⟨_, results_tmp rfl _ _ _, rfl, HI3.out.bel.grown (grownBy_putObj' _ _ _) HI3.out.bel.size (fun k e => by cases e; omega)⟩

set_option maxHeartbeats 2000000 in
theorem impl_used (lo hi P : Nat) (f : Int) (ns : List (Nat × Bt)) (a : Int) (w : World) (h : LS w lo hi P f ns) (hsm : ns.length ≤ 1048576) (hv : ∀ b ∈ bsL ns, btB b = true) :
    Calls Try.prog 39 #[ptV P, .int .i64 a] w fun e w' => e = .returned (.int .i64 (usZ (bsL ns) a)) ∧ Below w.heap.size w w' := by
  have H := Lib.hid h; clear h
  have Hlb := Lib.hid (bsL_len ns)
  have Hv := Lib.hid hv; clear hv
  refine (callsIn_wide (n := 3)).1 ?_
  refine callsIn_of_wp_marks Try.func39 rfl trivial ?_ rfl
  simp only [Try.ntmps39, List.size_toArray, List.length_cons, List.length_nil, Nat.reduceAdd, Nat.reduceSub, Array.replicate_succ, Array.replicate_zero, List.push_toArray, List.append_toArray, List.nil_append, List.cons_append]
  gi_wp2_with fail
  refine ⟨trivial, (callsIn_wide.2 (impl_batches P _)).mono ?_⟩
  rintro e w' ⟨rfl, rfl⟩
  gi_wp2_with fail
  obtain ⟨w1, hw1⟩ : ∃ w1, ((w.alloc (.cells #[.int .i64 a] 3)).alloc (.cells #[.int .i64 0] 3)).alloc (.cells #[ptV P] 57) = w1 := ⟨_, rfl⟩
  have hz1 : w1.heap.size = w.heap.size + 3 := by rw [← hw1]; simp
  have ha1 : Str w1 w.heap.size 3 #[.int .i64 a] := by rw [← hw1]; exact ((Str.new _ _ _).alloc _).alloc _
  have hr1 : Str w1 (w.heap.size + 1) 3 #[.int .i64 0] := by
    have := (Str.new (w.alloc (.cells #[.int .i64 a] 3)) 3 #[.int .i64 0]).alloc (.cells #[ptV P] 57)
    rw [hw1, World.size_alloc] at this
    exact this
  have hl1 : Str w1 (w.heap.size + 1 + 1) 57 #[ptV P] := by
    have := Str.new ((w.alloc (.cells #[.int .i64 a] 3)).alloc (.cells #[.int .i64 0] 3)) 57 #[ptV P]
    rw [hw1, World.size_alloc, World.size_alloc] at this
    exact this
  have hb1 : Below w.heap.size w w1 := by rw [← hw1]; exact (((Below.refl _ w).alloc (Nat.le_refl _) _).alloc (by simp) _).alloc (by simp; omega) _
  rw [hw1]
  clear hw1
  refine wpIn_over (gf := 61) (lb := #[.pointer (some ⟨w.heap.size + 1 + 1, 0, none⟩)]) rfl (enters_of Try.func61 (by kernel_rfl) rfl) ?_
  intro rec _ hround
  have Hround := Lib.hid hround; clear hround
  obtain ⟨w2, hw2⟩ : ∃ w2, (w1.alloc (.deferred (some []))).alloc (rec .ready none) = w2 := ⟨_, rfl⟩
  have hD2 : w2.heap[w1.heap.size]? = some (.deferred (some [])) := by
    rw [← hw2]; exact (Below.heap_alloc _ _ _ (by simp)).trans (World.alloc_heap_new w1 _)
  have hL2 : w2.heap[w1.heap.size + 1]? = some (rec .ready none) := by
    rw [← hw2]; have := World.alloc_heap_new (w1.alloc (.deferred (some []))) (rec .ready none); rwa [World.size_alloc] at this
  have hb2 : Below w1.heap.size w1 w2 := by rw [← hw2]; exact ((Below.refl _ w1).alloc (Nat.le_refl _) _).alloc (by simp) _
  rw [hw2]
  clear hw2
  have hbw : Below w.heap.size w w2 := below_step hb1 hb1.size hb2
  have hI2 : Itr w w2 lo hi P f ns (w.heap.size + 1 + 1) w1.heap.size (w1.heap.size + 1) (rec .ready none) := ⟨H.out.under hbw, (hb2.block _ (by omega)).trans hl1, hD2, hL2, hbw, H.out.le, by omega⟩
  refine (impl_batches1 (w1.heap.size + 1) (w.heap.size + 1 + 1) lo hi P f ns
    (fun pre W => Str W w.heap.size 3 #[.int .i64 a] ∧ Str W (w.heap.size + 1) 3 #[.int .i64 (usZ pre a)] ∧ Itr w W lo hi P f ns (w.heap.size + 1 + 1) w1.heap.size (w1.heap.size + 1) (rec .ready none)) (fun pre W hJ => ⟨hJ.2.2.ls, hJ.2.2.box⟩) ?Y w2
    ⟨(hb2.block _ (by omega)).trans ha1, (hb2.block _ (by omega)).trans hr1, hI2⟩).mono ?_
  case Y =>
    rintro pre x rest W hpre ⟨hba, hbx, hI⟩
    have hpv : ∀ b ∈ pre, btB b = true := fun b hb => Hv.out b (by rw [← hpre]; simp [hb])
    have hxv := btB_iff.1 (Hv.out x (by rw [← hpre]; simp))
    have hpl : pre.length + 1 ≤ (bsL ns).length := by rw [← hpre]; simp
    have hus := us_small hpv a
    have hsum : usZ (pre ++ [x]) a = usZ pre a + if x.a = a then x.s else 0 := by rw [usZ_app, usZ_cons]; simp [usZ]
    have Hsum := Lib.hid hsum; clear hsum hpv
    obtain ⟨xd, xa, xr, xs⟩ := x
    dsimp only at *
    refine Hround.out #[agB ⟨xd, xa, xr, xs⟩] W _ rfl hI.ll ?_
    unfold agB
    have halx : W.grownBy (W.alloc (.cells #[.int .i64 xd, .int .i64 xa, .int .i64 xr, .int .i64 xs] 27)) none := World.grownBy_alloc W _ none
    have sX := Str.new W 27 #[.int .i64 xd, .int .i64 xa, .int .i64 xr, .int .i64 xs]
    have hIx := hI.kept halx (fun m e => by cases e)
    have hbax := hba.kept halx (by simp)
    have hbxx := hbx.kept halx (by simp)
    have hzx : W.heap.size < (W.alloc (.cells #[.int .i64 xd, .int .i64 xa, .int .i64 xr, .int .i64 xs] 27)).heap.size := by simp
    have hlW := hI.ltL
    have HI := Lib.hid hIx; have HA := Lib.hid hbax; have HU := Lib.hid hbxx; have HX := Lib.hid sX
    clear hIx hbax hbxx sX halx hba hbx hI
    gi_wp2_with fail
    have hlen := Hlb.out
    generalize W.alloc (.cells #[.int .i64 xd, .int .i64 xa, .int .i64 xr, .int .i64 xs] 27) = WX at *
    refine ⟨HI.out.ll, ?_⟩
    have HI3 := Lib.hid (HI.out.put (rec .busy none))
    have HA3 := Lib.hid (HA.out.kept (grownBy_putObj' WX (w1.heap.size + 1) (rec .busy none)) (by simp; omega))
    have HU3 := Lib.hid (HU.out.kept (grownBy_putObj' WX (w1.heap.size + 1) (rec .busy none)) (by simp; omega))
    have HX3 := Lib.hid (HX.out.kept (grownBy_putObj' WX (w1.heap.size + 1) (rec .busy none)) (by simp; omega))
    clear HI HA HU HX
    generalize WX.putObj (w1.heap.size + 1) (rec .busy none) = W3 at *
    generalize hBX : W.heap.size = BX at *
    obtain ⟨u, hu⟩ : ∃ u, u = usZ pre a := ⟨_, rfl⟩
    rw [← hu] at HU3 hus
    have x1 := HX3.out.cell 1 (v := .int .i64 xa) rfl
    have x3 := HX3.out.cell 3 (v := .int .i64 xs) rfl
    have a0 := HA3.out.cell 0 (v := .int .i64 a) rfl
    have u0 := HU3.out.cell 0 (v := .int .i64 u) rfl
    have uf := HU3.out.frozen 0
    have Hu := Lib.hid hu
    have Hpl := Lib.hid hpl
    have Hlen := Lib.hid hlen
    have hw : IntKind.i64.wrap (u + xs) = u + xs := IntWalk.i64_in _ (by omega)
    have Hord : Hid (w.heap.size + 1 + 1 < w1.heap.size) := Lib.hid (by omega)
    clear hu hpl hlen hpre hus
    by_cases hxa : xa = a
    · have hxa' : (xa == a) = true := by rw [beq_iff_eq]; exact hxa
      have Hs2 := Lib.hid (show usZ (pre ++ [⟨xd, xa, xr, xs⟩]) a = u + xs by rw [Hsum.out, if_pos hxa, ← Hu.out])
      clear hxa
      gi_wp2
      have ho := Hord.out
      have hI4 := HI3.out.kept (grownBy_set W3 (w.heap.size + 1) 0 (.int .i64 (u + xs))) (fun m e => by cases e; omega)
      have hbx4 := HU3.out.set 0 (.int .i64 (u + xs))
      have hba4 := HA3.out.other (B' := w.heap.size + 1) (by omega) 0 (.int .i64 (u + xs))
      refine ⟨hI4.ll, .inl ⟨rfl, rfl, hba4.kept (grownBy_putObj' _ _ _) (by simp; omega), ?_, hI4.put (rec .ready none)⟩⟩
      rw [Hs2.out]
      exact hbx4.kept (grownBy_putObj' _ _ _) (by simp; omega)
    · have hxa' : (xa == a) = false := by rw [beq_eq_false_iff_ne]; exact hxa
      have Hs2 := Lib.hid (show usZ (pre ++ [⟨xd, xa, xr, xs⟩]) a = u by rw [Hsum.out, if_neg hxa, ← Hu.out]; omega)
      clear hxa
      gi_wp2
      have ho := Hord.out
      refine ⟨HI3.out.ll, .inl ⟨rfl, rfl, HA3.out.kept (grownBy_putObj' _ _ _) (by simp; omega), ?_, HI3.out.put (rec .ready none)⟩⟩
      rw [Hs2.out]
      exact HU3.out.kept (grownBy_putObj' _ _ _) (by simp; omega)
  · rintro e W ⟨hv, hba, hbx, hI⟩
    refine ⟨hv, .inl ⟨hI.ll, ?_⟩⟩
    have hI3 := hI.put (rec .exhausted none)
    have hbx3 := hbx.kept (grownBy_putObj' W (w1.heap.size + 1) (rec .exhausted none)) (by simp; omega)
    clear hI hbx hba
    generalize W.putObj (w1.heap.size + 1) (rec .exhausted none) = W3 at *
    have hcb := hbx3.cell 0 (v := .int .i64 (usZ (bsL ns) a)) rfl
    have HI3 := Lib.hid hI3; clear hI3
    have Hz1 := Lib.hid hz1; clear hz1
    gi_wp2
    refine ⟨by simp, .inl ⟨_, _, rfl, run_takeDeferred HI3.out.dd, ?_⟩⟩
    have hz := Hz1.out
    exact ⟨_, results_tmp rfl _ _ _, rfl, HI3.out.bel.grown (grownBy_putObj' _ _ _) HI3.out.bel.size (fun k e => by cases e; omega)⟩

end Go.Proofs.Ythojbcecbeapgab

/- A region that draws its order, operation by operation, where the condition on the world is kept up to a last operation alone (a store into what was loaded): general steps, nothing here speaks of the program. -/
namespace Go.Proofs.Ythojbcecbeapgab
open Go.RowKit

/-- Whatever order is picked from here on; S holds behind every operation until number m has come up. -/
def wpAnyL (P : Program) (md : Region.Mode) (ops : Array Oper) (Q : Exit → Act → World → Prop) (m : Nat) (S : World → Prop) : Nat → Array Bool → Act → World → Prop
  | 0, listed, a, w => Region.ready md ops listed = [] ∧ Q .normal a w
  | fuel + 1, listed, a, w =>
    (Region.ready md ops listed = [] → Q .normal a w) ∧
    ∀ i ∈ Region.ready md ops listed, wpOp P ops Q i (fun a' w' => ((listed.setIfInBounds i true).getD m true = false → S w') ∧ wpAnyL P md ops Q m S fuel (listed.setIfInBounds i true) a' w') a w

section
variable {P : Program} {md : Region.Mode} {ops : Array Oper} {Q : Exit → Act → World → Prop} {S : World → Prop} {m : Nat}

theorem any_of_L : ∀ (fuel : Nat) (listed : Array Bool) (a : Act) (w : World), wpAnyL P md ops Q m S fuel listed a w → wpAny P md ops Q fuel listed a w
  | 0, _, _, _, h => h
  | fuel + 1, _, _, _, h => ⟨h.1, fun i hi => wpOp_mono (fun a' w' h' => any_of_L fuel _ a' w' h'.2) (h.2 i hi)⟩

/-- Of two that may come up, neither waits for the other. -/
theorem ready_pair {listed : Array Bool} {i j : Nat} (hi : i ∈ Region.ready md ops listed) (hj : j ∈ Region.ready md ops listed) :
    listed.getD j true = false ∧ ∃ o, ops[j]? = some o ∧ ∀ e ∈ o.after, Region.binds md e = true → e.on ≠ i := by
  obtain ⟨hun, o, ho, hall⟩ := mem_ready.1 hj
  refine ⟨hun, o, ho, fun e he hb heq => ?_⟩
  have h1 := hall e he hb
  have h0 := (mem_ready.1 hi).1
  rw [heq] at h1
  by_cases hlt : i < listed.size <;> simp [hlt] at h0 h1
  rw [h0] at h1; cases h1
/-- Number m waits for number i. -/
def waits (md : Region.Mode) (ops : Array Oper) (m i : Nat) : Bool := (ops[m]?.map fun o => o.after.any fun e => Region.binds md e && e.on == i).getD false
theorem waits_not {listed : Array Bool} {i : Nat} (hw : waits md ops m i = true) (hi : i ∈ Region.ready md ops listed) : m ∉ Region.ready md ops listed := by
  intro hm
  obtain ⟨_, o, ho, hno⟩ := ready_pair hi hm
  unfold waits at hw
  rw [ho, Option.map_some, Option.getD_some, Array.any_eq_true'] at hw
  obtain ⟨e, he, hb⟩ := hw
  rw [Bool.and_eq_true, beq_iff_eq] at hb
  exact hno e he hb.1 hb.2

/-- Whoever may come up ahead of number i leaves its temporaries alone. -/
def FreeAt (md : Region.Mode) (ops : Array Oper) (oi : Oper) (i : Nat) (listed : Array Bool) : Prop :=
  ∀ j oj, ops[j]? = some oj → j ≠ i → listed.getD j true = false → (∀ e ∈ oj.after, Region.binds md e = true → e.on ≠ i) → oi.apart ops oj = true
theorem FreeAt.set {oi : Oper} {i j : Nat} {listed : Array Bool} (h : FreeAt md ops oi i listed) (hj : listed.getD j true = false) : FreeAt md ops oi i (listed.setIfInBounds j true) := by
  intro k ok hk hki hun hno
  refine h k ok hk hki ?_ hno
  rcases Nat.decEq j k with hjk | hjk
  · rwa [getD_set_ne true hjk] at hun
  · exact hjk ▸ hj
theorem firstL {i : Nat} {oi : Oper} {v : Value} (hi : ops[i]? = some oi) (hsel : ∀ (j : Nat) (o : Oper) cs b, ops[j]? = some o → o.op ≠ .select cs b)
    (hQ : ∀ c a w, Q (.panic c) (a.put oi.dst v) w → Q (.panic c) a w) (hw : waits md ops m i = true) (fuel : Nat) :
    ∀ (listed : Array Bool) (a : Act) (w : World), FreeAt md ops oi i listed → listed.getD m true = false → i ∈ Region.ready md ops listed → YieldsIf P ops S oi v a → S w →
      wpAnyL P md ops Q m S fuel (listed.setIfInBounds i true) (a.put oi.dst v) w → wpAnyL P md ops Q m S (fuel + 1) listed a w := by
  have im : ∀ {listed}, i ∈ Region.ready md ops listed → i ≠ m := fun hr e => waits_not hw hr (e ▸ hr)
  induction fuel with
  | zero =>
    intro listed a w _ _ hr hy hS H
    refine ⟨fun h => absurd hr (by rw [h]; simp), fun j hj => ?_⟩
    rcases Nat.decEq j i with hji | rfl
    · exact absurd (ready_mono hj hji) (by rw [H.1]; simp)
    · exact hy.wpOp hi hS ⟨fun _ => hS, H⟩
  | succ fuel ih =>
    intro listed a w hfree hmf hr hy hS H
    refine ⟨fun h => absurd hr (by rw [h]; simp), fun j hj => ?_⟩
    rcases Nat.decEq j i with hji | rfl
    · have hjm : j ≠ m := fun e => waits_not hw hr (e ▸ hj)
      obtain ⟨hjun, oj, hoj, hno⟩ := ready_pair hr hj
      refine wpOp_mono (fun a' w' h3 => ?_) (wpOp_putIf hoj (hfree j oj hoj hji hjun hno) (fun cs b => hsel i oi cs b hi) (fun cs b => hsel j oj cs b hoj) hQ hy (H.2 j (ready_mono hj hji)))
      have hS' : S w' := h3.2.1 (by rw [getD_set_ne true hjm, getD_set_ne true (im hr)]; exact hmf)
      exact ⟨fun _ => hS', ih _ a' w' (hfree.set hjun) (by rw [getD_set_ne true hjm]; exact hmf) (ready_mono hr (Ne.symm hji)) h3.1 hS' (by rw [Array.setIfInBounds_comm _ _ hji]; exact h3.2.2)⟩
    · exact hy.wpOp hi hS ⟨fun _ => hS, H⟩
end

section
variable {P : Program} {md : Region.Mode} {l : List Oper} {Q : Exit → Act → World → Prop} {S : World → Prop} {oi : Oper} {rest : List Oper} {fuel m : Nat} {listed : Array Bool} {a : Act} {w : World}

/-- Take number i first: it is carried out and yields v in every world that meets S. -/
theorem takeL (i : Nat) {v : Value} (hi : l.drop i = oi :: rest) (hs : Region.noSelect l.toArray = true) (hf : Region.free md l.toArray listed i = true) (hr : (Region.ready md l.toArray listed).contains i = true) (hm : waits md l.toArray m i = true) (hm' : listed.getD m true = false)
    (hQ : ∀ c a w, Q (.panic c) (a.put oi.dst v) w → Q (.panic c) a w) (hS : S w) (hw : Region.wanted oi (yielded l.toArray a.tmps) = true)
    (hy : ∀ w, S w → (execOp a.eval oi).run P w = .ok (.value v) w)
    (h : wpAnyL P md l.toArray Q m S fuel (listed.setIfInBounds i true) (a.put oi.dst v) w) : wpAnyL P md l.toArray Q m S (fuel + 1) listed a w :=
  firstL (drop_at hi) (Region.noSelect_spec hs) hQ hm fuel listed a w (Region.free_spec (drop_at hi) hf) hm' (by simpa using hr) (.inl ⟨hw, hy⟩) hS h
/-- Number i is left out by its guard. -/
theorem skipL (i : Nat) (hi : l.drop i = oi :: rest) (hs : Region.noSelect l.toArray = true) (hf : Region.free md l.toArray listed i = true) (hr : (Region.ready md l.toArray listed).contains i = true) (hm : waits md l.toArray m i = true) (hm' : listed.getD m true = false)
    (hQ : ∀ c a w, Q (.panic c) (a.put oi.dst undef) w → Q (.panic c) a w) (hS : S w) (hw : Region.wanted oi (yielded l.toArray a.tmps) = false)
    (h : wpAnyL P md l.toArray Q m S fuel (listed.setIfInBounds i true) (a.put oi.dst undef) w) : wpAnyL P md l.toArray Q m S (fuel + 1) listed a w :=
  firstL (drop_at hi) (Region.noSelect_spec hs) hQ hm fuel listed a w (Region.free_spec (drop_at hi) hf) hm' (by simpa using hr) (.inr ⟨hw, rfl⟩) hS h
/-- Number i alone may come up, and is not the last: it is carried out, and S is shown behind it. -/
theorem callL (i : Nat) (hi : l.drop i = oi :: rest) (hr : Region.ready md l.toArray listed = [i]) (hw : Region.wanted oi (yielded l.toArray a.tmps) = true)
    (h : ∀ K' : Act → World → Prop, Shut (∀ a w, S w → (S w → wpAnyL P md l.toArray Q m S fuel (listed.setIfInBounds i true) a w) → K' a w) → Oper.wp P oi a w K' Q) : wpAnyL P md l.toArray Q m S (fuel + 1) listed a w := by
  refine ⟨fun h0 => absurd (hr ▸ h0) (by simp), fun j hj => ?_⟩
  rw [hr] at hj
  have : j = i := by simpa using hj
  subst this
  exact wpOp_step (drop_at hi) fun K' hK => by rw [if_pos hw]; exact h K' fun a w hS hW => hK a w ⟨fun _ => hS, hW hS⟩
/-- The last one. -/
theorem lastL (hi : l.drop m = oi :: rest) (hr : Region.ready md l.toArray listed = [m]) (hend : Region.ready md l.toArray (listed.setIfInBounds m true) = []) (hm : (listed.setIfInBounds m true).getD m true = true) (hw : Region.wanted oi (yielded l.toArray a.tmps) = true)
    (h : ∀ K' : Act → World → Prop, Shut (∀ a w, Q .normal a w → K' a w) → Oper.wp P oi a w K' Q) : wpAnyL P md l.toArray Q m S (fuel + 1) listed a w := by
  refine ⟨fun h0 => absurd (hr ▸ h0) (by simp), fun j hj => ?_⟩
  rw [hr] at hj
  have : j = m := by simpa using hj
  subst this
  refine wpOp_step (drop_at hi) fun K' hK => by
    rw [if_pos hw]
    refine h K' fun a w hq => hK a w ⟨fun e => absurd (hm.symm.trans e) (by simp), ?_⟩
    cases fuel with
    | zero => exact ⟨hend, hq⟩
    | succ f => exact ⟨fun _ => hq, by rw [hend]; simp⟩
theorem wp_region_L (m : Nat) (S : World → Prop) {id : Nat} {ops : Array Oper} {a : Act} {w : World} (hm : P.follows .mixedOrders = true) (hS : S w.drew)
    (h : S w.drew → wpAnyL P .any ops Q m S ops.size (Array.replicate ops.size false) a w.drew) : (Code.region id ops true).wp P Q a w :=
  wp_region_any hm (any_of_L _ _ _ _ (h hS))
end

end Go.Proofs.Ythojbcecbeapgab

/- How impl puts a batch into its linked list, by a walk of its text; condition: the list lies as it should and is that of a valid store. -/
namespace Go.Proofs.Ythojbcecbeapgab
open Go.RowKit

set_option maxHeartbeats 1000000 in
theorem impl_hasSpace (lo hi P : Nat) (f : Int) (ns : List (Nat × Bt)) (b : Bt) (w : World) (h : LS w lo hi P f ns) (hst : stB f (bsL ns) = true) (hb : btB b = true) :
    Calls Try.prog 52 #[ptV P, agB b] w fun e w' => e = .returned (.bool (decide ((bsL ns).length < 12 ∧ usZ (bsL ns) b.a + b.s ≤ 30))) ∧ Below w.heap.size w w' := by
  have hv := (stB_P hst).2.2.2
  have hl12 := (stB_P hst).2.1
  have hlb := bsL_len ns
  have hbs := (btB_iff.1 hb).2.2.2
  have hu0 := (us_small (fun x hx => (hv x hx).1) b.a)
  obtain ⟨d, a, r, s⟩ := b
  dsimp only at hbs hu0
  have hb0 : Below w.heap.size w (w.alloc (.cells #[.int .i64 d, .int .i64 a, .int .i64 r, .int .i64 s] 27)) := (Below.refl _ _).alloc (Nat.le_refl _) _
  have s0 := Str.new w 27 #[.int .i64 d, .int .i64 a, .int .i64 r, .int .i64 s]
  have h0 := h.under hb0
  have hz0 : w.heap.size < (w.alloc (.cells #[.int .i64 d, .int .i64 a, .int .i64 r, .int .i64 s] 27)).heap.size := by simp
  have HC := Lib.hid (fun W (hb : Below (w.alloc (.cells #[.int .i64 d, .int .i64 a, .int .i64 r, .int .i64 s] 27)).heap.size (w.alloc (.cells #[.int .i64 d, .int .i64 a, .int .i64 r, .int .i64 s] 27)) W) => impl_count lo hi P f ns W (h0.under hb) (by omega))
  have HU := Lib.hid (fun W (hb : Below (w.alloc (.cells #[.int .i64 d, .int .i64 a, .int .i64 r, .int .i64 s] 27)).heap.size (w.alloc (.cells #[.int .i64 d, .int .i64 a, .int .i64 r, .int .i64 s] 27)) W) => impl_used lo hi P f ns a W (h0.under hb) (by omega) (fun x hx => (hv x hx).1))
  have Hb0 := Lib.hid hb0
  have k1 := s0.cell 1 (v := .int .i64 a) rfl
  have k3 := s0.cell 3 (v := .int .i64 s) rfl
  obtain ⟨z, hz⟩ : ∃ z, z = decide ((bsL ns).length < 12 ∧ usZ (bsL ns) a + s ≤ 30) := ⟨_, rfl⟩
  have Hz := Lib.hid hz
  show Calls _ _ _ _ fun e w' => e = .returned (.bool (decide ((bsL ns).length < 12 ∧ usZ (bsL ns) a + s ≤ 30))) ∧ _
  rw [← hz]
  obtain ⟨n, hn⟩ : ∃ n, n = (bsL ns).length := ⟨_, rfl⟩
  obtain ⟨u, hu⟩ : ∃ u, u = usZ (bsL ns) a := ⟨_, rfl⟩
  rw [← hn] at HC Hz hl12 hu0
  rw [← hu] at HU Hz hu0
  clear h0 hb0 s0 h hv hst hb hz hn hu hlb
  unfold agB
  go_enter Try.func52, Try.ntmps52
  go_wp2_with fail
  generalize w.alloc (.cells #[.int .i64 d, .int .i64 a, .int .i64 r, .int .i64 s] 27) = W0 at *
  generalize hSB : w.heap.size = SB at *
  by_cases hn12 : n < 12
  · have hn12' : (n : Int) < 12 := by omega
    have hd12 : decide ((n : Int) < 12) = true := decide_eq_true hn12'
    have Hf := Lib.hid (show z = decide (u + s ≤ 30) from Hz.out.trans (decide_eq_decide.2 (by omega)))
    have hw : IntKind.i64.wrap (u + s) = u + s := IntWalk.i64_in _ (by omega)
    clear hn12
    refine wp_region_held_drew (S := fun W => Below W0.heap.size W0 W ∧ W.cell? ⟨SB, 1, none⟩ = some (.int .i64 a) ∧ W.cell? ⟨SB, 3, none⟩ = some (.int .i64 s) ∧ SB < W.heap.size) (by kernel_rfl) ⟨(Below.refl _ _).drew, k1, k3, hz0⟩ (fun hH => ?_)
    refine takeH 0 (v := ?vra1) rfl (by kernel_rfl) (by kernel_rfl) (by kernel_rfl) (fun _ _ _ h => h) hH rfl ?yra1 ?rra1
    case yra1 => intro W hSw; go_simp; try with_reducible rfl
    try simp only [Act.put, List.setIfInBounds_toArray, List.set_cons_zero, List.set_cons_succ]
    refine callH 1 rfl (by kernel_rfl) rfl (fun K hK => ?_)
    go_simp
    go_at_call 59
    refine (HC.out _ hH.1).mono ?_
    rintro e wz ⟨rfl, hbz⟩
    refine hK.out _ _ ⟨below_step hH.1 hH.1.size hbz, (hbz.cell (p := ⟨SB, 1, none⟩) hH.2.2.2).trans hH.2.1, (hbz.cell (p := ⟨SB, 3, none⟩) hH.2.2.2).trans hH.2.2.1, Nat.lt_of_lt_of_le hH.2.2.2 hbz.size⟩ (fun hH => ?_)
    clear hK K
    try simp only [Act.put, List.setIfInBounds_toArray, List.set_cons_zero, List.set_cons_succ]
    refine takeH 2 (v := .bool true) rfl (by kernel_rfl) (by kernel_rfl) (by kernel_rfl) (fun _ _ _ h => h) hH rfl ?yra2 ?rra2
    case yra2 => intro W hSw; go_simp; first | done | simp only [hd12] | omega | (simp; omega)
    try simp only [Act.put, List.setIfInBounds_toArray, List.set_cons_zero, List.set_cons_succ]
    refine takeH 3 (v := ?vra3) rfl (by kernel_rfl) (by kernel_rfl) (by kernel_rfl) (fun _ _ _ h => h) hH rfl ?yra3 ?rra3
    case yra3 => intro W hSw; go_simp; try with_reducible rfl
    try simp only [Act.put, List.setIfInBounds_toArray, List.set_cons_zero, List.set_cons_succ]
    refine takeH 4 (v := ?vra4) rfl (by kernel_rfl) (by kernel_rfl) (by kernel_rfl) (fun _ _ _ h => h) hH rfl ?yra4 ?rra4
    case yra4 => intro W hSw; go_simp; try with_reducible rfl
    try simp only [Act.put, List.setIfInBounds_toArray, List.set_cons_zero, List.set_cons_succ]
    refine takeH 5 (v := ?vra5) rfl (by kernel_rfl) (by kernel_rfl) (by kernel_rfl) (fun _ _ _ h => h) hH rfl ?yra5 ?rra5
    case yra5 => intro W hSw; go_simp; try with_reducible rfl
    try simp only [Act.put, List.setIfInBounds_toArray, List.set_cons_zero, List.set_cons_succ]
    refine takeH 6 (v := ?vra6) rfl (by kernel_rfl) (by kernel_rfl) (by kernel_rfl) (fun _ _ _ h => h) hH rfl ?yra6 ?rra6
    case yra6 => intro W hSw; go_simp; try with_reducible rfl
    try simp only [Act.put, List.setIfInBounds_toArray, List.set_cons_zero, List.set_cons_succ]
    refine takeH 8 (v := ?vra7) rfl (by kernel_rfl) (by kernel_rfl) (by kernel_rfl) (fun _ _ _ h => h) hH rfl ?yra7 ?rra7
    case yra7 => intro W hSw; go_simp; try with_reducible rfl
    try simp only [Act.put, List.setIfInBounds_toArray, List.set_cons_zero, List.set_cons_succ]
    refine takeH 9 (v := ?vra8) rfl (by kernel_rfl) (by kernel_rfl) (by kernel_rfl) (fun _ _ _ h => h) hH rfl ?yra8 ?rra8
    case yra8 => intro W hSw; go_simp; try with_reducible rfl
    try simp only [Act.put, List.setIfInBounds_toArray, List.set_cons_zero, List.set_cons_succ]
    refine callH 7 rfl (by kernel_rfl) rfl (fun K hK => ?_)
    go_simp
    go_at_call 39
    refine (HU.out _ hH.1).mono ?_
    rintro e wz ⟨rfl, hbz⟩
    refine hK.out _ _ ⟨below_step hH.1 hH.1.size hbz, (hbz.cell (p := ⟨SB, 1, none⟩) hH.2.2.2).trans hH.2.1, (hbz.cell (p := ⟨SB, 3, none⟩) hH.2.2.2).trans hH.2.2.1, Nat.lt_of_lt_of_le hH.2.2.2 hbz.size⟩ (fun hH => ?_)
    clear hK K
    try simp only [Act.put, List.setIfInBounds_toArray, List.set_cons_zero, List.set_cons_succ]
    refine takeH 10 (v := ?vra9) rfl (by kernel_rfl) (by kernel_rfl) (by kernel_rfl) (fun _ _ _ h => h) hH rfl ?yra9 ?rra9
    case yra9 => intro W hSw; go_simp; try with_reducible rfl
    try simp only [Act.put, List.setIfInBounds_toArray, List.set_cons_zero, List.set_cons_succ]
    refine takeH 11 (v := ?vra10) rfl (by kernel_rfl) (by kernel_rfl) (by kernel_rfl) (fun _ _ _ h => h) hH rfl ?yra10 ?rra10
    case yra10 => intro W hSw; go_simp; try with_reducible rfl
    try simp only [Act.put, List.setIfInBounds_toArray, List.set_cons_zero, List.set_cons_succ]
    refine takeH 12 (v := ?vra11) rfl (by kernel_rfl) (by kernel_rfl) (by kernel_rfl) (fun _ _ _ h => h) hH rfl ?yra11 ?rra11
    case yra11 => intro W hSw; go_simp; try with_reducible rfl
    try simp only [Act.put, List.setIfInBounds_toArray, List.set_cons_zero, List.set_cons_succ]
    refine takeH 13 (v := ?vra12) rfl (by kernel_rfl) (by kernel_rfl) (by kernel_rfl) (fun _ _ _ h => h) hH rfl ?yra12 ?rra12
    case yra12 => intro W hSw; go_simp; try with_reducible rfl
    try simp only [Act.put, List.setIfInBounds_toArray, List.set_cons_zero, List.set_cons_succ]
    have Hbz := Lib.hid hH.1
    refine wpAnyH_done (by kernel_rfl) ?_ _
    try simp only [Act.put]
    clear hH k1 k3

    go_wp2
    go_ret
    exact ⟨ret_bool (by rw [Hf.out]), by first | exact Hb0.out.trans (Hbz.out.mono (by omega)) | (rw [hSB]; exact Hb0.out.trans (Hbz.out.mono (by omega)))⟩
  · have hn12' : ¬ (n : Int) < 12 := by omega
    have hd12 : decide ((n : Int) < 12) = false := decide_eq_false hn12'
    have Hf := Lib.hid (show z = false from Hz.out.trans (decide_eq_false (by omega)))
    clear hn12
    refine wp_region_held_drew (S := fun W => Below W0.heap.size W0 W ∧ W.cell? ⟨SB, 1, none⟩ = some (.int .i64 a) ∧ W.cell? ⟨SB, 3, none⟩ = some (.int .i64 s) ∧ SB < W.heap.size) (by kernel_rfl) ⟨(Below.refl _ _).drew, k1, k3, hz0⟩ (fun hH => ?_)
    refine takeH 0 (v := ?vrb1) rfl (by kernel_rfl) (by kernel_rfl) (by kernel_rfl) (fun _ _ _ h => h) hH rfl ?yrb1 ?rrb1
    case yrb1 => intro W hSw; go_simp; try with_reducible rfl
    try simp only [Act.put, List.setIfInBounds_toArray, List.set_cons_zero, List.set_cons_succ]
    refine callH 1 rfl (by kernel_rfl) rfl (fun K hK => ?_)
    go_simp
    go_at_call 59
    refine (HC.out _ hH.1).mono ?_
    rintro e wz ⟨rfl, hbz⟩
    refine hK.out _ _ ⟨below_step hH.1 hH.1.size hbz, (hbz.cell (p := ⟨SB, 1, none⟩) hH.2.2.2).trans hH.2.1, (hbz.cell (p := ⟨SB, 3, none⟩) hH.2.2.2).trans hH.2.2.1, Nat.lt_of_lt_of_le hH.2.2.2 hbz.size⟩ (fun hH => ?_)
    clear hK K
    try simp only [Act.put, List.setIfInBounds_toArray, List.set_cons_zero, List.set_cons_succ]
    refine takeH 2 (v := .bool false) rfl (by kernel_rfl) (by kernel_rfl) (by kernel_rfl) (fun _ _ _ h => h) hH rfl ?yrb2 ?rrb2
    case yrb2 => intro W hSw; go_simp; first | done | simp only [hd12] | omega | (simp; omega)
    try simp only [Act.put, List.setIfInBounds_toArray, List.set_cons_zero, List.set_cons_succ]
    refine takeH 3 (v := ?vrb3) rfl (by kernel_rfl) (by kernel_rfl) (by kernel_rfl) (fun _ _ _ h => h) hH rfl ?yrb3 ?rrb3
    case yrb3 => intro W hSw; go_simp; try with_reducible rfl
    try simp only [Act.put, List.setIfInBounds_toArray, List.set_cons_zero, List.set_cons_succ]
    refine skipH 4 rfl (by kernel_rfl) (by kernel_rfl) (by kernel_rfl) (fun _ _ _ h => h) hH rfl ?_
    try simp only [Act.put, List.setIfInBounds_toArray, List.set_cons_zero, List.set_cons_succ]
    refine skipH 5 rfl (by kernel_rfl) (by kernel_rfl) (by kernel_rfl) (fun _ _ _ h => h) hH rfl ?_
    try simp only [Act.put, List.setIfInBounds_toArray, List.set_cons_zero, List.set_cons_succ]
    refine skipH 6 rfl (by kernel_rfl) (by kernel_rfl) (by kernel_rfl) (fun _ _ _ h => h) hH rfl ?_
    try simp only [Act.put, List.setIfInBounds_toArray, List.set_cons_zero, List.set_cons_succ]
    refine skipH 7 rfl (by kernel_rfl) (by kernel_rfl) (by kernel_rfl) (fun _ _ _ h => h) hH rfl ?_
    try simp only [Act.put, List.setIfInBounds_toArray, List.set_cons_zero, List.set_cons_succ]
    refine skipH 8 rfl (by kernel_rfl) (by kernel_rfl) (by kernel_rfl) (fun _ _ _ h => h) hH rfl ?_
    try simp only [Act.put, List.setIfInBounds_toArray, List.set_cons_zero, List.set_cons_succ]
    refine skipH 9 rfl (by kernel_rfl) (by kernel_rfl) (by kernel_rfl) (fun _ _ _ h => h) hH rfl ?_
    try simp only [Act.put, List.setIfInBounds_toArray, List.set_cons_zero, List.set_cons_succ]
    refine skipH 10 rfl (by kernel_rfl) (by kernel_rfl) (by kernel_rfl) (fun _ _ _ h => h) hH rfl ?_
    try simp only [Act.put, List.setIfInBounds_toArray, List.set_cons_zero, List.set_cons_succ]
    refine skipH 11 rfl (by kernel_rfl) (by kernel_rfl) (by kernel_rfl) (fun _ _ _ h => h) hH rfl ?_
    try simp only [Act.put, List.setIfInBounds_toArray, List.set_cons_zero, List.set_cons_succ]
    refine takeH 12 (v := ?vrb4) rfl (by kernel_rfl) (by kernel_rfl) (by kernel_rfl) (fun _ _ _ h => h) hH rfl ?yrb4 ?rrb4
    case yrb4 => intro W hSw; go_simp; try with_reducible rfl
    try simp only [Act.put, List.setIfInBounds_toArray, List.set_cons_zero, List.set_cons_succ]
    refine takeH 13 (v := ?vrb5) rfl (by kernel_rfl) (by kernel_rfl) (by kernel_rfl) (fun _ _ _ h => h) hH rfl ?yrb5 ?rrb5
    case yrb5 => intro W hSw; go_simp; try with_reducible rfl
    try simp only [Act.put, List.setIfInBounds_toArray, List.set_cons_zero, List.set_cons_succ]
    have Hbz := Lib.hid hH.1
    refine wpAnyH_done (by kernel_rfl) ?_ _
    try simp only [Act.put]
    clear hH k1 k3
    go_wp2
    go_ret
    exact ⟨ret_bool (by rw [Hf.out]), by first | exact Hb0.out.trans (Hbz.out.mono (by omega)) | (rw [hSB]; exact Hb0.out.trans (Hbz.out.mono (by omega)))⟩

/-- What 'put' answers, and what the list is behind it; the blocks from hi on stay. -/
def PutP (lo hi P : Nat) (f : Int) (l : List Bt) (b : Bt) (w : World) (e : Ending) (w' : World) : Prop :=
  e = .returned (.int .i64 (pcZ f l b)) ∧ ∃ hi' ns', LS w' lo hi' P f ns' ∧ bsL ns' = (if pcZ f l b = 0 then inS l b else l) ∧ Below lo w w' ∧ ∀ B, hi ≤ B → B < w.heap.size → w'.heap[B]? = w.heap[B]?
theorem PutP.no {lo hi P : Nat} {f : Int} {ns : List (Nat × Bt)} {b : Bt} {w w' : World} {e : Ending} (c : Int) (h : e = .returned (.int .i64 c)) (hc : pcZ f (bsL ns) b = c) (h0 : c ≠ 0) (hl : LS w' lo hi P f ns) (hlow : lo ≤ w.heap.size) (hb : Below w.heap.size w w') : PutP lo hi P f (bsL ns) b w e w' :=
  ⟨by rw [h, hc], hi, ns, hl, by rw [if_neg (by rw [hc]; exact h0)], hb.mono hlow, fun B _ h => hb.block B h⟩
theorem PutP.yes {lo hi hi' P : Nat} {f : Int} {l : List Bt} {ns' : List (Nat × Bt)} {b : Bt} {w w7 : World} {e : Ending} {q : Nat} {v : Value} (h : e = .returned (.int .i64 0)) (hc : pcZ f l b = 0) (hl : LS (w7.setCell ⟨q, 4, none⟩ v) lo hi' P f ns') (hn : bsL ns' = inS l b) (hlow : lo ≤ w.heap.size) (hb : Below w.heap.size w w7) (hq : lo ≤ q) (hq2 : q < hi) : PutP lo hi P f l b w e (w7.setCell ⟨q, 4, none⟩ v) :=
  ⟨by rw [h, hc], hi', ns', hl, by rw [if_pos hc]; exact hn, (hb.mono hlow).setCell (p := ⟨q, 4, none⟩) hq v, fun B h1 h2 => (Below.heap_setCell _ _ _ B (by simp only; omega)).trans (hb.block B h2)⟩
set_option maxHeartbeats 2000000 in
theorem impl_put (lo hi P : Nat) (f : Int) (ns : List (Nat × Bt)) (b : Bt) (w : World) (h : LS w lo hi P f ns) (hst : stB f (bsL ns) = true) :
    Calls Try.prog 34 #[ptV P, agB b] w (PutP lo hi P f (bsL ns) b w) := by
  have hlow : lo ≤ w.heap.size := by have := h.loP; have := h.ltP; have := h.le; omega
  have hb0 : Below w.heap.size w (w.alloc (.cells #[.int .i64 b.d, .int .i64 b.a, .int .i64 b.r, .int .i64 b.s] 27)) := (Below.refl _ _).alloc (Nat.le_refl _) _
  have s0 := Str.new w 27 #[.int .i64 b.d, .int .i64 b.a, .int .i64 b.r, .int .i64 b.s]
  have hz0 : w.heap.size < (w.alloc (.cells #[.int .i64 b.d, .int .i64 b.a, .int .i64 b.r, .int .i64 b.s] 27)).heap.size := by simp
  have HS := Lib.hid (stB_P hst).2.2.1
  have Hst := Lib.hid hst
  have H := Lib.hid (h.under hb0)
  have Hb := Lib.hid hb0; have S0 := Lib.hid s0
  have HV := Lib.hid (fun W => batch_valid b W)
  have HK := Lib.hid (kn_ge (l := bsL ns) (d := b.d))
  have k0 := s0.cell 0 (v := .int .i64 b.d) rfl
  have k1 := s0.cell 1 (v := .int .i64 b.a) rfl
  have k2 := s0.cell 2 (v := .int .i64 b.r) rfl
  have k3 := s0.cell 3 (v := .int .i64 b.s) rfl
  clear hb0 s0 h hst
  unfold agB
  go_enter Try.func34, Try.ntmps34
  go_wp2_with fail
  generalize w.alloc (.cells #[.int .i64 b.d, .int .i64 b.a, .int .i64 b.r, .int .i64 b.s] 27) = W0 at *
  refine (HV.out W0).mono ?_
  rintro e w1 ⟨rfl, hb1⟩
  clear k0 k1 k2 k3
  have S1 := Lib.hid (show Str w1 w.heap.size 27 #[.int .i64 b.d, .int .i64 b.a, .int .i64 b.r, .int .i64 b.s] from (hb1.block _ S0.out.lt).trans S0.out)
  have H := Lib.hid (H.out.under hb1)
  have Hb := Lib.hid (below_step Hb.out Hb.out.size hb1)
  have k0 := S1.out.cell 0 (v := .int .i64 b.d) rfl
  have k1 := S1.out.cell 1 (v := .int .i64 b.a) rfl
  have k2 := S1.out.cell 2 (v := .int .i64 b.r) rfl
  have k3 := S1.out.cell 3 (v := .int .i64 b.s) rfl
  clear hb1
  cases hv : btB b with
  | false =>
    have Hc := Lib.hid (show pcZ f (bsL ns) b = 4 by unfold pcZ; rw [hv]; rfl)
    clear hv
    go_wp2
    go_ret
    exact PutP.no 4 rfl Hc.out (by omega) H.out hlow Hb.out
  | true =>
  have Hv := Lib.hid hv; clear hv
  go_wp2_with fail
  refine (impl_find lo hi P f ns b.d w1 H.out HS.out).mono ?_
  rintro e w2 ⟨hf, hd2⟩
  have hb2 := hd2.below w1.heap.size
  clear k0 k1 k2 k3 hd2
  have S2 := Lib.hid (show Str w2 w.heap.size 27 #[.int .i64 b.d, .int .i64 b.a, .int .i64 b.r, .int .i64 b.s] from (hb2.block _ S1.out.lt).trans S1.out)
  have H := Lib.hid (H.out.under hb2)
  have Hb := Lib.hid (below_step Hb.out Hb.out.size hb2)
  have k0 := S2.out.cell 0 (v := .int .i64 b.d) rfl
  have k1 := S2.out.cell 1 (v := .int .i64 b.a) rfl
  have k2 := S2.out.cell 2 (v := .int .i64 b.r) rfl
  have k3 := S2.out.cell 3 (v := .int .i64 b.s) rfl
  clear hb2
  cases hg : geF (bsL ns) b.d with
  | some x =>
    have hk : knB (bsL ns) b.d = true := by rw [HK.out, hg]; rfl
    have Hc := Lib.hid (show pcZ f (bsL ns) b = 1 by unfold pcZ; rw [if_pos Hv.out, if_pos hk])
    rw [hg] at hf
    obtain ⟨k, q, rfl, _⟩ := hf
    clear hk hg
    unfold ptV
    go_wp2
    go_ret
    exact PutP.no 1 rfl Hc.out (by omega) H.out hlow Hb.out
  | none =>
  have hk : knB (bsL ns) b.d = false := by rw [HK.out, hg]; rfl
  have Hk := Lib.hid hk
  rw [hg] at hf
  have hf' : e = .returned (.pointer none) := hf
  subst hf'
  clear hk hg hf
  obtain ⟨z0, _, _, _⟩ := H.out.cell
  have hbd : Below w2.heap.size w2 w2.drew := (Below.refl _ _).drew
  unfold ptV
  go_wp2_with fail
  refine wp_region_held_drew (S := fun W => W.cell? ⟨w.heap.size, 2, none⟩ = some (.int .i64 b.r) ∧ W.cell? ⟨P, 0, none⟩ = some (.int .i64 f)) (by kernel_rfl) ⟨k2, z0⟩ (fun hH => ?_)
  refine takeH 0 (v := ?vrf1) rfl (by kernel_rfl) (by kernel_rfl) (by kernel_rfl) (fun _ _ _ h => h) hH rfl ?yrf1 ?rrf1
  case yrf1 => intro W hSw; go_simp; try with_reducible rfl
  try simp only [Act.put, List.setIfInBounds_toArray, List.set_cons_zero, List.set_cons_succ]
  refine takeH 1 (v := ?vrf2) rfl (by kernel_rfl) (by kernel_rfl) (by kernel_rfl) (fun _ _ _ h => h) hH rfl ?yrf2 ?rrf2
  case yrf2 => intro W hSw; go_simp; try with_reducible rfl
  try simp only [Act.put, List.setIfInBounds_toArray, List.set_cons_zero, List.set_cons_succ]
  refine takeH 2 (v := ?vrf3) rfl (by kernel_rfl) (by kernel_rfl) (by kernel_rfl) (fun _ _ _ h => h) hH rfl ?yrf3 ?rrf3
  case yrf3 => intro W hSw; go_simp; try with_reducible rfl
  try simp only [Act.put, List.setIfInBounds_toArray, List.set_cons_zero, List.set_cons_succ]
  refine takeH 3 (v := ?vrf4) rfl (by kernel_rfl) (by kernel_rfl) (by kernel_rfl) (fun _ _ _ h => h) hH rfl ?yrf4 ?rrf4
  case yrf4 => intro W hSw; go_simp; try with_reducible rfl
  try simp only [Act.put, List.setIfInBounds_toArray, List.set_cons_zero, List.set_cons_succ]
  refine takeH 4 (v := ?vrf5) rfl (by kernel_rfl) (by kernel_rfl) (by kernel_rfl) (fun _ _ _ h => h) hH rfl ?yrf5 ?rrf5
  case yrf5 => intro W hSw; go_simp; try with_reducible rfl
  try simp only [Act.put, List.setIfInBounds_toArray, List.set_cons_zero, List.set_cons_succ]
  refine takeH 5 (v := ?vrf6) rfl (by kernel_rfl) (by kernel_rfl) (by kernel_rfl) (fun _ _ _ h => h) hH rfl ?yrf6 ?rrf6
  case yrf6 => intro W hSw; go_simp; try with_reducible rfl
  try simp only [Act.put, List.setIfInBounds_toArray, List.set_cons_zero, List.set_cons_succ]
  refine takeH 6 (v := ?vrf7) rfl (by kernel_rfl) (by kernel_rfl) (by kernel_rfl) (fun _ _ _ h => h) hH rfl ?yrf7 ?rrf7
  case yrf7 => intro W hSw; go_simp; try with_reducible rfl
  try simp only [Act.put, List.setIfInBounds_toArray, List.set_cons_zero, List.set_cons_succ]
  refine wpAnyH_done (by kernel_rfl) ?_ _
  try simp only [Act.put]
  clear hH z0 k0 k1 k2 k3
  have hb3 := hbd
  clear hbd
  generalize w2.drew = w3 at *
  have S3 := Lib.hid (show Str w3 w.heap.size 27 #[.int .i64 b.d, .int .i64 b.a, .int .i64 b.r, .int .i64 b.s] from (hb3.block _ S2.out.lt).trans S2.out)
  have H := Lib.hid (H.out.under hb3)
  have Hb := Lib.hid (below_step Hb.out Hb.out.size hb3)
  have k0 := S3.out.cell 0 (v := .int .i64 b.d) rfl
  have k1 := S3.out.cell 1 (v := .int .i64 b.a) rfl
  have k2 := S3.out.cell 2 (v := .int .i64 b.r) rfl
  have k3 := S3.out.cell 3 (v := .int .i64 b.s) rfl
  clear hb3
  by_cases hlt : b.r < f
  · have hlt' : decide (b.r < f) = true := decide_eq_true hlt
    have Hc := Lib.hid (show pcZ f (bsL ns) b = 2 by unfold pcZ; rw [if_pos Hv.out, if_neg (by rw [Hk.out]; simp), if_pos hlt])
    go_wp2
    go_ret
    exact PutP.no 2 rfl Hc.out (by omega) H.out hlow Hb.out
  have Hlt := Lib.hid hlt
  go_wp2_with fail
  refine (impl_hasSpace lo hi P f ns b w3 H.out Hst.out Hv.out).mono ?_
  rintro e w4 ⟨rfl, hb4⟩
  clear k0 k1 k2 k3 hlt
  have S4 := Lib.hid (show Str w4 w.heap.size 27 #[.int .i64 b.d, .int .i64 b.a, .int .i64 b.r, .int .i64 b.s] from (hb4.block _ S3.out.lt).trans S3.out)
  have H := Lib.hid (H.out.under hb4)
  have Hb := Lib.hid (below_step Hb.out Hb.out.size hb4)
  have k0 := S4.out.cell 0 (v := .int .i64 b.d) rfl
  have k1 := S4.out.cell 1 (v := .int .i64 b.a) rfl
  have k2 := S4.out.cell 2 (v := .int .i64 b.r) rfl
  have k3 := S4.out.cell 3 (v := .int .i64 b.s) rfl
  clear hb4
  by_cases hsp : (bsL ns).length < 12 ∧ usZ (bsL ns) b.a + b.s ≤ 30
  case neg =>
    rw [decide_eq_false hsp]
    have Hc := Lib.hid (show pcZ f (bsL ns) b = 3 by unfold pcZ; rw [if_pos Hv.out, if_neg (by rw [Hk.out]; simp), if_neg (show ¬ b.r < f by have := Hlt.out; omega), if_pos (by omega)])
    clear hsp
    go_wp2
    go_ret
    exact PutP.no 3 rfl Hc.out (by omega) H.out hlow Hb.out
  rw [decide_eq_true hsp]
  have Hc := Lib.hid (show pcZ f (bsL ns) b = 0 by unfold pcZ; rw [if_pos Hv.out, if_neg (by rw [Hk.out]; simp), if_neg (show ¬ b.r < f by have := Hlt.out; omega), if_neg (by omega)])
  clear hsp
  go_wp2_with fail
  refine (impl_before lo hi P f ns b.d w4 H.out).mono ?_
  rintro e w5 ⟨k, q, b0, rfl, hkq, hlo, hhi, hd5⟩
  have hb5 := hd5.below w4.heap.size
  clear k0 k1 k2 k3 hd5
  have S5 := Lib.hid (show Str w5 w.heap.size 27 #[.int .i64 b.d, .int .i64 b.a, .int .i64 b.r, .int .i64 b.s] from (hb5.block _ S4.out.lt).trans S4.out)
  have H := Lib.hid (H.out.under hb5)
  have Hb := Lib.hid (below_step Hb.out Hb.out.size hb5)
  have k0 := S5.out.cell 0 (v := .int .i64 b.d) rfl
  have k1 := S5.out.cell 1 (v := .int .i64 b.a) rfl
  have k2 := S5.out.cell 2 (v := .int .i64 b.r) rfl
  have k3 := S5.out.cell 3 (v := .int .i64 b.s) rfl
  clear hb5
  have hcn := (H.out.node hkq).2.2.2.2.1
  have hfz := (H.out.node hkq).2.2.2.2.2 4
  obtain ⟨pa, hpa⟩ := nxV_ptr ns (k + 1)
  rw [hpa] at hcn
  have Hpa := Lib.hid hpa
  clear hpa
  have Hkq := Lib.hid hkq
  have Hin := Lib.hid (show bsL (insA ns k (w5.heap.size, b)) = inS (bsL ns) b by rw [insA_bs (List.getElem?_eq_some_iff.1 hkq).1]; unfold inS; rw [hlo, hhi])
  clear hkq hlo hhi
  have hbd : Below w5.heap.size w5 w5.drew := (Below.refl _ _).drew
  have hqlt : q < w5.heap.size := World.block_lt_of_cell? _ _ hcn
  have hSlt := S5.out.lt
  unfold ptV
  go_wp2_with fail
  refine wp_region_L 10 (fun W => W.cell? ⟨w.heap.size, 0, none⟩ = some (.int .i64 b.d) ∧ W.cell? ⟨w.heap.size, 1, none⟩ = some (.int .i64 b.a) ∧ W.cell? ⟨w.heap.size, 2, none⟩ = some (.int .i64 b.r) ∧ W.cell? ⟨w.heap.size, 3, none⟩ = some (.int .i64 b.s) ∧ W.cell? ⟨q, 4, none⟩ = some (.pointer pa)) (by kernel_rfl) ⟨k0, k1, k2, k3, hcn⟩ (fun hH => ?_)
  have Hb := Lib.hid (below_step Hb.out Hb.out.size hbd)
  have H := Lib.hid (H.out.under hbd)
  have hzd : w5.drew.heap.size = w5.heap.size := rfl
  have Hzd := Lib.hid hzd
  have hSl2 : w.heap.size < w5.drew.heap.size := hSlt
  have hql2 : q < w5.drew.heap.size := hqlt
  clear hzd hSlt hqlt
  have hfz : w5.drew.frozen? ⟨q, 4, none⟩ = false := hfz
  clear hbd k0 k1 k2 k3 hcn
  generalize w5.drew = w6 at *
  refine takeL 0 (v := ?vrn1) rfl (by kernel_rfl) (by kernel_rfl) (by kernel_rfl) (by kernel_rfl) (by kernel_rfl) (fun _ _ _ h => h) hH rfl ?yrn1 ?rrn1
  case yrn1 => intro W hSw; go_simp; try with_reducible rfl
  try simp only [Act.put, List.setIfInBounds_toArray, List.set_cons_zero, List.set_cons_succ]
  refine takeL 1 (v := ?vrn2) rfl (by kernel_rfl) (by kernel_rfl) (by kernel_rfl) (by kernel_rfl) (by kernel_rfl) (fun _ _ _ h => h) hH rfl ?yrn2 ?rrn2
  case yrn2 => intro W hSw; go_simp; try with_reducible rfl
  try simp only [Act.put, List.setIfInBounds_toArray, List.set_cons_zero, List.set_cons_succ]
  refine takeL 2 (v := ?vrn3) rfl (by kernel_rfl) (by kernel_rfl) (by kernel_rfl) (by kernel_rfl) (by kernel_rfl) (fun _ _ _ h => h) hH rfl ?yrn3 ?rrn3
  case yrn3 => intro W hSw; go_simp; try with_reducible rfl
  try simp only [Act.put, List.setIfInBounds_toArray, List.set_cons_zero, List.set_cons_succ]
  refine takeL 3 (v := ?vrn4) rfl (by kernel_rfl) (by kernel_rfl) (by kernel_rfl) (by kernel_rfl) (by kernel_rfl) (fun _ _ _ h => h) hH rfl ?yrn4 ?rrn4
  case yrn4 => intro W hSw; go_simp; try with_reducible rfl
  try simp only [Act.put, List.setIfInBounds_toArray, List.set_cons_zero, List.set_cons_succ]
  refine takeL 4 (v := ?vrn5) rfl (by kernel_rfl) (by kernel_rfl) (by kernel_rfl) (by kernel_rfl) (by kernel_rfl) (fun _ _ _ h => h) hH rfl ?yrn5 ?rrn5
  case yrn5 => intro W hSw; go_simp; try with_reducible rfl
  try simp only [Act.put, List.setIfInBounds_toArray, List.set_cons_zero, List.set_cons_succ]
  refine takeL 5 (v := ?vrn6) rfl (by kernel_rfl) (by kernel_rfl) (by kernel_rfl) (by kernel_rfl) (by kernel_rfl) (fun _ _ _ h => h) hH rfl ?yrn6 ?rrn6
  case yrn6 => intro W hSw; go_simp; try with_reducible rfl
  try simp only [Act.put, List.setIfInBounds_toArray, List.set_cons_zero, List.set_cons_succ]
  refine takeL 6 (v := ?vrn7) rfl (by kernel_rfl) (by kernel_rfl) (by kernel_rfl) (by kernel_rfl) (by kernel_rfl) (fun _ _ _ h => h) hH rfl ?yrn7 ?rrn7
  case yrn7 => intro W hSw; go_simp; try with_reducible rfl
  try simp only [Act.put, List.setIfInBounds_toArray, List.set_cons_zero, List.set_cons_succ]
  refine callL 7 rfl (by kernel_rfl) rfl (fun K hK => ?_)
  go_simp
  have hal : Below w6.heap.size w6 (w6.alloc (.cells #[.int .i64 b.d, .int .i64 b.a, .int .i64 b.r, .int .i64 b.s, .pointer pa] 69)) := (Below.refl _ _).alloc (Nat.le_refl _) _
  refine hK.out _ _ ⟨(hal.cell (p := ⟨w.heap.size, 0, none⟩) (by simp only; omega)).trans hH.1, (hal.cell (p := ⟨w.heap.size, 1, none⟩) (by simp only; omega)).trans hH.2.1, (hal.cell (p := ⟨w.heap.size, 2, none⟩) (by simp only; omega)).trans hH.2.2.1, (hal.cell (p := ⟨w.heap.size, 3, none⟩) (by simp only; omega)).trans hH.2.2.2.1, (hal.cell (p := ⟨q, 4, none⟩) (by simp only; omega)).trans hH.2.2.2.2⟩ (fun hH => ?_)
  clear hK K
  try simp only [Act.put, List.setIfInBounds_toArray, List.set_cons_zero, List.set_cons_succ]
  have hg7 : w6.grownBy (w6.alloc (.cells #[.int .i64 b.d, .int .i64 b.a, .int .i64 b.r, .int .i64 b.s, .pointer pa] 69)) none := World.grownBy_alloc w6 _ none
  have hs7 : Str (w6.alloc (.cells #[.int .i64 b.d, .int .i64 b.a, .int .i64 b.r, .int .i64 b.s, .pointer pa] 69)) w6.heap.size 69 (ndV b (nxV ns (k + 1))) := by rw [Hpa.out]; exact Str.new w6 _ _
  have hz7 : (w6.alloc (.cells #[.int .i64 b.d, .int .i64 b.a, .int .i64 b.r, .int .i64 b.s, .pointer pa] 69)).heap.size = w6.heap.size + 1 := by simp
  have HL := Lib.hid (H.out.put (w1 := w6.alloc (.cells #[.int .i64 b.d, .int .i64 b.a, .int .i64 b.r, .int .i64 b.s, .pointer pa] 69)) (hi2 := w6.heap.size + 1) hg7 Hkq.out H.out.le (by omega) (by have := H.out.le; omega) (by omega) hs7)
  have Hb7 := Lib.hid (below_step Hb.out Hb.out.size hal)
  have hfz7 : (w6.alloc (.cells #[.int .i64 b.d, .int .i64 b.a, .int .i64 b.r, .int .i64 b.s, .pointer pa] 69)).frozen? ⟨q, 4, none⟩ = false := ((H.out.kept hg7 (fun _ e => by cases e)).node Hkq.out).2.2.2.2.2 4
  have Hqlo := Lib.hid (H.out.inn _ _ _ Hkq.out)
  have Hin2 := Lib.hid (show bsL (insA ns k (w6.heap.size, b)) = inS (bsL ns) b by rw [Hzd.out]; exact Hin.out)
  clear hg7 hs7 hz7 hal Hin
  generalize w6.alloc (.cells #[.int .i64 b.d, .int .i64 b.a, .int .i64 b.r, .int .i64 b.s, .pointer pa] 69) = w7 at *
  generalize w6.heap.size = Q at *
  refine callL 8 rfl (by kernel_rfl) rfl (fun K hK => ?_)
  go_simp
  refine hK.out _ _ hH (fun hH => ?_)
  clear hK K
  try simp only [Act.put, List.setIfInBounds_toArray, List.set_cons_zero, List.set_cons_succ]
  refine callL 9 rfl (by kernel_rfl) rfl (fun K hK => ?_)
  go_simp
  refine hK.out _ _ hH (fun hH => ?_)
  clear hK K
  try simp only [Act.put, List.setIfInBounds_toArray, List.set_cons_zero, List.set_cons_succ]
  have c7 := hH.2.2.2.2
  refine lastL rfl (by kernel_rfl) (by kernel_rfl) (by kernel_rfl) rfl (fun K hK => ?_)
  go_simp
  refine hK.out _ _ ?_
  clear hK K
  try simp only [Act.put]
  clear hH c7 hfz7
  unfold ptV at HL
  go_wp2
  go_ret
  exact PutP.yes rfl Hc.out HL.out Hin2.out hlow Hb7.out Hqlo.out.1 Hqlo.out.2.1

end Go.Proofs.Ythojbcecbeapgab

/- How impl takes a store's batches into a linked list, by a walk of its text: it takes all of them just where the store is valid; condition: a list that is read has fewer than 2^40 elements. -/
namespace Go.Proofs.Ythojbcecbeapgab
open Go.RowKit

/-- What linkedStoreOf answers. -/
def LkP (f : Int) (l : List Bt) (w : World) (e : Ending) (w' : World) : Prop := Below w.heap.size w w' ∧
  ((stB f l = true ∧ ∃ hi P ns, e = .returned (.tuple #[ptV P, .bool true]) ∧ LS w' w.heap.size hi P f ns ∧ bsL ns = l) ∨ (stB f l = false ∧ e = .returned (.tuple #[.pointer none, .bool false])))
theorem LkP.no {f : Int} {l : List Bt} {w w' : World} {e : Ending} (h : e = .returned (.tuple #[.pointer none, .bool false])) (hs : stB f l = false) (hb : Below w.heap.size w w') : LkP f l w e w' := ⟨hb, .inr ⟨hs, h⟩⟩
theorem LkP.yes {f : Int} {l : List Bt} {w w' : World} {e : Ending} {lo hi P : Nat} {ns : List (Nat × Bt)} (h : e = .returned (.tuple #[ptV P, .bool true])) (hs : stB f l = true) (hl : LS w' lo hi P f ns) (hlo : w.heap.size ≤ lo) (hn : bsL ns = l) (hb : Below w.heap.size w w') : LkP f l w e w' :=
  ⟨hb, .inl ⟨hs, hi, P, ns, h, ⟨hl.ne, hl.st, hl.nd, hl.dj, fun k q b e => by have := hl.inn k q b e; omega, by have := hl.loP; omega, hl.ltP, hl.le⟩, hn⟩⟩
theorem st_bad {f : Int} {l : List Bt} {k : Nat} (hk : k < l.length) (hv : stB f (l.take k) = true) (h : ¬ ((∀ h : 0 < k, (l[k - 1]'(by omega)).d < l[k].d) ∧ puC f (l.take k) l[k] = 0)) : stB f l = false := by
  cases e : stB f l with
  | false => rfl
  | true => exact absurd ((st_next hk hv).1 (st_take e (k + 1))) h
set_option maxHeartbeats 4000000 in
set_option maxRecDepth 8000 in
theorem impl_linkedStoreOf (f : Int) (l : List Bt) (v : Value) (fp : List Nat) (w : World) (hbig : l.length ≤ 1099511627776) (hl : Bts w l v fp) :
    Calls Try.prog 33 #[.agg #[.int .i64 f, v]] w (LkP f l w) := by
  obtain ⟨va, vc, rfl, _⟩ := hl.slice
  have hb0 : Below w.heap.size w (w.alloc (.cells #[.int .i64 f, .slice va l.length vc] 25)) := (Below.refl _ _).alloc (Nat.le_refl _) _
  have s0 := Str.new w 25 #[.int .i64 f, .slice va l.length vc]
  have hz0 : (w.alloc (.cells #[.int .i64 f, .slice va l.length vc] 25)).heap.size = w.heap.size + 1 := by simp
  have Hl := Lib.hid hl
  have Hb0 := Lib.hid hb0; have S0 := Lib.hid s0
  have z0 := s0.cell 0 (v := .int .i64 f) rfl
  have z1 := s0.cell 1 (v := .slice va l.length vc) rfl
  have HF := Lib.hid (fun W => impl_isFloor f W)
  clear hb0 s0 hl
  go_enter Try.func33, Try.ntmps33
  go_wp2_with fail
  generalize hW0 : w.alloc (.cells #[.int .i64 f, .slice va l.length vc] 25) = W0 at *
  clear hW0
  refine (HF.out W0).mono ?_
  rintro e w1 ⟨rfl, rfl⟩
  by_cases hf : 0 ≤ f ∧ f ≤ 31
  case neg =>
    rw [decide_eq_false hf]
    have Hs := Lib.hid (show stB f l = false from decide_eq_false fun h => hf h.1)
    clear hf
    go_wp2
    go_ret2
    exact LkP.no rfl Hs.out Hb0.out
  rw [decide_eq_true hf]
  have Hf := Lib.hid hf
  clear hf
  go_wp2_with fail
  have hzl : (bsL [(w.heap.size + 1, bt0)]) = [] := rfl
  have hal1 : Below W0.heap.size W0 ((W0.alloc (.cells #[.int .i64 0, .int .i64 0, .int .i64 0, .int .i64 0, .pointer none] 69)).alloc (.cells #[.int .i64 f, .pointer (some ⟨w.heap.size + 1, 0, none⟩)] 80)) := ((Below.refl _ _).alloc (Nat.le_refl _) _).alloc (by simp) _
  have hz1 : ((W0.alloc (.cells #[.int .i64 0, .int .i64 0, .int .i64 0, .int .i64 0, .pointer none] 69)).alloc (.cells #[.int .i64 f, .pointer (some ⟨w.heap.size + 1, 0, none⟩)] 80)).heap.size = w.heap.size + 3 := by simp; omega
  have sH := (Str.new W0 69 #[.int .i64 0, .int .i64 0, .int .i64 0, .int .i64 0, .pointer none]).alloc (.cells #[.int .i64 f, .pointer (some ⟨w.heap.size + 1, 0, none⟩)] 80)
  have sP := Str.new (W0.alloc (.cells #[.int .i64 0, .int .i64 0, .int .i64 0, .int .i64 0, .pointer none] 69)) 80 #[.int .i64 f, .pointer (some ⟨w.heap.size + 1, 0, none⟩)]
  rw [World.size_alloc, hz0] at sP
  rw [hz0] at sH
  have ls1 := LS.new (lo := w.heap.size + 1) (hi := w.heap.size + 3) (f := f) (P := w.heap.size + 1 + 1) (H := w.heap.size + 1) (b0 := bt0) sP sH (by omega) (by omega) (by omega) (by omega) (by omega) (by omega)
  have s1 := (hal1.block _ S0.out.lt).trans S0.out
  have Hb1 := Lib.hid (below_step Hb0.out Hb0.out.size hal1)
  have HL := Lib.hid ls1; have S1 := Lib.hid s1
  clear sH sP hal1 ls1 s1 z0 z1
  generalize hW1 : ((W0.alloc (.cells #[.int .i64 0, .int .i64 0, .int .i64 0, .int .i64 0, .pointer none] 69)).alloc (.cells #[.int .i64 f, .pointer (some ⟨w.heap.size + 1, 0, none⟩)] 80)) = W1 at *
  clear hW1
  have Hz1 := Lib.hid hz1
  have Hz0 := Lib.hid hz0
  clear hz0 hz1 hzl
  generalize hSB : w.heap.size = SB at *
  have HSB := Lib.hid hSB
  clear hSB
  have Hst0 := Lib.hid (show stB f (l.take 0) = true from decide_eq_true ⟨Hf.out, by simp, by simp, by simp⟩)
  go_loopw [20] (fun i wr => ∃ (k hi : Nat) (ns : List (Nat × Bt)), k ≤ l.length ∧ i = .int .i64 k ∧ LS wr (SB + 1) hi (SB + 1 + 1) f ns ∧ bsL ns = l.take k ∧ Hid (stB f (l.take k) = true) ∧ Below (SB + 1) W1 wr) (fun i _ => l.length - (intOf i).toNat)
  case atStart => exact ⟨0, SB + 3, [(SB + 1, bt0)], by omega, rfl, HL.out, by rw [List.take_zero]; rfl, Hst0, Below.refl _ _⟩
  case round =>
    obtain ⟨k, hi, ns, hk, rfl, hls, hns, Hst, hbel⟩ := hrel
    have Hls := Lib.hid hls; have Hns := Lib.hid hns; have Hbel := Lib.hid hbel
    have hlowr : SB + 1 < wr.heap.size := by have := hls.loP; have := hls.ltP; have := hls.le; omega
    have hhi := hls.le
    have Hbw := Lib.hid (show Below SB w wr from by have h1 := Hb1.out; exact h1.trans (hbel.mono (by omega)))
    clear hls hns hbel
    by_cases hlt : k < l.length
    case neg =>
      have hlt' : ¬ (k : Int) < (l.length : Int) := by omega
      have hkl : l.take k = l := List.take_of_length_le (by omega)
      rw [hkl] at Hst Hns
      clear hkl hlt
      go_wp2
      go_ret2
      exact LkP.yes rfl Hst.out Hls.out (by rw [HSB.out]; omega) Hns.out (by rw [HSB.out]; exact Hbw.out)
    have hlt' : (k : Int) < (l.length : Int) := by omega
    obtain ⟨gb, off, rfl, hgb, hat⟩ := Hl.out.at (by omega)
    rw [HSB.out] at hgb
    have hcw := fun (j : Nat) (x : Value) (h : w.cell? ⟨gb, j, none⟩ = some x) => (Hbw.out.cell (p := ⟨gb, j, none⟩) hgb).trans h
    obtain ⟨d0, d1, d2, d3⟩ := hat k hlt
    have c0 := hcw _ _ d0
    have c1 := hcw _ _ d1
    have c2 := hcw _ _ d2
    have c3 := hcw _ _ d3
    obtain ⟨pd, hpd⟩ : ∃ pd, ∀ h0 : 0 < k, (l[k - 1]'(by omega)).d = pd := by
      by_cases h0 : 0 < k
      · exact ⟨(l[k - 1]'(by omega)).d, fun _ => rfl⟩
      · exact ⟨0, fun h => absurd h h0⟩
    have Hpd := Lib.hid (fun (h0 : 0 < k) => show wr.cell? ⟨gb, off + (k - 1) * 4, none⟩ = some (.int .i64 pd) by rw [← hpd h0]; exact hcw _ _ (hat (k - 1) (by omega)).1)
    have Hbad1 := Lib.hid (fun (h0 : 0 < k) (h : l[k].d ≤ pd) => st_bad hlt Hst.out fun hh => by have := hh.1 h0; rw [hpd h0] at this; omega)
    have Hbad2 := Lib.hid (fun (h : pcZ f (l.take k) l[k] ≠ 0) => st_bad hlt Hst.out fun hh => h (by rw [← pu_pc Hst.out]; exact hh.2))
    have Hgood := Lib.hid (fun (h0 : 0 < k → pd < l[k].d) (h : pcZ f (l.take k) l[k] = 0) => show inS (l.take k) l[k] = l.take (k + 1) ∧ stB f (l.take (k + 1)) = true from
      ⟨take_in hlt (stB_P Hst.out).2.2.1 (fun h1 => by rw [hpd h1]; exact h0 h1), (st_next hlt Hst.out).2 ⟨fun h1 => by rw [hpd h1]; exact h0 h1, by rw [pu_pc Hst.out]; exact h⟩⟩)
    have hal : Below wr.heap.size wr (wr.alloc (.cells #[.int .i64 l[k].d, .int .i64 l[k].a, .int .i64 l[k].r, .int .i64 l[k].s] 27)) := (Below.refl _ _).alloc (Nat.le_refl _) _
    have sB := Str.new wr 27 #[.int .i64 l[k].d, .int .i64 l[k].a, .int .i64 l[k].r, .int .i64 l[k].s]
    have sX := (hal.block SB (by omega)).trans ((Hbel.out.block SB (by omega)).trans S1.out)
    have sX : Str (wr.alloc (.cells #[.int .i64 l[k].d, .int .i64 l[k].a, .int .i64 l[k].r, .int .i64 l[k].s] 27)) SB 25 #[.int .i64 f, .slice (some ⟨gb, off, none⟩) l.length vc] := sX
    have hzB : wr.heap.size < (wr.alloc (.cells #[.int .i64 l[k].d, .int .i64 l[k].a, .int .i64 l[k].r, .int .i64 l[k].s] 27)).heap.size := by simp
    have Hls := Lib.hid (Hls.out.under hal)
    have Hbel := Lib.hid (Hbel.out.trans (hal.mono (by omega)))
    have Hpd := Lib.hid (fun (h0 : 0 < k) => (hal.cell (p := ⟨gb, off + (k - 1) * 4, none⟩) (by simp only; omega)).trans (Hpd.out h0))
    have b0 := sB.cell 0 (v := .int .i64 l[k].d) rfl
    have b1 := sB.cell 1 (v := .int .i64 l[k].a) rfl
    have b2 := sB.cell 2 (v := .int .i64 l[k].r) rfl
    have b3 := sB.cell 3 (v := .int .i64 l[k].s) rfl
    have x1 := sX.cell 1 (v := .slice (some ⟨gb, off, none⟩) l.length vc) rfl
    clear hal sB sX hat hcw d0 d1 d2 d3 hpd
    generalize l[k] = x at *
    have hw1 : IntKind.i64.wrap ((k : Int) - 1) = k - 1 := IntWalk.i64_in _ (by omega)
    go_wp2_with fail
    generalize wr.alloc (.cells #[.int .i64 x.d, .int .i64 x.a, .int .i64 x.r, .int .i64 x.s] 27) = WB at *
    clear c0 c1 c2 c3
    generalize hBB : wr.heap.size = BB at *
    clear hBB
    obtain ⟨pc, hpc⟩ : ∃ pc, pc = pcZ f (l.take k) x := ⟨_, rfl⟩
    by_cases h0 : 0 < k
    case pos =>
      have h0' : decide (0 < (k : Int)) = true := decide_eq_true (by omega)
      have h0i : (0 : Int) < (k : Int) := by omega
      have hk1 : (1 : Int) ≤ (k : Int) := by omega
      have hk2 : (k : Int) - 1 < (l.length : Int) := by omega
      have hk3 : ((k : Int) - 1).toNat = k - 1 := by omega
      by_cases ho : pd < x.d
      case neg =>
        have hge : decide (x.d ≤ pd) = true := decide_eq_true (by omega)
        have Hs := Lib.hid (Hbad1.out h0 (by omega))
        clear ho
        refine wp_region_held_drew (S := fun W => W.cell? ⟨SB, 1, none⟩ = some (.slice (some ⟨gb, off, none⟩) l.length vc) ∧ (0 < k → W.cell? ⟨gb, off + (k - 1) * 4, none⟩ = some (.int .i64 pd)) ∧ W.cell? ⟨BB, 0, none⟩ = some (.int .i64 x.d) ∧ W.cell? ⟨BB, 1, none⟩ = some (.int .i64 x.a) ∧ W.cell? ⟨BB, 2, none⟩ = some (.int .i64 x.r) ∧ W.cell? ⟨BB, 3, none⟩ = some (.int .i64 x.s)) (by kernel_rfl) ⟨x1, Hpd.out, b0, b1, b2, b3⟩ (fun hH => ?_)
        have Hls := Lib.hid (Hls.out.under ((Below.refl _ WB).drew))
        have Hbel := Lib.hid (show Below (SB + 1) W1 WB.drew from Hbel.out.drew)
        have hzB : BB < WB.drew.heap.size := hzB
        clear x1 Hpd b0 b1 b2 b3
        generalize WB.drew = WD at *
        refine takeH 0 (v := ?va1) rfl (by kernel_rfl) (by kernel_rfl) (by kernel_rfl) (fun _ _ _ h => h) hH rfl ?ya1 ?ra1
        case ya1 => intro W hSw; go_simp; try with_reducible rfl
        try simp only [Act.put, List.setIfInBounds_toArray, List.set_cons_zero, List.set_cons_succ]
        refine takeH 1 (v := .bool true) rfl (by kernel_rfl) (by kernel_rfl) (by kernel_rfl) (fun _ _ _ h => h) hH rfl ?ya2 ?ra2
        case ya2 => intro W hSw; go_simp; first | done | simp only [h0'] | omega | (simp; omega)
        try simp only [Act.put, List.setIfInBounds_toArray, List.set_cons_zero, List.set_cons_succ]
        refine takeH 2 (v := ?va3) rfl (by kernel_rfl) (by kernel_rfl) (by kernel_rfl) (fun _ _ _ h => h) hH rfl ?ya3 ?ra3
        case ya3 => intro W hSw; go_simp; try with_reducible rfl
        try simp only [Act.put, List.setIfInBounds_toArray, List.set_cons_zero, List.set_cons_succ]
        refine takeH 3 (v := ?va4) rfl (by kernel_rfl) (by kernel_rfl) (by kernel_rfl) (fun _ _ _ h => h) hH rfl ?ya4 ?ra4
        case ya4 => intro W hSw; go_simp; try with_reducible rfl
        try simp only [Act.put, List.setIfInBounds_toArray, List.set_cons_zero, List.set_cons_succ]
        refine takeH 4 (v := ?va5) rfl (by kernel_rfl) (by kernel_rfl) (by kernel_rfl) (fun _ _ _ h => h) hH rfl ?ya5 ?ra5
        case ya5 => intro W hSw; go_simp; try with_reducible rfl
        try simp only [Act.put, List.setIfInBounds_toArray, List.set_cons_zero, List.set_cons_succ]
        refine takeH 5 (v := ?va6) rfl (by kernel_rfl) (by kernel_rfl) (by kernel_rfl) (fun _ _ _ h => h) hH rfl ?ya6 ?ra6
        case ya6 => intro W hSw; go_simp; try with_reducible rfl
        try simp only [Act.put, List.setIfInBounds_toArray, List.set_cons_zero, List.set_cons_succ]
        refine takeH 6 (v := ?va7) rfl (by kernel_rfl) (by kernel_rfl) (by kernel_rfl) (fun _ _ _ h => h) hH rfl ?ya7 ?ra7
        case ya7 => intro W hSw; go_simp; try with_reducible rfl
        try simp only [Act.put, List.setIfInBounds_toArray, List.set_cons_zero, List.set_cons_succ]
        refine takeH 7 (v := ?va8) rfl (by kernel_rfl) (by kernel_rfl) (by kernel_rfl) (fun _ _ _ h => h) hH rfl ?ya8 ?ra8
        case ya8 => intro W hSw; go_simp; try with_reducible rfl
        try simp only [Act.put, List.setIfInBounds_toArray, List.set_cons_zero, List.set_cons_succ]
        refine takeH 8 (v := ?va9) rfl (by kernel_rfl) (by kernel_rfl) (by kernel_rfl) (fun _ _ _ h => h) hH rfl ?ya9 ?ra9
        case ya9 => intro W hSw; go_simp; try with_reducible rfl
        try simp only [Act.put, List.setIfInBounds_toArray, List.set_cons_zero, List.set_cons_succ]
        refine takeH 9 (v := ?va10) rfl (by kernel_rfl) (by kernel_rfl) (by kernel_rfl) (fun _ _ _ h => h) hH rfl ?ya10 ?ra10
        case ya10 => intro W hSw; have hp := hSw.2.1 h0; go_simp; try with_reducible rfl
        try simp only [Act.put, List.setIfInBounds_toArray, List.set_cons_zero, List.set_cons_succ]
        refine takeH 10 (v := ?va11) rfl (by kernel_rfl) (by kernel_rfl) (by kernel_rfl) (fun _ _ _ h => h) hH rfl ?ya11 ?ra11
        case ya11 => intro W hSw; go_simp; try with_reducible rfl
        try simp only [Act.put, List.setIfInBounds_toArray, List.set_cons_zero, List.set_cons_succ]
        refine takeH 11 (v := ?va12) rfl (by kernel_rfl) (by kernel_rfl) (by kernel_rfl) (fun _ _ _ h => h) hH rfl ?ya12 ?ra12
        case ya12 => intro W hSw; go_simp; try with_reducible rfl
        try simp only [Act.put, List.setIfInBounds_toArray, List.set_cons_zero, List.set_cons_succ]
        refine takeH 12 (v := .bool true) rfl (by kernel_rfl) (by kernel_rfl) (by kernel_rfl) (fun _ _ _ h => h) hH rfl ?ya13 ?ra13
        case ya13 => intro W hSw; go_simp; first | done | simp only [hge] | omega | (simp; omega)
        try simp only [Act.put, List.setIfInBounds_toArray, List.set_cons_zero, List.set_cons_succ]
        refine takeH 13 (v := ?va14) rfl (by kernel_rfl) (by kernel_rfl) (by kernel_rfl) (fun _ _ _ h => h) hH rfl ?ya14 ?ra14
        case ya14 => intro W hSw; go_simp; try with_reducible rfl
        try simp only [Act.put, List.setIfInBounds_toArray, List.set_cons_zero, List.set_cons_succ]
        refine takeH 14 (v := ?va15) rfl (by kernel_rfl) (by kernel_rfl) (by kernel_rfl) (fun _ _ _ h => h) hH rfl ?ya15 ?ra15
        case ya15 => intro W hSw; go_simp; try with_reducible rfl
        try simp only [Act.put, List.setIfInBounds_toArray, List.set_cons_zero, List.set_cons_succ]
        refine skipH 15 rfl (by kernel_rfl) (by kernel_rfl) (by kernel_rfl) (fun _ _ _ h => h) hH rfl ?_
        try simp only [Act.put, List.setIfInBounds_toArray, List.set_cons_zero, List.set_cons_succ]
        refine skipH 16 rfl (by kernel_rfl) (by kernel_rfl) (by kernel_rfl) (fun _ _ _ h => h) hH rfl ?_
        try simp only [Act.put, List.setIfInBounds_toArray, List.set_cons_zero, List.set_cons_succ]
        refine skipH 17 rfl (by kernel_rfl) (by kernel_rfl) (by kernel_rfl) (fun _ _ _ h => h) hH rfl ?_
        try simp only [Act.put, List.setIfInBounds_toArray, List.set_cons_zero, List.set_cons_succ]
        refine skipH 18 rfl (by kernel_rfl) (by kernel_rfl) (by kernel_rfl) (fun _ _ _ h => h) hH rfl ?_
        try simp only [Act.put, List.setIfInBounds_toArray, List.set_cons_zero, List.set_cons_succ]
        refine takeH 19 (v := ?va16) rfl (by kernel_rfl) (by kernel_rfl) (by kernel_rfl) (fun _ _ _ h => h) hH rfl ?ya16 ?ra16
        case ya16 => intro W hSw; go_simp; try with_reducible rfl
        try simp only [Act.put, List.setIfInBounds_toArray, List.set_cons_zero, List.set_cons_succ]
        refine wpAnyH_done (by kernel_rfl) ?_ _
        try simp only [Act.put]
        clear hH hzB
        go_wp2
        go_ret2
        exact LkP.no rfl Hs.out (by rw [HSB.out]; exact Hb1.out.trans (Hbel.out.mono (by omega)))
      case pos =>
        have hge : decide (x.d ≤ pd) = false := decide_eq_false (by omega)
        have Ho := Lib.hid ho
        clear ho
        by_cases hp0 : pc = 0
        case neg =>
          have Hs := Lib.hid (Hbad2.out (by rw [← hpc]; exact hp0))
          have hne : (pc != 0) = true := by simp [hp0]
          have hne' : (pc == 0) = false := by simp [hp0]
          refine wp_region_held_drew (S := fun W => W.cell? ⟨SB, 1, none⟩ = some (.slice (some ⟨gb, off, none⟩) l.length vc) ∧ (0 < k → W.cell? ⟨gb, off + (k - 1) * 4, none⟩ = some (.int .i64 pd)) ∧ W.cell? ⟨BB, 0, none⟩ = some (.int .i64 x.d) ∧ W.cell? ⟨BB, 1, none⟩ = some (.int .i64 x.a) ∧ W.cell? ⟨BB, 2, none⟩ = some (.int .i64 x.r) ∧ W.cell? ⟨BB, 3, none⟩ = some (.int .i64 x.s)) (by kernel_rfl) ⟨x1, Hpd.out, b0, b1, b2, b3⟩ (fun hH => ?_)
          have Hls := Lib.hid (Hls.out.under ((Below.refl _ WB).drew))
          have Hbel := Lib.hid (show Below (SB + 1) W1 WB.drew from Hbel.out.drew)
          have hzB : BB < WB.drew.heap.size := hzB
          clear x1 Hpd b0 b1 b2 b3
          generalize WB.drew = WD at *
          refine takeH 0 (v := ?vbn1) rfl (by kernel_rfl) (by kernel_rfl) (by kernel_rfl) (fun _ _ _ h => h) hH rfl ?ybn1 ?rbn1
          case ybn1 => intro W hSw; go_simp; try with_reducible rfl
          try simp only [Act.put, List.setIfInBounds_toArray, List.set_cons_zero, List.set_cons_succ]
          refine takeH 1 (v := .bool true) rfl (by kernel_rfl) (by kernel_rfl) (by kernel_rfl) (fun _ _ _ h => h) hH rfl ?ybn2 ?rbn2
          case ybn2 => intro W hSw; go_simp; first | done | simp only [h0'] | omega | (simp; omega)
          try simp only [Act.put, List.setIfInBounds_toArray, List.set_cons_zero, List.set_cons_succ]
          refine takeH 2 (v := ?vbn3) rfl (by kernel_rfl) (by kernel_rfl) (by kernel_rfl) (fun _ _ _ h => h) hH rfl ?ybn3 ?rbn3
          case ybn3 => intro W hSw; go_simp; try with_reducible rfl
          try simp only [Act.put, List.setIfInBounds_toArray, List.set_cons_zero, List.set_cons_succ]
          refine takeH 3 (v := ?vbn4) rfl (by kernel_rfl) (by kernel_rfl) (by kernel_rfl) (fun _ _ _ h => h) hH rfl ?ybn4 ?rbn4
          case ybn4 => intro W hSw; go_simp; try with_reducible rfl
          try simp only [Act.put, List.setIfInBounds_toArray, List.set_cons_zero, List.set_cons_succ]
          refine takeH 4 (v := ?vbn5) rfl (by kernel_rfl) (by kernel_rfl) (by kernel_rfl) (fun _ _ _ h => h) hH rfl ?ybn5 ?rbn5
          case ybn5 => intro W hSw; go_simp; try with_reducible rfl
          try simp only [Act.put, List.setIfInBounds_toArray, List.set_cons_zero, List.set_cons_succ]
          refine takeH 5 (v := ?vbn6) rfl (by kernel_rfl) (by kernel_rfl) (by kernel_rfl) (fun _ _ _ h => h) hH rfl ?ybn6 ?rbn6
          case ybn6 => intro W hSw; go_simp; try with_reducible rfl
          try simp only [Act.put, List.setIfInBounds_toArray, List.set_cons_zero, List.set_cons_succ]
          refine takeH 6 (v := ?vbn7) rfl (by kernel_rfl) (by kernel_rfl) (by kernel_rfl) (fun _ _ _ h => h) hH rfl ?ybn7 ?rbn7
          case ybn7 => intro W hSw; go_simp; try with_reducible rfl
          try simp only [Act.put, List.setIfInBounds_toArray, List.set_cons_zero, List.set_cons_succ]
          refine takeH 7 (v := ?vbn8) rfl (by kernel_rfl) (by kernel_rfl) (by kernel_rfl) (fun _ _ _ h => h) hH rfl ?ybn8 ?rbn8
          case ybn8 => intro W hSw; go_simp; try with_reducible rfl
          try simp only [Act.put, List.setIfInBounds_toArray, List.set_cons_zero, List.set_cons_succ]
          refine takeH 8 (v := ?vbn9) rfl (by kernel_rfl) (by kernel_rfl) (by kernel_rfl) (fun _ _ _ h => h) hH rfl ?ybn9 ?rbn9
          case ybn9 => intro W hSw; go_simp; try with_reducible rfl
          try simp only [Act.put, List.setIfInBounds_toArray, List.set_cons_zero, List.set_cons_succ]
          refine takeH 9 (v := ?vbn10) rfl (by kernel_rfl) (by kernel_rfl) (by kernel_rfl) (fun _ _ _ h => h) hH rfl ?ybn10 ?rbn10
          case ybn10 => intro W hSw; have hp := hSw.2.1 h0; go_simp; try with_reducible rfl
          try simp only [Act.put, List.setIfInBounds_toArray, List.set_cons_zero, List.set_cons_succ]
          refine takeH 10 (v := ?vbn11) rfl (by kernel_rfl) (by kernel_rfl) (by kernel_rfl) (fun _ _ _ h => h) hH rfl ?ybn11 ?rbn11
          case ybn11 => intro W hSw; go_simp; try with_reducible rfl
          try simp only [Act.put, List.setIfInBounds_toArray, List.set_cons_zero, List.set_cons_succ]
          refine takeH 11 (v := ?vbn12) rfl (by kernel_rfl) (by kernel_rfl) (by kernel_rfl) (fun _ _ _ h => h) hH rfl ?ybn12 ?rbn12
          case ybn12 => intro W hSw; go_simp; try with_reducible rfl
          try simp only [Act.put, List.setIfInBounds_toArray, List.set_cons_zero, List.set_cons_succ]
          refine takeH 12 (v := .bool false) rfl (by kernel_rfl) (by kernel_rfl) (by kernel_rfl) (fun _ _ _ h => h) hH rfl ?ybn13 ?rbn13
          case ybn13 => intro W hSw; go_simp; first | done | simp only [hge] | omega | (simp; omega)
          try simp only [Act.put, List.setIfInBounds_toArray, List.set_cons_zero, List.set_cons_succ]
          refine takeH 13 (v := ?vbn14) rfl (by kernel_rfl) (by kernel_rfl) (by kernel_rfl) (fun _ _ _ h => h) hH rfl ?ybn14 ?rbn14
          case ybn14 => intro W hSw; go_simp; try with_reducible rfl
          try simp only [Act.put, List.setIfInBounds_toArray, List.set_cons_zero, List.set_cons_succ]
          refine takeH 14 (v := ?vbn15) rfl (by kernel_rfl) (by kernel_rfl) (by kernel_rfl) (fun _ _ _ h => h) hH rfl ?ybn15 ?rbn15
          case ybn15 => intro W hSw; go_simp; try with_reducible rfl
          try simp only [Act.put, List.setIfInBounds_toArray, List.set_cons_zero, List.set_cons_succ]
          refine takeH 15 (v := ?vbn16) rfl (by kernel_rfl) (by kernel_rfl) (by kernel_rfl) (fun _ _ _ h => h) hH rfl ?ybn16 ?rbn16
          case ybn16 => intro W hSw; go_simp; try with_reducible rfl
          try simp only [Act.put, List.setIfInBounds_toArray, List.set_cons_zero, List.set_cons_succ]
          refine takeH 16 (v := ?vbn17) rfl (by kernel_rfl) (by kernel_rfl) (by kernel_rfl) (fun _ _ _ h => h) hH rfl ?ybn17 ?rbn17
          case ybn17 => intro W hSw; go_simp; try with_reducible rfl
          try simp only [Act.put, List.setIfInBounds_toArray, List.set_cons_zero, List.set_cons_succ]
          refine callH 17 rfl (by kernel_rfl) rfl (fun K hK => ?_)
          go_simp
          go_at_call 34
          refine (impl_put (SB + 1) hi (SB + 1 + 1) f ns x _ Hls.out (by rw [Hns.out]; exact Hst.out)).mono ?_
          rintro e wz ⟨rfl, hi2, ns2, hls2, hns2, hbz, hsame⟩
          have Hls2 := Lib.hid hls2; have Hns2 := Lib.hid hns2; have Hbz := Lib.hid hbz
          rw [Hns.out] at Hns2
          have hstay : ∀ j, wz.cell? ⟨BB, j, none⟩ = WD.cell? ⟨BB, j, none⟩ := fun j => World.cell?_of_block (hsame BB (by omega) hzB)
          rw [Hns.out, ← hpc]
          clear hls2 hns2 hsame
          refine hK.out _ _ ⟨(hbz.cell (p := ⟨SB, 1, none⟩) (by simp only; omega)).trans hH.1, fun h0 => (hbz.cell (p := ⟨gb, off + (k - 1) * 4, none⟩) (by simp only; omega)).trans (hH.2.1 h0), (hstay 0).trans hH.2.2.1, (hstay 1).trans hH.2.2.2.1, (hstay 2).trans hH.2.2.2.2.1, (hstay 3).trans hH.2.2.2.2.2⟩ (fun hH => ?_)
          clear hK K
          try simp only [Act.put, List.setIfInBounds_toArray, List.set_cons_zero, List.set_cons_succ]
          have Hbel2 := Lib.hid (Hbel.out.trans Hbz.out)
          clear hstay hbz
          clear hpc
          refine takeH 18 (v := ?vbn18) rfl (by kernel_rfl) (by kernel_rfl) (by kernel_rfl) (fun _ _ _ h => h) hH rfl ?ybn18 ?rbn18
          case ybn18 => intro W hSw; go_simp; try with_reducible rfl
          try simp only [Act.put, List.setIfInBounds_toArray, List.set_cons_zero, List.set_cons_succ]
          refine takeH 19 (v := ?vbn19) rfl (by kernel_rfl) (by kernel_rfl) (by kernel_rfl) (fun _ _ _ h => h) hH rfl ?ybn19 ?rbn19
          case ybn19 => intro W hSw; go_simp; try with_reducible rfl
          try simp only [Act.put, List.setIfInBounds_toArray, List.set_cons_zero, List.set_cons_succ]
          refine wpAnyH_done (by kernel_rfl) ?_ _
          try simp only [Act.put]
          clear hH hzB hp0
          go_wp2
          go_ret2
          exact LkP.no rfl Hs.out (by rw [HSB.out]; exact Hb1.out.trans (Hbel2.out.mono (by omega)))
        case pos =>
          have Hg := Lib.hid (Hgood.out (fun _ => Ho.out) (by rw [← hpc]; exact hp0))
          have Hp0 := Lib.hid (show pcZ f (l.take k) x = 0 by rw [← hpc]; exact hp0)
          have hne : (pc != 0) = false := by simp [hp0]
          have hne' : (pc == 0) = true := by simp [hp0]
          refine wp_region_held_drew (S := fun W => W.cell? ⟨SB, 1, none⟩ = some (.slice (some ⟨gb, off, none⟩) l.length vc) ∧ (0 < k → W.cell? ⟨gb, off + (k - 1) * 4, none⟩ = some (.int .i64 pd)) ∧ W.cell? ⟨BB, 0, none⟩ = some (.int .i64 x.d) ∧ W.cell? ⟨BB, 1, none⟩ = some (.int .i64 x.a) ∧ W.cell? ⟨BB, 2, none⟩ = some (.int .i64 x.r) ∧ W.cell? ⟨BB, 3, none⟩ = some (.int .i64 x.s)) (by kernel_rfl) ⟨x1, Hpd.out, b0, b1, b2, b3⟩ (fun hH => ?_)
          have Hls := Lib.hid (Hls.out.under ((Below.refl _ WB).drew))
          have Hbel := Lib.hid (show Below (SB + 1) W1 WB.drew from Hbel.out.drew)
          have hzB : BB < WB.drew.heap.size := hzB
          clear x1 Hpd b0 b1 b2 b3
          generalize WB.drew = WD at *
          refine takeH 0 (v := ?vbp1) rfl (by kernel_rfl) (by kernel_rfl) (by kernel_rfl) (fun _ _ _ h => h) hH rfl ?ybp1 ?rbp1
          case ybp1 => intro W hSw; go_simp; try with_reducible rfl
          try simp only [Act.put, List.setIfInBounds_toArray, List.set_cons_zero, List.set_cons_succ]
          refine takeH 1 (v := .bool true) rfl (by kernel_rfl) (by kernel_rfl) (by kernel_rfl) (fun _ _ _ h => h) hH rfl ?ybp2 ?rbp2
          case ybp2 => intro W hSw; go_simp; first | done | simp only [h0'] | omega | (simp; omega)
          try simp only [Act.put, List.setIfInBounds_toArray, List.set_cons_zero, List.set_cons_succ]
          refine takeH 2 (v := ?vbp3) rfl (by kernel_rfl) (by kernel_rfl) (by kernel_rfl) (fun _ _ _ h => h) hH rfl ?ybp3 ?rbp3
          case ybp3 => intro W hSw; go_simp; try with_reducible rfl
          try simp only [Act.put, List.setIfInBounds_toArray, List.set_cons_zero, List.set_cons_succ]
          refine takeH 3 (v := ?vbp4) rfl (by kernel_rfl) (by kernel_rfl) (by kernel_rfl) (fun _ _ _ h => h) hH rfl ?ybp4 ?rbp4
          case ybp4 => intro W hSw; go_simp; try with_reducible rfl
          try simp only [Act.put, List.setIfInBounds_toArray, List.set_cons_zero, List.set_cons_succ]
          refine takeH 4 (v := ?vbp5) rfl (by kernel_rfl) (by kernel_rfl) (by kernel_rfl) (fun _ _ _ h => h) hH rfl ?ybp5 ?rbp5
          case ybp5 => intro W hSw; go_simp; try with_reducible rfl
          try simp only [Act.put, List.setIfInBounds_toArray, List.set_cons_zero, List.set_cons_succ]
          refine takeH 5 (v := ?vbp6) rfl (by kernel_rfl) (by kernel_rfl) (by kernel_rfl) (fun _ _ _ h => h) hH rfl ?ybp6 ?rbp6
          case ybp6 => intro W hSw; go_simp; try with_reducible rfl
          try simp only [Act.put, List.setIfInBounds_toArray, List.set_cons_zero, List.set_cons_succ]
          refine takeH 6 (v := ?vbp7) rfl (by kernel_rfl) (by kernel_rfl) (by kernel_rfl) (fun _ _ _ h => h) hH rfl ?ybp7 ?rbp7
          case ybp7 => intro W hSw; go_simp; try with_reducible rfl
          try simp only [Act.put, List.setIfInBounds_toArray, List.set_cons_zero, List.set_cons_succ]
          refine takeH 7 (v := ?vbp8) rfl (by kernel_rfl) (by kernel_rfl) (by kernel_rfl) (fun _ _ _ h => h) hH rfl ?ybp8 ?rbp8
          case ybp8 => intro W hSw; go_simp; try with_reducible rfl
          try simp only [Act.put, List.setIfInBounds_toArray, List.set_cons_zero, List.set_cons_succ]
          refine takeH 8 (v := ?vbp9) rfl (by kernel_rfl) (by kernel_rfl) (by kernel_rfl) (fun _ _ _ h => h) hH rfl ?ybp9 ?rbp9
          case ybp9 => intro W hSw; go_simp; try with_reducible rfl
          try simp only [Act.put, List.setIfInBounds_toArray, List.set_cons_zero, List.set_cons_succ]
          refine takeH 9 (v := ?vbp10) rfl (by kernel_rfl) (by kernel_rfl) (by kernel_rfl) (fun _ _ _ h => h) hH rfl ?ybp10 ?rbp10
          case ybp10 => intro W hSw; have hp := hSw.2.1 h0; go_simp; try with_reducible rfl
          try simp only [Act.put, List.setIfInBounds_toArray, List.set_cons_zero, List.set_cons_succ]
          refine takeH 10 (v := ?vbp11) rfl (by kernel_rfl) (by kernel_rfl) (by kernel_rfl) (fun _ _ _ h => h) hH rfl ?ybp11 ?rbp11
          case ybp11 => intro W hSw; go_simp; try with_reducible rfl
          try simp only [Act.put, List.setIfInBounds_toArray, List.set_cons_zero, List.set_cons_succ]
          refine takeH 11 (v := ?vbp12) rfl (by kernel_rfl) (by kernel_rfl) (by kernel_rfl) (fun _ _ _ h => h) hH rfl ?ybp12 ?rbp12
          case ybp12 => intro W hSw; go_simp; try with_reducible rfl
          try simp only [Act.put, List.setIfInBounds_toArray, List.set_cons_zero, List.set_cons_succ]
          refine takeH 12 (v := .bool false) rfl (by kernel_rfl) (by kernel_rfl) (by kernel_rfl) (fun _ _ _ h => h) hH rfl ?ybp13 ?rbp13
          case ybp13 => intro W hSw; go_simp; first | done | simp only [hge] | omega | (simp; omega)
          try simp only [Act.put, List.setIfInBounds_toArray, List.set_cons_zero, List.set_cons_succ]
          refine takeH 13 (v := ?vbp14) rfl (by kernel_rfl) (by kernel_rfl) (by kernel_rfl) (fun _ _ _ h => h) hH rfl ?ybp14 ?rbp14
          case ybp14 => intro W hSw; go_simp; try with_reducible rfl
          try simp only [Act.put, List.setIfInBounds_toArray, List.set_cons_zero, List.set_cons_succ]
          refine takeH 14 (v := ?vbp15) rfl (by kernel_rfl) (by kernel_rfl) (by kernel_rfl) (fun _ _ _ h => h) hH rfl ?ybp15 ?rbp15
          case ybp15 => intro W hSw; go_simp; try with_reducible rfl
          try simp only [Act.put, List.setIfInBounds_toArray, List.set_cons_zero, List.set_cons_succ]
          refine takeH 15 (v := ?vbp16) rfl (by kernel_rfl) (by kernel_rfl) (by kernel_rfl) (fun _ _ _ h => h) hH rfl ?ybp16 ?rbp16
          case ybp16 => intro W hSw; go_simp; try with_reducible rfl
          try simp only [Act.put, List.setIfInBounds_toArray, List.set_cons_zero, List.set_cons_succ]
          refine takeH 16 (v := ?vbp17) rfl (by kernel_rfl) (by kernel_rfl) (by kernel_rfl) (fun _ _ _ h => h) hH rfl ?ybp17 ?rbp17
          case ybp17 => intro W hSw; go_simp; try with_reducible rfl
          try simp only [Act.put, List.setIfInBounds_toArray, List.set_cons_zero, List.set_cons_succ]
          refine callH 17 rfl (by kernel_rfl) rfl (fun K hK => ?_)
          go_simp
          go_at_call 34
          refine (impl_put (SB + 1) hi (SB + 1 + 1) f ns x _ Hls.out (by rw [Hns.out]; exact Hst.out)).mono ?_
          rintro e wz ⟨rfl, hi2, ns2, hls2, hns2, hbz, hsame⟩
          have Hls2 := Lib.hid hls2; have Hns2 := Lib.hid hns2; have Hbz := Lib.hid hbz
          rw [Hns.out] at Hns2
          have hstay : ∀ j, wz.cell? ⟨BB, j, none⟩ = WD.cell? ⟨BB, j, none⟩ := fun j => World.cell?_of_block (hsame BB (by omega) hzB)
          rw [Hns.out, ← hpc]
          clear hls2 hns2 hsame
          refine hK.out _ _ ⟨(hbz.cell (p := ⟨SB, 1, none⟩) (by simp only; omega)).trans hH.1, fun h0 => (hbz.cell (p := ⟨gb, off + (k - 1) * 4, none⟩) (by simp only; omega)).trans (hH.2.1 h0), (hstay 0).trans hH.2.2.1, (hstay 1).trans hH.2.2.2.1, (hstay 2).trans hH.2.2.2.2.1, (hstay 3).trans hH.2.2.2.2.2⟩ (fun hH => ?_)
          clear hK K
          try simp only [Act.put, List.setIfInBounds_toArray, List.set_cons_zero, List.set_cons_succ]
          have Hbel2 := Lib.hid (Hbel.out.trans Hbz.out)
          clear hstay hbz
          clear hpc
          refine takeH 18 (v := ?vbp18) rfl (by kernel_rfl) (by kernel_rfl) (by kernel_rfl) (fun _ _ _ h => h) hH rfl ?ybp18 ?rbp18
          case ybp18 => intro W hSw; go_simp; try with_reducible rfl
          try simp only [Act.put, List.setIfInBounds_toArray, List.set_cons_zero, List.set_cons_succ]
          refine takeH 19 (v := ?vbp19) rfl (by kernel_rfl) (by kernel_rfl) (by kernel_rfl) (fun _ _ _ h => h) hH rfl ?ybp19 ?rbp19
          case ybp19 => intro W hSw; go_simp; try with_reducible rfl
          try simp only [Act.put, List.setIfInBounds_toArray, List.set_cons_zero, List.set_cons_succ]
          refine wpAnyH_done (by kernel_rfl) ?_ _
          try simp only [Act.put]
          clear hH hzB hp0
          go_wp2
          go_roundw
          case rel => exact ⟨k + 1, hi2, ns2, by omega, by go_num, Hls2.out, by rw [Hns2.out, if_pos Hp0.out, Hg.out.1], Lib.hid Hg.out.2, Hbel2.out⟩
          case measure => simp [intOf]; omega
    case neg =>
      have h0' : decide (0 < (k : Int)) = false := decide_eq_false (by omega)
      have h0i : ¬ (0 : Int) < (k : Int) := by omega
      by_cases hp0 : pc = 0
      case neg =>
        have Hs := Lib.hid (Hbad2.out (by rw [← hpc]; exact hp0))
        have hne : (pc != 0) = true := by simp [hp0]
        have hne' : (pc == 0) = false := by simp [hp0]
        refine wp_region_held_drew (S := fun W => W.cell? ⟨SB, 1, none⟩ = some (.slice (some ⟨gb, off, none⟩) l.length vc) ∧ (0 < k → W.cell? ⟨gb, off + (k - 1) * 4, none⟩ = some (.int .i64 pd)) ∧ W.cell? ⟨BB, 0, none⟩ = some (.int .i64 x.d) ∧ W.cell? ⟨BB, 1, none⟩ = some (.int .i64 x.a) ∧ W.cell? ⟨BB, 2, none⟩ = some (.int .i64 x.r) ∧ W.cell? ⟨BB, 3, none⟩ = some (.int .i64 x.s)) (by kernel_rfl) ⟨x1, Hpd.out, b0, b1, b2, b3⟩ (fun hH => ?_)
        have Hls := Lib.hid (Hls.out.under ((Below.refl _ WB).drew))
        have Hbel := Lib.hid (show Below (SB + 1) W1 WB.drew from Hbel.out.drew)
        have hzB : BB < WB.drew.heap.size := hzB
        clear x1 Hpd b0 b1 b2 b3
        generalize WB.drew = WD at *
        refine takeH 0 (v := ?vcn1) rfl (by kernel_rfl) (by kernel_rfl) (by kernel_rfl) (fun _ _ _ h => h) hH rfl ?ycn1 ?rcn1
        case ycn1 => intro W hSw; go_simp; try with_reducible rfl
        try simp only [Act.put, List.setIfInBounds_toArray, List.set_cons_zero, List.set_cons_succ]
        refine takeH 1 (v := .bool false) rfl (by kernel_rfl) (by kernel_rfl) (by kernel_rfl) (fun _ _ _ h => h) hH rfl ?ycn2 ?rcn2
        case ycn2 => intro W hSw; go_simp; first | done | simp only [h0'] | omega | (simp; omega)
        try simp only [Act.put, List.setIfInBounds_toArray, List.set_cons_zero, List.set_cons_succ]
        refine takeH 2 (v := ?vcn3) rfl (by kernel_rfl) (by kernel_rfl) (by kernel_rfl) (fun _ _ _ h => h) hH rfl ?ycn3 ?rcn3
        case ycn3 => intro W hSw; go_simp; try with_reducible rfl
        try simp only [Act.put, List.setIfInBounds_toArray, List.set_cons_zero, List.set_cons_succ]
        refine skipH 3 rfl (by kernel_rfl) (by kernel_rfl) (by kernel_rfl) (fun _ _ _ h => h) hH rfl ?_
        try simp only [Act.put, List.setIfInBounds_toArray, List.set_cons_zero, List.set_cons_succ]
        refine skipH 4 rfl (by kernel_rfl) (by kernel_rfl) (by kernel_rfl) (fun _ _ _ h => h) hH rfl ?_
        try simp only [Act.put, List.setIfInBounds_toArray, List.set_cons_zero, List.set_cons_succ]
        refine skipH 5 rfl (by kernel_rfl) (by kernel_rfl) (by kernel_rfl) (fun _ _ _ h => h) hH rfl ?_
        try simp only [Act.put, List.setIfInBounds_toArray, List.set_cons_zero, List.set_cons_succ]
        refine skipH 6 rfl (by kernel_rfl) (by kernel_rfl) (by kernel_rfl) (fun _ _ _ h => h) hH rfl ?_
        try simp only [Act.put, List.setIfInBounds_toArray, List.set_cons_zero, List.set_cons_succ]
        refine skipH 7 rfl (by kernel_rfl) (by kernel_rfl) (by kernel_rfl) (fun _ _ _ h => h) hH rfl ?_
        try simp only [Act.put, List.setIfInBounds_toArray, List.set_cons_zero, List.set_cons_succ]
        refine skipH 8 rfl (by kernel_rfl) (by kernel_rfl) (by kernel_rfl) (fun _ _ _ h => h) hH rfl ?_
        try simp only [Act.put, List.setIfInBounds_toArray, List.set_cons_zero, List.set_cons_succ]
        refine skipH 9 rfl (by kernel_rfl) (by kernel_rfl) (by kernel_rfl) (fun _ _ _ h => h) hH rfl ?_
        try simp only [Act.put, List.setIfInBounds_toArray, List.set_cons_zero, List.set_cons_succ]
        refine skipH 10 rfl (by kernel_rfl) (by kernel_rfl) (by kernel_rfl) (fun _ _ _ h => h) hH rfl ?_
        try simp only [Act.put, List.setIfInBounds_toArray, List.set_cons_zero, List.set_cons_succ]
        refine skipH 11 rfl (by kernel_rfl) (by kernel_rfl) (by kernel_rfl) (fun _ _ _ h => h) hH rfl ?_
        try simp only [Act.put, List.setIfInBounds_toArray, List.set_cons_zero, List.set_cons_succ]
        refine skipH 12 rfl (by kernel_rfl) (by kernel_rfl) (by kernel_rfl) (fun _ _ _ h => h) hH rfl ?_
        try simp only [Act.put, List.setIfInBounds_toArray, List.set_cons_zero, List.set_cons_succ]
        refine takeH 13 (v := ?vcn4) rfl (by kernel_rfl) (by kernel_rfl) (by kernel_rfl) (fun _ _ _ h => h) hH rfl ?ycn4 ?rcn4
        case ycn4 => intro W hSw; go_simp; try with_reducible rfl
        try simp only [Act.put, List.setIfInBounds_toArray, List.set_cons_zero, List.set_cons_succ]
        refine takeH 14 (v := ?vcn5) rfl (by kernel_rfl) (by kernel_rfl) (by kernel_rfl) (fun _ _ _ h => h) hH rfl ?ycn5 ?rcn5
        case ycn5 => intro W hSw; go_simp; try with_reducible rfl
        try simp only [Act.put, List.setIfInBounds_toArray, List.set_cons_zero, List.set_cons_succ]
        refine takeH 15 (v := ?vcn6) rfl (by kernel_rfl) (by kernel_rfl) (by kernel_rfl) (fun _ _ _ h => h) hH rfl ?ycn6 ?rcn6
        case ycn6 => intro W hSw; go_simp; try with_reducible rfl
        try simp only [Act.put, List.setIfInBounds_toArray, List.set_cons_zero, List.set_cons_succ]
        refine takeH 16 (v := ?vcn7) rfl (by kernel_rfl) (by kernel_rfl) (by kernel_rfl) (fun _ _ _ h => h) hH rfl ?ycn7 ?rcn7
        case ycn7 => intro W hSw; go_simp; try with_reducible rfl
        try simp only [Act.put, List.setIfInBounds_toArray, List.set_cons_zero, List.set_cons_succ]
        refine callH 17 rfl (by kernel_rfl) rfl (fun K hK => ?_)
        go_simp
        go_at_call 34
        refine (impl_put (SB + 1) hi (SB + 1 + 1) f ns x _ Hls.out (by rw [Hns.out]; exact Hst.out)).mono ?_
        rintro e wz ⟨rfl, hi2, ns2, hls2, hns2, hbz, hsame⟩
        have Hls2 := Lib.hid hls2; have Hns2 := Lib.hid hns2; have Hbz := Lib.hid hbz
        rw [Hns.out] at Hns2
        have hstay : ∀ j, wz.cell? ⟨BB, j, none⟩ = WD.cell? ⟨BB, j, none⟩ := fun j => World.cell?_of_block (hsame BB (by omega) hzB)
        rw [Hns.out, ← hpc]
        clear hls2 hns2 hsame
        refine hK.out _ _ ⟨(hbz.cell (p := ⟨SB, 1, none⟩) (by simp only; omega)).trans hH.1, fun h0 => (hbz.cell (p := ⟨gb, off + (k - 1) * 4, none⟩) (by simp only; omega)).trans (hH.2.1 h0), (hstay 0).trans hH.2.2.1, (hstay 1).trans hH.2.2.2.1, (hstay 2).trans hH.2.2.2.2.1, (hstay 3).trans hH.2.2.2.2.2⟩ (fun hH => ?_)
        clear hK K
        try simp only [Act.put, List.setIfInBounds_toArray, List.set_cons_zero, List.set_cons_succ]
        have Hbel2 := Lib.hid (Hbel.out.trans Hbz.out)
        clear hstay hbz
        clear hpc
        refine takeH 18 (v := ?vcn8) rfl (by kernel_rfl) (by kernel_rfl) (by kernel_rfl) (fun _ _ _ h => h) hH rfl ?ycn8 ?rcn8
        case ycn8 => intro W hSw; go_simp; try with_reducible rfl
        try simp only [Act.put, List.setIfInBounds_toArray, List.set_cons_zero, List.set_cons_succ]
        refine takeH 19 (v := ?vcn9) rfl (by kernel_rfl) (by kernel_rfl) (by kernel_rfl) (fun _ _ _ h => h) hH rfl ?ycn9 ?rcn9
        case ycn9 => intro W hSw; go_simp; try with_reducible rfl
        try simp only [Act.put, List.setIfInBounds_toArray, List.set_cons_zero, List.set_cons_succ]
        refine wpAnyH_done (by kernel_rfl) ?_ _
        try simp only [Act.put]
        clear hH hzB hp0
        go_wp2
        go_ret2
        exact LkP.no rfl Hs.out (by rw [HSB.out]; exact Hb1.out.trans (Hbel2.out.mono (by omega)))
      case pos =>
        have Hg := Lib.hid (Hgood.out (fun h => by omega) (by rw [← hpc]; exact hp0))
        have Hp0 := Lib.hid (show pcZ f (l.take k) x = 0 by rw [← hpc]; exact hp0)
        have hne : (pc != 0) = false := by simp [hp0]
        have hne' : (pc == 0) = true := by simp [hp0]
        refine wp_region_held_drew (S := fun W => W.cell? ⟨SB, 1, none⟩ = some (.slice (some ⟨gb, off, none⟩) l.length vc) ∧ (0 < k → W.cell? ⟨gb, off + (k - 1) * 4, none⟩ = some (.int .i64 pd)) ∧ W.cell? ⟨BB, 0, none⟩ = some (.int .i64 x.d) ∧ W.cell? ⟨BB, 1, none⟩ = some (.int .i64 x.a) ∧ W.cell? ⟨BB, 2, none⟩ = some (.int .i64 x.r) ∧ W.cell? ⟨BB, 3, none⟩ = some (.int .i64 x.s)) (by kernel_rfl) ⟨x1, Hpd.out, b0, b1, b2, b3⟩ (fun hH => ?_)
        have Hls := Lib.hid (Hls.out.under ((Below.refl _ WB).drew))
        have Hbel := Lib.hid (show Below (SB + 1) W1 WB.drew from Hbel.out.drew)
        have hzB : BB < WB.drew.heap.size := hzB
        clear x1 Hpd b0 b1 b2 b3
        generalize WB.drew = WD at *
        refine takeH 0 (v := ?vcp1) rfl (by kernel_rfl) (by kernel_rfl) (by kernel_rfl) (fun _ _ _ h => h) hH rfl ?ycp1 ?rcp1
        case ycp1 => intro W hSw; go_simp; try with_reducible rfl
        try simp only [Act.put, List.setIfInBounds_toArray, List.set_cons_zero, List.set_cons_succ]
        refine takeH 1 (v := .bool false) rfl (by kernel_rfl) (by kernel_rfl) (by kernel_rfl) (fun _ _ _ h => h) hH rfl ?ycp2 ?rcp2
        case ycp2 => intro W hSw; go_simp; first | done | simp only [h0'] | omega | (simp; omega)
        try simp only [Act.put, List.setIfInBounds_toArray, List.set_cons_zero, List.set_cons_succ]
        refine takeH 2 (v := ?vcp3) rfl (by kernel_rfl) (by kernel_rfl) (by kernel_rfl) (fun _ _ _ h => h) hH rfl ?ycp3 ?rcp3
        case ycp3 => intro W hSw; go_simp; try with_reducible rfl
        try simp only [Act.put, List.setIfInBounds_toArray, List.set_cons_zero, List.set_cons_succ]
        refine skipH 3 rfl (by kernel_rfl) (by kernel_rfl) (by kernel_rfl) (fun _ _ _ h => h) hH rfl ?_
        try simp only [Act.put, List.setIfInBounds_toArray, List.set_cons_zero, List.set_cons_succ]
        refine skipH 4 rfl (by kernel_rfl) (by kernel_rfl) (by kernel_rfl) (fun _ _ _ h => h) hH rfl ?_
        try simp only [Act.put, List.setIfInBounds_toArray, List.set_cons_zero, List.set_cons_succ]
        refine skipH 5 rfl (by kernel_rfl) (by kernel_rfl) (by kernel_rfl) (fun _ _ _ h => h) hH rfl ?_
        try simp only [Act.put, List.setIfInBounds_toArray, List.set_cons_zero, List.set_cons_succ]
        refine skipH 6 rfl (by kernel_rfl) (by kernel_rfl) (by kernel_rfl) (fun _ _ _ h => h) hH rfl ?_
        try simp only [Act.put, List.setIfInBounds_toArray, List.set_cons_zero, List.set_cons_succ]
        refine skipH 7 rfl (by kernel_rfl) (by kernel_rfl) (by kernel_rfl) (fun _ _ _ h => h) hH rfl ?_
        try simp only [Act.put, List.setIfInBounds_toArray, List.set_cons_zero, List.set_cons_succ]
        refine skipH 8 rfl (by kernel_rfl) (by kernel_rfl) (by kernel_rfl) (fun _ _ _ h => h) hH rfl ?_
        try simp only [Act.put, List.setIfInBounds_toArray, List.set_cons_zero, List.set_cons_succ]
        refine skipH 9 rfl (by kernel_rfl) (by kernel_rfl) (by kernel_rfl) (fun _ _ _ h => h) hH rfl ?_
        try simp only [Act.put, List.setIfInBounds_toArray, List.set_cons_zero, List.set_cons_succ]
        refine skipH 10 rfl (by kernel_rfl) (by kernel_rfl) (by kernel_rfl) (fun _ _ _ h => h) hH rfl ?_
        try simp only [Act.put, List.setIfInBounds_toArray, List.set_cons_zero, List.set_cons_succ]
        refine skipH 11 rfl (by kernel_rfl) (by kernel_rfl) (by kernel_rfl) (fun _ _ _ h => h) hH rfl ?_
        try simp only [Act.put, List.setIfInBounds_toArray, List.set_cons_zero, List.set_cons_succ]
        refine skipH 12 rfl (by kernel_rfl) (by kernel_rfl) (by kernel_rfl) (fun _ _ _ h => h) hH rfl ?_
        try simp only [Act.put, List.setIfInBounds_toArray, List.set_cons_zero, List.set_cons_succ]
        refine takeH 13 (v := ?vcp4) rfl (by kernel_rfl) (by kernel_rfl) (by kernel_rfl) (fun _ _ _ h => h) hH rfl ?ycp4 ?rcp4
        case ycp4 => intro W hSw; go_simp; try with_reducible rfl
        try simp only [Act.put, List.setIfInBounds_toArray, List.set_cons_zero, List.set_cons_succ]
        refine takeH 14 (v := ?vcp5) rfl (by kernel_rfl) (by kernel_rfl) (by kernel_rfl) (fun _ _ _ h => h) hH rfl ?ycp5 ?rcp5
        case ycp5 => intro W hSw; go_simp; try with_reducible rfl
        try simp only [Act.put, List.setIfInBounds_toArray, List.set_cons_zero, List.set_cons_succ]
        refine takeH 15 (v := ?vcp6) rfl (by kernel_rfl) (by kernel_rfl) (by kernel_rfl) (fun _ _ _ h => h) hH rfl ?ycp6 ?rcp6
        case ycp6 => intro W hSw; go_simp; try with_reducible rfl
        try simp only [Act.put, List.setIfInBounds_toArray, List.set_cons_zero, List.set_cons_succ]
        refine takeH 16 (v := ?vcp7) rfl (by kernel_rfl) (by kernel_rfl) (by kernel_rfl) (fun _ _ _ h => h) hH rfl ?ycp7 ?rcp7
        case ycp7 => intro W hSw; go_simp; try with_reducible rfl
        try simp only [Act.put, List.setIfInBounds_toArray, List.set_cons_zero, List.set_cons_succ]
        refine callH 17 rfl (by kernel_rfl) rfl (fun K hK => ?_)
        go_simp
        go_at_call 34
        refine (impl_put (SB + 1) hi (SB + 1 + 1) f ns x _ Hls.out (by rw [Hns.out]; exact Hst.out)).mono ?_
        rintro e wz ⟨rfl, hi2, ns2, hls2, hns2, hbz, hsame⟩
        have Hls2 := Lib.hid hls2; have Hns2 := Lib.hid hns2; have Hbz := Lib.hid hbz
        rw [Hns.out] at Hns2
        have hstay : ∀ j, wz.cell? ⟨BB, j, none⟩ = WD.cell? ⟨BB, j, none⟩ := fun j => World.cell?_of_block (hsame BB (by omega) hzB)
        rw [Hns.out, ← hpc]
        clear hls2 hns2 hsame
        refine hK.out _ _ ⟨(hbz.cell (p := ⟨SB, 1, none⟩) (by simp only; omega)).trans hH.1, fun h0 => (hbz.cell (p := ⟨gb, off + (k - 1) * 4, none⟩) (by simp only; omega)).trans (hH.2.1 h0), (hstay 0).trans hH.2.2.1, (hstay 1).trans hH.2.2.2.1, (hstay 2).trans hH.2.2.2.2.1, (hstay 3).trans hH.2.2.2.2.2⟩ (fun hH => ?_)
        clear hK K
        try simp only [Act.put, List.setIfInBounds_toArray, List.set_cons_zero, List.set_cons_succ]
        have Hbel2 := Lib.hid (Hbel.out.trans Hbz.out)
        clear hstay hbz
        clear hpc
        refine takeH 18 (v := ?vcp8) rfl (by kernel_rfl) (by kernel_rfl) (by kernel_rfl) (fun _ _ _ h => h) hH rfl ?ycp8 ?rcp8
        case ycp8 => intro W hSw; go_simp; try with_reducible rfl
        try simp only [Act.put, List.setIfInBounds_toArray, List.set_cons_zero, List.set_cons_succ]
        refine takeH 19 (v := ?vcp9) rfl (by kernel_rfl) (by kernel_rfl) (by kernel_rfl) (fun _ _ _ h => h) hH rfl ?ycp9 ?rcp9
        case ycp9 => intro W hSw; go_simp; try with_reducible rfl
        try simp only [Act.put, List.setIfInBounds_toArray, List.set_cons_zero, List.set_cons_succ]
        refine wpAnyH_done (by kernel_rfl) ?_ _
        try simp only [Act.put]
        clear hH hzB hp0
        go_wp2
        go_roundw
        case rel => exact ⟨k + 1, hi2, ns2, by omega, by go_num, Hls2.out, by rw [Hns2.out, if_pos Hp0.out, Hg.out.1], Lib.hid Hg.out.2, Hbel2.out⟩
        case measure => simp [intOf]; omega

end Go.Proofs.Ythojbcecbeapgab

/- What the library's Collect answers over the batches of a linked list, by a walk of its text; condition: the list lies as it should. -/
namespace Go.Proofs.Ythojbcecbeapgab
open Go.RowKit Go.Shelf
attribute [local go_sem] Oper.semAt_some

/-- 'append(s, one row)' in a round. -/
theorem wpListIn_push_N {L n : Nat} {P : Program} {T E : TypeId} {sz bytes : Nat} {z0 : Value} (hsl : P.underlying T = some (.slice E)) (hinf : (P.info? E).map (fun i => (i.zero, i.size, i.bytes)) = some (some z0, sz, bytes)) (hz0 : z0.cells.size = sz) (hpos : 0 < sz) (hby : bytes ≤ 1000)
    {w : World} {ops : Array Oper} {rest : List Oper} {o : Oper} {a : Act} {Q : Exit → Act → World → Prop} (hgd : o.guard = none) (s x : Operand) (ho : o.op = .call { callee := .builtin .append, args := #[s, x], argTypes := #[T, T] }) (B : Nat) (v : Value) (es : List (List Int)) (e : List Int)
    (hs : a.eval s = v) (hb : OwnN E sz w B v es) (he : e.length = sz) (hx : a.eval x = .slice (some ⟨w.heap.size, 0, none⟩) 1 1) (hlen : es.length + 1 ≤ 1048577) (hB : B ≤ w.heap.size)
    (h : ∀ v' w', OwnN E sz w' B v' (es ++ [e]) → w.grownBy w' v.ownBlock → (∀ g, v'.ownBlock = some g → v.ownBlock = some g ∨ w.heap.size ≤ g) → wpListIn (Fence.wide.inRound L) n P ops Q rest (a.put o.dst v') w') : wpListIn (Fence.wide.inRound L) n P ops Q (o :: rest) a (w.alloc (.cells (rwN e).toArray E)) := by
  have hal : Below w.heap.size w (w.alloc (.cells (rwN e).toArray E)) := (Below.refl _ _).alloc (Nat.le_refl _) _
  refine wpListIn_plain hgd fun K hK => op_round (fun c hc => by rw [ho] at hc; cases hc) (op_app_N hsl hinf hz0 hpos hby s x ho B v es [e] (some ⟨w.heap.size, 0, none⟩) 1 hs (hb.below hal) hx (fun e' h' => by rw [List.mem_singleton] at h'; subst h'; exact he) (.inr ⟨_, rfl, SrcN.new w E e⟩) (by rw [List.length_singleton]; exact hlen) (by rw [World.size_alloc]; omega) fun v' w' h1 h2 h3 => hK _ _ (h v' w' h1 (grownBy_trans (World.grownBy_alloc w _ _) h2) fun g e => ?_))
  rcases h3 g e with h4 | h4
  · exact .inl h4
  · exact .inr (by rw [World.size_alloc] at h4; omega)

theorem bt_info : (Try.prog.info? 27).map (fun i => (i.zero, i.size, i.bytes)) = some (some (.agg #[.int .i64 0, .int .i64 0, .int .i64 0, .int .i64 0]), 4, 32) := by kernel_rfl
set_option maxHeartbeats 2000000 in
theorem lib_AppendSeq (lo hi P : Nat) (f : Int) (ns : List (Nat × Bt)) (Bs : Nat) (w : World) (h : LS w lo hi P f ns) (hsm : ns.length ≤ 1048576) (hbs : Str w Bs 57 #[ptV P]) :
    Calls Try.prog 60 #[.slice none 0 0, .func (.func 61) #[] #[.pointer (some ⟨Bs, 0, none⟩)]] w fun e w' => ∃ v, e = .returned v ∧ OwnN 27 4 w' w.heap.size v ((bsL ns).map btN) ∧ Below w.heap.size w w' := by
  have H := Lib.hid h; clear h
  have HBs := Lib.hid hbs; clear hbs
  have Hlb := Lib.hid (bsL_len ns)
  refine (callsIn_wide (n := 3)).1 ?_
  refine callsIn_of_wp_marks Try.func60 rfl trivial ?_ rfl
  simp only [Try.ntmps60, List.size_toArray, List.length_cons, List.length_nil, Nat.reduceAdd, Nat.reduceSub, Array.replicate_succ, Array.replicate_zero, List.push_toArray, List.append_toArray, List.nil_append, List.cons_append]
  gi_wp2
  obtain ⟨w1, hw1⟩ : ∃ w1, w.alloc (.cells #[.slice none 0 0] 23) = w1 := ⟨_, rfl⟩
  have hz1 : w1.heap.size = w.heap.size + 1 := by rw [← hw1]; simp
  have hr1 : Str w1 w.heap.size 23 #[.slice none 0 0] := by rw [← hw1]; exact Str.new _ _ _
  have hb1 : Below w.heap.size w w1 := by rw [← hw1]; exact (Below.refl _ w).alloc (Nat.le_refl _) _
  rw [hw1]
  clear hw1
  refine wpIn_over (gf := 61) (lb := #[.pointer (some ⟨Bs, 0, none⟩)]) rfl (enters_of Try.func61 (by kernel_rfl) rfl) ?_
  intro rec hrc hround
  have Hround := Lib.hid hround; clear hround
  obtain ⟨w2, hw2⟩ : ∃ w2, (w1.alloc (.deferred (some []))).alloc (rec .ready none) = w2 := ⟨_, rfl⟩
  have hz2 : w2.heap.size = w1.heap.size + 2 := by rw [← hw2]; simp
  have hD2 : w2.heap[w1.heap.size]? = some (.deferred (some [])) := by
    rw [← hw2]; exact (Below.heap_alloc _ _ _ (by simp)).trans (World.alloc_heap_new w1 _)
  have hL2 : w2.heap[w1.heap.size + 1]? = some (rec .ready none) := by
    rw [← hw2]; have := World.alloc_heap_new (w1.alloc (.deferred (some []))) (rec .ready none); rwa [World.size_alloc] at this
  have hb2 : Below w1.heap.size w1 w2 := by rw [← hw2]; exact ((Below.refl _ w1).alloc (Nat.le_refl _) _).alloc (by simp) _
  rw [hw2]
  clear hw2
  have hbw : Below w.heap.size w w2 := below_step hb1 hb1.size hb2
  have hBl := HBs.out.lt
  have hI2 : Itr w w2 lo hi P f ns Bs w1.heap.size (w1.heap.size + 1) (rec .ready none) := ⟨H.out.under hbw, (hbw.block _ hBl).trans HBs.out, hD2, hL2, hbw, H.out.le, by omega⟩
  refine (impl_batches1 (w1.heap.size + 1) Bs lo hi P f ns
    (fun pre W => ∃ v, Str W w.heap.size 23 #[v] ∧ OwnN 27 4 W w.heap.size v (pre.map btN) ∧ (∀ g, v.ownBlock = some g → w2.heap.size ≤ g) ∧ Itr w W lo hi P f ns Bs w1.heap.size (w1.heap.size + 1) (rec .ready none) ∧ w2.heap.size ≤ W.heap.size) (fun pre W hJ => by obtain ⟨v, _, _, _, hI, _⟩ := hJ; exact ⟨hI.ls, hI.box⟩) ?Y w2
    ⟨_, (hb2.block _ (by omega)).trans hr1, ⟨by simp, World.ownsRow_nil _ _ _ _⟩, (fun g e => by cases e), hI2, Nat.le_refl _⟩).mono ?_
  case Y =>
    rintro pre x rest W hpre ⟨v, hbx, hown, hfr, hI, hsz⟩
    have hpl : pre.length + 1 ≤ (bsL ns).length := by rw [← hpre]; simp
    have hlen := Hlb.out
    obtain ⟨es, hes⟩ : ∃ es, es = pre.map btN := ⟨_, rfl⟩
    have hesl : es.length + 1 ≤ 1048577 := by rw [hes, List.length_map]; omega
    rw [← hes] at hown
    obtain ⟨av, cv, rfl, _⟩ := hown.slice
    obtain ⟨xd, xa, xr, xs⟩ := x
    refine Hround.out #[agB ⟨xd, xa, xr, xs⟩] W _ rfl hI.ll ?_
    unfold agB
    have halx : W.grownBy (W.alloc (.cells #[.int .i64 xd, .int .i64 xa, .int .i64 xr, .int .i64 xs] 27)) none := World.grownBy_alloc W _ none
    have sX := Str.new W 27 #[.int .i64 xd, .int .i64 xa, .int .i64 xr, .int .i64 xs]
    have hIx := hI.kept halx (fun m e => by cases e)
    have hbxx := hbx.kept halx (by simp)
    have hownx := hown.kept halx (fun g _ e => by cases e)
    have hszx := Nat.le_trans hsz halx.size
    have hBX := hI.bel.size
    have hBL := hI.ltL
    have HI := Lib.hid hIx; have HB := Lib.hid hbxx; have HO := Lib.hid hownx; have HX := Lib.hid sX
    clear hIx hbxx hownx sX halx hI hbx hown
    gi_wp2_with fail
    generalize W.alloc (.cells #[.int .i64 xd, .int .i64 xa, .int .i64 xr, .int .i64 xs] 27) = WX at *
    refine ⟨HI.out.ll, ?_⟩
    have hg1 := grownBy_putObj' WX (w1.heap.size + 1) (rec .busy none)
    have HI3 := Lib.hid (HI.out.put (rec .busy none))
    have HB3 := Lib.hid (HB.out.kept hg1 (by simp; omega))
    have HX3 := Lib.hid (HX.out.kept hg1 (by simp; omega))
    have HO3 := Lib.hid (HO.out.kept hg1 (fun g e e2 => by have := hfr g e; injection e2 with e2; omega))
    have hsz3 : w2.heap.size ≤ (WX.putObj (w1.heap.size + 1) (rec .busy none)).heap.size := Nat.le_trans hszx hg1.size
    clear HI HB HX HO hg1
    generalize WX.putObj (w1.heap.size + 1) (rec .busy none) = W3 at *
    generalize W.heap.size = BX at *
    have hcb := HB3.out.cell 0 (v := .slice av es.length cv) rfl
    have hfb := HB3.out.frozen 0
    have x0 := HX3.out.cell 0 (v := .int .i64 xd) rfl
    have x1 := HX3.out.cell 1 (v := .int .i64 xa) rfl
    have x2 := HX3.out.cell 2 (v := .int .i64 xr) rfl
    have x3 := HX3.out.cell 3 (v := .int .i64 xs) rfl
    have hBW : w.heap.size ≤ W3.heap.size := by omega
    have Hes := Lib.hid hes
    have Hz := Lib.hid (show w.heap.size < w1.heap.size ∧ w1.heap.size + 1 < w2.heap.size by omega)
    have Hsz3 := Lib.hid hsz3
    clear hes hz1 hz2 hpl hlen hpre hszx hsz hsz3
    gi_wp2_with (gi_at_builtin; (refine wpListIn_push_N (L := w1.heap.size + 1) Try.underlying23 bt_info rfl (by decide) (by decide) rfl _ _ rfl w.heap.size (.slice av es.length cv) es (btN ⟨xd, xa, xr, xs⟩) rfl HO3.out rfl rfl hesl hBW ?_; intro v4 w4 hown4 hg4 hat4); (have hbx4 := HB3.out.kept hg4 (fun e => by have := hfr _ e.symm; have := Hz.out; omega)); (obtain ⟨es4, hes4⟩ : ∃ es4, es4 = es ++ [btN ⟨xd, xa, xr, xs⟩] := ⟨_, rfl⟩); (rw [← hes4] at hown4); (have Hes4 := Lib.hid hes4); (clear hes4); (obtain ⟨a4, c4, rfl, _⟩ := hown4.slice); (have Ho4 := Lib.hid hown4); (have Hat4 := Lib.hid hat4); (have Hg4 := Lib.hid hg4); (have HB4 := Lib.hid hbx4); (have hc4 := hbx4.cell 0 (v := .slice av es.length cv) rfl); (have hf4 := hbx4.frozen 0); (clear hown4 hat4 hg4 hbx4 hcb hfb x0 x1 x2 x3 HX3))
    have hz := Hz.out
    have hs3 := Hsz3.out
    have hI4 := HI3.out.kept Hg4.out (fun m e => by have := hfr m e; have := HI3.out.ord; omega)
    have hfr4 : ∀ g, (Value.slice a4 es4.length c4).ownBlock = some g → w2.heap.size ≤ g := fun g e => by
      rcases Hat4.out g e with h | h
      · exact hfr g h
      · omega
    have hgs := grownBy_set w4 w.heap.size 0 (.slice a4 es4.length c4)
    have hI5 := hI4.kept hgs (fun m e => by cases e; omega)
    have hB5 := HB4.out.set 0 (.slice a4 es4.length c4)
    have hO5 := Ho4.out.kept hgs (fun g e e2 => by have := hfr4 g e; injection e2 with e2; omega)
    have hsz4 := Hg4.out.size
    have hg6 := grownBy_putObj' (w4.setCell ⟨w.heap.size, 0, none⟩ (.slice a4 es4.length c4)) (w1.heap.size + 1) (rec .ready none)
    refine ⟨hI5.ll, .inl ⟨rfl, rfl, _, hB5.kept hg6 (by simp; omega), ?_, hfr4, hI5.put (rec .ready none), ?_⟩⟩
    · rw [List.map_append, List.map_singleton, ← Hes.out, ← Hes4.out]
      exact hO5.kept hg6 (fun g e e2 => by have := hfr4 g e; injection e2 with e2; omega)
    · have := hg6.size
      have := hgs.size
      omega
  · rintro e W ⟨hv, v, hbx, hown, hfr, hI, hsz⟩
    refine ⟨hv, .inl ⟨hI.ll, ?_⟩⟩
    have hg1 := grownBy_putObj' W (w1.heap.size + 1) (rec .exhausted none)
    have HI3 := Lib.hid (hI.put (rec .exhausted none))
    have hbx3 := hbx.kept hg1 (by simp; omega)
    have HO3 := Lib.hid (hown.kept hg1 (fun g e e2 => by have := hfr g e; injection e2 with e2; omega))
    clear hI hbx hown hg1
    generalize W.putObj (w1.heap.size + 1) (rec .exhausted none) = W3 at *
    have hcb := hbx3.cell 0 (v := v) rfl
    have Hz := Lib.hid (show w.heap.size < w1.heap.size ∧ w1.heap.size + 1 < w2.heap.size by omega)
    clear hz1 hz2
    gi_wp2
    refine ⟨by simp, .inl ⟨_, _, rfl, run_takeDeferred HI3.out.dd, ?_⟩⟩
    have hz := Hz.out
    exact ⟨_, results_tmp rfl _ _ _, v, rfl, HO3.out.kept (grownBy_putObj' _ _ _) (fun g e e2 => by have := hfr g e; injection e2 with e2; omega), HI3.out.bel.grown (grownBy_putObj' _ _ _) HI3.out.bel.size (fun k e => by cases e; omega)⟩

theorem lib_Collect (lo hi P : Nat) (f : Int) (ns : List (Nat × Bt)) (Bs : Nat) (w : World) (h : LS w lo hi P f ns) (hsm : ns.length ≤ 1048576) (hbs : Str w Bs 57 #[ptV P]) :
    Calls Try.prog 54 #[.func (.func 61) #[] #[.pointer (some ⟨Bs, 0, none⟩)]] w fun e w' => ∃ v, e = .returned v ∧ OwnN 27 4 w' w.heap.size v ((bsL ns).map btN) ∧ Below w.heap.size w w' := by
  have HA := Lib.hid (lib_AppendSeq lo hi P f ns Bs w h hsm hbs)
  clear h hbs
  go_enter Try.func54, Try.ntmps54
  go_wp2_with fail
  refine HA.out.mono ?_
  rintro e w1 ⟨v, rfl, hown, hb⟩
  have Ho := Lib.hid hown; have Hb := Lib.hid hb
  clear hown hb
  go_wp2
  go_ret
  exact ⟨v, rfl, Ho.out, Hb.out⟩


end Go.Proofs.Ythojbcecbeapgab

/- What impl makes of its linked list again, and how it forgets batches below a floor, each by a walk of its text; condition: the list lies as it should. -/
namespace Go.Proofs.Ythojbcecbeapgab
open Go.RowKit

set_option maxHeartbeats 1000000 in
theorem impl_store (lo hi P : Nat) (f : Int) (ns : List (Nat × Bt)) (w : World) (h : LS w lo hi P f ns) (hsm : ns.length ≤ 1048576) :
    Calls Try.prog 35 #[ptV P] w fun e w' => ∃ v, e = .returned (.agg #[.int .i64 f, v]) ∧ OwnN 27 4 w' w.heap.size v ((bsL ns).map btN) ∧ Below w.heap.size w w' := by
  have hb0 : Below w.heap.size w (w.alloc (.cells #[.int .i64 0, .slice none 0 0] 25)) := (Below.refl _ _).alloc (Nat.le_refl _) _
  have s0 := Str.new w 25 #[.int .i64 0, .slice none 0 0]
  have hz0 : w.heap.size < (w.alloc (.cells #[.int .i64 0, .slice none 0 0] 25)).heap.size := by simp
  have h0 := h.under hb0
  obtain ⟨z0, _, _, _⟩ := h0.cell
  have Hb0 := Lib.hid hb0; have S0 := Lib.hid s0; have H0 := Lib.hid h0
  have hPl := Nat.lt_of_lt_of_le h.ltP h.le
  clear h hb0 s0 h0
  unfold ptV
  go_enter Try.func35, Try.ntmps35
  go_wp2_with fail
  generalize w.alloc (.cells #[.int .i64 0, .slice none 0 0] 25) = W0 at *
  refine wp_region_L 8 (fun W => W.cell? ⟨P, 0, none⟩ = some (.int .i64 f) ∧ P < W.heap.size) (by kernel_rfl) ⟨z0, Nat.lt_trans hPl hz0⟩ (fun hH => ?_)
  have H1 := Lib.hid (H0.out.under (Below.refl _ _).drew)
  have Hb1 := Lib.hid Hb0.out.drew
  have S1 := Lib.hid (show Str W0.drew w.heap.size 25 #[.int .i64 0, .slice none 0 0] from S0.out)
  have hz1 : w.heap.size < W0.drew.heap.size := hz0
  clear z0 H0 Hb0 S0 hz0
  generalize W0.drew = W1 at *
  refine takeL 0 (v := ?vst1) rfl (by kernel_rfl) (by kernel_rfl) (by kernel_rfl) (by kernel_rfl) (by kernel_rfl) (fun _ _ _ h => h) hH rfl ?yst1 ?rst1
  case yst1 => intro W hSw; go_simp; try with_reducible rfl
  try simp only [Act.put, List.setIfInBounds_toArray, List.set_cons_zero, List.set_cons_succ]
  refine takeL 1 (v := ?vst2) rfl (by kernel_rfl) (by kernel_rfl) (by kernel_rfl) (by kernel_rfl) (by kernel_rfl) (fun _ _ _ h => h) hH rfl ?yst2 ?rst2
  case yst2 => intro W hSw; go_simp; try with_reducible rfl
  try simp only [Act.put, List.setIfInBounds_toArray, List.set_cons_zero, List.set_cons_succ]
  refine takeL 2 (v := ?vst3) rfl (by kernel_rfl) (by kernel_rfl) (by kernel_rfl) (by kernel_rfl) (by kernel_rfl) (fun _ _ _ h => h) hH rfl ?yst3 ?rst3
  case yst3 => intro W hSw; go_simp; try with_reducible rfl
  try simp only [Act.put, List.setIfInBounds_toArray, List.set_cons_zero, List.set_cons_succ]
  refine takeL 3 (v := ?vst4) rfl (by kernel_rfl) (by kernel_rfl) (by kernel_rfl) (by kernel_rfl) (by kernel_rfl) (fun _ _ _ h => h) hH rfl ?yst4 ?rst4
  case yst4 => intro W hSw; go_simp; try with_reducible rfl
  try simp only [Act.put, List.setIfInBounds_toArray, List.set_cons_zero, List.set_cons_succ]
  refine takeL 4 (v := ?vst5) rfl (by kernel_rfl) (by kernel_rfl) (by kernel_rfl) (by kernel_rfl) (by kernel_rfl) (fun _ _ _ h => h) hH rfl ?yst5 ?rst5
  case yst5 => intro W hSw; go_simp; try with_reducible rfl
  try simp only [Act.put, List.setIfInBounds_toArray, List.set_cons_zero, List.set_cons_succ]
  refine callL 5 rfl (by kernel_rfl) rfl (fun K hK => ?_)
  go_simp
  go_at_call 55
  refine (impl_batches P _).mono ?_
  rintro e wz ⟨rfl, rfl⟩
  have hal : Below W1.heap.size W1 (W1.alloc (.cells #[ptV P] 57)) := (Below.refl _ _).alloc (Nat.le_refl _) _
  have H2 := Lib.hid (H1.out.under hal)
  have Hb2 := Lib.hid (below_step Hb1.out Hb1.out.size hal)
  have S2 := Lib.hid (S1.out.alloc (.cells #[ptV P] 57))
  have SB := Lib.hid (Str.new W1 57 #[ptV P])
  have hz2 : W1.heap.size < (W1.alloc (.cells #[ptV P] 57)).heap.size := by simp
  refine hK.out _ _ ⟨(hal.cell (p := ⟨P, 0, none⟩) hH.2).trans hH.1, by omega⟩ (fun hH => ?_)
  clear hK K
  try simp only [Act.put, List.setIfInBounds_toArray, List.set_cons_zero, List.set_cons_succ]
  have hP2 := hH
  clear hal
  generalize (W1.alloc (.cells #[ptV P] 57)) = W2 at *
  generalize W1.heap.size = BB at *
  refine callL 6 rfl (by kernel_rfl) rfl (fun K hK => ?_)
  go_simp
  go_at_call 54
  refine (lib_Collect lo hi P f ns BB _ H2.out hsm SB.out).mono ?_
  rintro e w3 ⟨v, rfl, hown, hb3⟩
  have S3 := Lib.hid (show Str w3 w.heap.size 25 #[.int .i64 0, .slice none 0 0] from (hb3.block _ S2.out.lt).trans S2.out)
  have Hb3 := Lib.hid (below_step Hb2.out Hb2.out.size hb3)
  obtain ⟨av, cv, rfl, _⟩ := hown.slice
  obtain ⟨nn, hnn⟩ : ∃ nn, nn = ((bsL ns).map btN).length := ⟨_, rfl⟩
  rw [← hnn] at hown
  have Ho := Lib.hid hown
  clear hown
  refine hK.out _ _ ⟨(hb3.cell (p := ⟨P, 0, none⟩) hP2.2).trans hP2.1, Nat.lt_of_lt_of_le hP2.2 hb3.size⟩ (fun hH => ?_)
  clear hK K
  try simp only [Act.put, List.setIfInBounds_toArray, List.set_cons_zero, List.set_cons_succ]
  rw [← hnn]
  clear hnn
  refine takeL 7 (v := ?vst6) rfl (by kernel_rfl) (by kernel_rfl) (by kernel_rfl) (by kernel_rfl) (by kernel_rfl) (fun _ _ _ h => h) hH rfl ?yst6 ?rst6
  case yst6 => intro W hSw; go_simp; try with_reducible rfl
  try simp only [Act.put, List.setIfInBounds_toArray, List.set_cons_zero, List.set_cons_succ]
  have c0 := S3.out.cell 0 (v := .int .i64 0) rfl
  have c1 := S3.out.cell 1 (v := .slice none 0 0) rfl
  have f0 := S3.out.frozen 0
  have f1 := S3.out.frozen 1
  refine lastL rfl (by kernel_rfl) (by kernel_rfl) (by kernel_rfl) rfl (fun K hK => ?_)
  go_simp
  refine hK.out _ _ ?_
  clear hK K
  try simp only [Act.put]
  clear hH c0 c1 f0 f1
  have sF := (S3.out.set 0 (.int .i64 f)).set 1 (.slice av nn cv)
  have e0 := sF.cell 0 (v := .int .i64 f) rfl
  have e1 := sF.cell 1 (v := .slice av nn cv) rfl
  have HbF := Lib.hid ((Hb3.out.setCell (p := ⟨w.heap.size, 0, none⟩) (Nat.le_refl _) (.int .i64 f)).setCell (p := ⟨w.heap.size, 1, none⟩) (Nat.le_refl _) (.slice av nn cv))
  have hne : ∀ g, (Value.slice av nn cv).ownBlock = some g → g ≠ w.heap.size := fun g e => by have := (Ho.out.lt g e).1; omega
  have HoF := Lib.hid ((Ho.out.kept (grownBy_set w3 w.heap.size 0 (.int .i64 f)) (fun g e e2 => hne g e (by injection e2 with e2; exact e2.symm))).kept (grownBy_set _ w.heap.size 1 (.slice av nn cv)) (fun g e e2 => hne g e (by injection e2 with e2; exact e2.symm)))
  clear sF
  go_wp2
  refine bodyPost_ret (v := .agg #[.int .i64 f, .slice av nn cv]) (by simp [results, Try.f35, go_sem, e0, e1]) rfl ?_
  exact ⟨_, rfl, HoF.out.mono (by omega), HbF.out⟩

set_option maxHeartbeats 1000000 in
theorem impl_forget (lo hi P : Nat) (f : Int) (ns : List (Nat × Bt)) (x : Int) (w : World) (h : LS w lo hi P f ns) :
    Calls Try.prog 49 #[ptV P, .int .i64 x] w fun e w' => e = .returned (.tuple #[]) ∧ ∃ ns', LS w' lo hi P x ns' ∧ ns'.length ≤ ns.length ∧ bsL ns' = fgL (bsL ns) x ∧ Below lo w w' := by
  obtain ⟨z0, z1, f0, _⟩ := h.cell
  obtain ⟨q0, b0, h0⟩ := h.head
  have hloP := h.loP
  have H := Lib.hid (h.floor x)
  have Hb := Lib.hid ((Below.refl lo w).setCell (p := ⟨P, 0, none⟩) hloP (.int .i64 x))
  have y1 := H.out.cell.2.1
  rw [nxV_at h0] at y1
  have H0 := Lib.hid h0
  clear h z1 h0
  unfold ptV at y1 ⊢
  go_enter Try.func49, Try.ntmps49
  go_wp2
  generalize w.setCell ⟨P, 0, none⟩ (.int .i64 x) = W0 at *
  clear z0 f0 y1
  go_loopw [4] (fun at_ wr => ∃ (k j q : Nat) (b : Bt) (ms : List (Nat × Bt)), at_ = .pointer (some ⟨q, 0, none⟩) ∧ ms[k]? = some (q, b) ∧ LS wr lo hi P x ms ∧ ms.length ≤ ns.length ∧ Hid ((bsL ms).take k = fgL ((bsL ns).take j) x) ∧ Hid ((bsL ms).drop k = (bsL ns).drop j) ∧ Below lo w wr) (fun at_ wr => chN wr ns.length at_)
  case atStart => exact ⟨0, 0, q0, b0, ns, rfl, H0.out, H.out, Nat.le_refl _, Lib.hid (by rw [List.take_zero]; rfl), Lib.hid rfl, Hb.out⟩
  case round =>
    obtain ⟨k, j, q, b, ms, rfl, hk, hls, hlen, Htk, Hdr, hb⟩ := hrel
    have c4 := (hls.node hk).2.2.2.2.1
    have fz := (hls.node hk).2.2.2.2.2 4
    have Hm0 := Lib.hid (hls.chn ns.length k q b hk (by omega))
    have Hls := Lib.hid hls; have Hb := Lib.hid hb; have Hk := Lib.hid hk
    have hkl := (List.getElem?_eq_some_iff.1 hk).1
    have hqi := (hls.inn k q b hk).1
    clear hls hb hk
    cases hn : ms[k + 1]? with
    | none =>
      rw [nxV_end hn] at c4
      have Hn := Lib.hid hn; clear hn
      go_wp2
      go_end0
      obtain ⟨e1, e2⟩ := next_end Hn.out Hdr.out
      refine ⟨rfl, ms, Hls.out, hlen, ?_, Hb.out⟩
      rw [← e2, Htk.out, e1]
    | some y =>
      obtain ⟨q2, b2⟩ := y
      rw [nxV_at hn] at c4
      obtain ⟨_, _, d2, _, d4, _⟩ := Hls.out.node hn
      obtain ⟨pa, hpa⟩ := nxV_ptr ms (k + 1 + 1)
      rw [hpa] at d4
      have Hpa := Lib.hid hpa
      have Hn := Lib.hid hn
      obtain ⟨hj, hjb, hdr, htk⟩ := next_at hn Hdr.out
      have hfg := fg_take hj x
      rw [hjb] at hfg
      have hl2 := (List.getElem?_eq_some_iff.1 hn).1
      unfold ptV at c4
      clear hn hpa
      by_cases hlt : b2.r < x
      · rw [if_neg (by omega)] at hfg
        have HL2 := Lib.hid (Hls.out.del Hk.out)
        rw [Hpa.out] at HL2
        obtain ⟨e1, e2⟩ := delA_tk hkl
        have HT := Lib.hid (show (bsL (delA ms k)).take k = fgL ((bsL ns).take (j + 1)) x by rw [e1, Htk.out, hfg])
        have HD := Lib.hid (show (bsL (delA ms k)).drop k = (bsL ns).drop (j + 1) by rw [e2, hdr])
        have hdl := delA_len hl2
        have hk2 : (delA ms k)[k]? = some (q, b) := by rw [delA_at hkl, if_pos (by omega)]; exact Hk.out
        have Hm1 := Lib.hid (HL2.out.chn ns.length k q b hk2 (by omega))
        have Hk2 := Lib.hid hk2
        have Hb2 := Lib.hid (Hb.out.setCell (p := ⟨q, 4, none⟩) hqi (.pointer pa))
        clear hfg hdr htk e1 e2 hjb hk2
        go_wp2
        go_roundw
        case rel => exact ⟨k, j + 1, q, b, delA ms k, rfl, Hk2.out, HL2.out, by omega, HT, HD, Hb2.out⟩
        case measure => rw [Hm0.out, Hm1.out]; omega
      · rw [if_pos (by omega)] at hfg
        have HT := Lib.hid (show (bsL ms).take (k + 1) = fgL ((bsL ns).take (j + 1)) x by rw [htk, Htk.out, hfg])
        have HD := Lib.hid hdr
        have Hm1 := Lib.hid (Hls.out.chn ns.length (k + 1) q2 b2 Hn.out (by omega))
        clear hfg hdr htk hjb
        go_wp2
        go_roundw
        case rel => exact ⟨k + 1, j + 1, q2, b2, ms, rfl, Hn.out, Hls.out, by omega, HT, HD, Hb.out⟩
        case measure => rw [Hm0.out, Hm1.out]; omega

end Go.Proofs.Ythojbcecbeapgab

/- What impl answers of stores, each by a walk of its text; condition: a list that is read has fewer than 2^40 elements. -/
namespace Go.Proofs.Ythojbcecbeapgab
open Go.RowKit

set_option maxHeartbeats 1000000 in
theorem impl_StoreValid (f : Int) (l : List Bt) (v : Value) (fp : List Nat) (w : World) (hbig : l.length ≤ 1099511627776) (hl : Bts w l v fp) :
    Calls Try.prog 21 #[.agg #[.int .i64 f, v]] w fun e w' => e = .returned (.bool (stB f l)) ∧ Below w.heap.size w w' := by
  obtain ⟨va, vc, rfl, _⟩ := hl.slice
  have hb0 : Below w.heap.size w (w.alloc (.cells #[.int .i64 f, .slice va l.length vc] 25)) := (Below.refl _ _).alloc (by first | exact Nat.le_refl _ | (simp only [World.size_alloc]; omega)) _
  have sX := Str.new w 25 #[.int .i64 f, .slice va l.length vc]
  have SX := Lib.hid sX
  have hz0 : w.heap.size + 1 = (w.alloc (.cells #[.int .i64 f, .slice va l.length vc] 25)).heap.size := by simp
  have Hz0 := Lib.hid hz0
  have Hl := Lib.hid (hl.under hb0)
  have Hb0 := Lib.hid hb0
  have Hlow := Lib.hid (show w.heap.size < (w.alloc (.cells #[.int .i64 f, .slice va l.length vc] 25)).heap.size by omega)
  have z0 := sX.cell 0 (v := .int .i64 f) rfl
  have z1 := sX.cell 1 (v := .slice va l.length vc) rfl
  clear hb0 hl hz0 sX
  go_enter Try.func21, Try.ntmps21
  go_wp2_with fail
  generalize (w.alloc (.cells #[.int .i64 f, .slice va l.length vc] 25)) = W0 at *
  refine (impl_linkedStoreOf f l _ fp W0 hbig Hl.out).mono ?_
  rintro e w1 ⟨hb1, ⟨hs, hi, P, ns, rfl, hls, hns⟩ | ⟨hs, rfl⟩⟩
  · have Hs := Lib.hid hs; have Hb1 := Lib.hid (below_step Hb0.out Hb0.out.size hb1)
    clear hs hb1 hls hns
    unfold ptV
    go_wp2
    go_ret
    exact ⟨ret_bool (by rw [Hs.out]), Hb1.out⟩
  · have Hs := Lib.hid hs; have Hb1 := Lib.hid (below_step Hb0.out Hb0.out.size hb1)
    clear hs hb1
    go_wp2
    go_ret
    exact ⟨ret_bool (by rw [Hs.out]), Hb1.out⟩

set_option maxHeartbeats 1000000 in
theorem impl_StoreUsed (f : Int) (l : List Bt) (v : Value) (fp : List Nat) (a : Int) (w : World) (hbig : l.length ≤ 1099511627776) (hl : Bts w l v fp) :
    Calls Try.prog 14 #[.agg #[.int .i64 f, v], .int .i64 a] w fun e w' => e = .returned (.int .i64 (uzZ f l a)) ∧ Below w.heap.size w w' := by
  obtain ⟨va, vc, rfl, _⟩ := hl.slice
  have hb0 : Below w.heap.size w (w.alloc (.cells #[.int .i64 f, .slice va l.length vc] 25)) := (Below.refl _ _).alloc (by first | exact Nat.le_refl _ | (simp only [World.size_alloc]; omega)) _
  have sX := Str.new w 25 #[.int .i64 f, .slice va l.length vc]
  have SX := Lib.hid sX
  have hz0 : w.heap.size + 1 = (w.alloc (.cells #[.int .i64 f, .slice va l.length vc] 25)).heap.size := by simp
  have Hz0 := Lib.hid hz0
  have Hl := Lib.hid (hl.under hb0)
  have Hb0 := Lib.hid hb0
  have Hlow := Lib.hid (show w.heap.size < (w.alloc (.cells #[.int .i64 f, .slice va l.length vc] 25)).heap.size by omega)
  have z0 := sX.cell 0 (v := .int .i64 f) rfl
  have z1 := sX.cell 1 (v := .slice va l.length vc) rfl
  clear hb0 hl hz0 sX
  go_enter Try.func14, Try.ntmps14
  go_wp2_with fail
  generalize (w.alloc (.cells #[.int .i64 f, .slice va l.length vc] 25)) = W0 at *
  refine (impl_linkedStoreOf f l _ fp W0 hbig Hl.out).mono ?_
  rintro e w1 ⟨hb1, ⟨hs, hi, P, ns, rfl, hls, hns⟩ | ⟨hs, rfl⟩⟩
  · have Hb1 := Lib.hid (below_step Hb0.out Hb0.out.size hb1)
    have Hls := Lib.hid hls; have Hns := Lib.hid hns; have Hs := Lib.hid hs
    have hl12 := (stB_P hs).2.1
    have hlb := bsL_len ns
    rw [hns] at hlb
    have Hsm := Lib.hid (show ns.length ≤ 1048576 by omega)
    have Hv := Lib.hid (show ∀ b ∈ bsL ns, btB b = true by rw [hns]; exact fun b hb => ((stB_P hs).2.2.2 b hb).1)
    clear hs hb1 hls hns hl12 hlb
    unfold ptV
    go_wp2_with fail
    refine (impl_isAuthor a w1).mono ?_
    rintro e w2 ⟨rfl, rfl⟩
    by_cases ha : 0 ≤ a ∧ a ≤ 6
    · rw [decide_eq_true ha]
      have Hu := Lib.hid (uz_of (f := f) (l := l) (a := a) Hs.out ha.1 ha.2)
      clear ha
      go_wp2_with fail
      refine (impl_used _ hi P f ns a w1 Hls.out Hsm.out Hv.out).mono ?_
      rintro e w3 ⟨rfl, hb3⟩
      have Hb3 := Lib.hid (below_step Hb1.out Hb1.out.size hb3)
      clear hb3
      rw [Hns.out]
      go_wp2
      go_ret
      exact ⟨by rw [Hu.out]; rfl, Hb3.out⟩
    · rw [decide_eq_false ha]
      have Hu := Lib.hid (show uzZ f l a = -1 by unfold uzZ; rw [if_neg (fun h => ha h.2)])
      clear ha
      go_wp2
      go_ret
      exact ⟨by rw [Hu.out]; rfl, Hb1.out⟩
  · have Hb1 := Lib.hid (below_step Hb0.out Hb0.out.size hb1)
    have Hu := Lib.hid (show uzZ f l a = -1 by unfold uzZ; rw [if_neg (fun h => by rw [hs] at h; cases h.1)])
    clear hs hb1
    go_wp2
    go_ret
    exact ⟨by rw [Hu.out]; rfl, Hb1.out⟩

set_option maxHeartbeats 1000000 in
theorem impl_StoreGet (f : Int) (l : List Bt) (v : Value) (fp : List Nat) (d : Int) (w : World) (hbig : l.length ≤ 1099511627776) (hl : Bts w l v fp) :
    Calls Try.prog 16 #[.agg #[.int .i64 f, v], .int .i64 d] w fun e w' => e = .returned (.tuple #[agB (geR f l d).1, .bool (geR f l d).2]) ∧ Below w.heap.size w w' := by
  obtain ⟨va, vc, rfl, _⟩ := hl.slice
  have hb0 : Below w.heap.size w ((w.alloc (.cells #[.int .i64 f, .slice va l.length vc] 25)).alloc (.cells #[.int .i64 0, .int .i64 0, .int .i64 0, .int .i64 0] 27)) := ((Below.refl _ _).alloc (by first | exact Nat.le_refl _ | (simp only [World.size_alloc]; omega)) _).alloc (by first | exact Nat.le_refl _ | (simp only [World.size_alloc]; omega)) _
  have sX := (Str.new w 25 #[.int .i64 f, .slice va l.length vc]).alloc (.cells #[.int .i64 0, .int .i64 0, .int .i64 0, .int .i64 0] 27)
  have SX := Lib.hid sX
  have sR := Str.new (w.alloc (.cells #[.int .i64 f, .slice va l.length vc] 25)) 27 #[.int .i64 0, .int .i64 0, .int .i64 0, .int .i64 0]
  simp only [World.size_alloc] at sR
  have SR := Lib.hid sR
  have hz0 : w.heap.size + 2 = ((w.alloc (.cells #[.int .i64 f, .slice va l.length vc] 25)).alloc (.cells #[.int .i64 0, .int .i64 0, .int .i64 0, .int .i64 0] 27)).heap.size := by simp
  have Hz0 := Lib.hid hz0
  have Hl := Lib.hid (hl.under hb0)
  have Hb0 := Lib.hid hb0
  have Hlow := Lib.hid (show w.heap.size < ((w.alloc (.cells #[.int .i64 f, .slice va l.length vc] 25)).alloc (.cells #[.int .i64 0, .int .i64 0, .int .i64 0, .int .i64 0] 27)).heap.size by omega)
  have z0 := sX.cell 0 (v := .int .i64 f) rfl
  have z1 := sX.cell 1 (v := .slice va l.length vc) rfl
  clear hb0 hl hz0 sX sR
  go_enter Try.func16, Try.ntmps16
  go_wp2_with fail
  generalize ((w.alloc (.cells #[.int .i64 f, .slice va l.length vc] 25)).alloc (.cells #[.int .i64 0, .int .i64 0, .int .i64 0, .int .i64 0] 27)) = W0 at *
  refine (impl_linkedStoreOf f l _ fp W0 hbig Hl.out).mono ?_
  rintro e w1 ⟨hb1, ⟨hs, hi, P, ns, rfl, hls, hns⟩ | ⟨hs, rfl⟩⟩
  · skip
    have SX := Lib.hid (show Str w1 (w.heap.size) 25 #[.int .i64 f, .slice va l.length vc] from (hb1.block _ SX.out.lt).trans SX.out)
    have SR := Lib.hid (show Str w1 (w.heap.size + 1) 27 #[.int .i64 0, .int .i64 0, .int .i64 0, .int .i64 0] from (hb1.block _ SR.out.lt).trans SR.out)
    have Hb1 := Lib.hid (below_step Hb0.out Hb0.out.size hb1)
    have hz1 := hb1.size
    have Hls := Lib.hid hls; have Hns := Lib.hid hns; have Hs := Lib.hid hs
    have Hg := Lib.hid (geR_eq (d := d) hs)
    have Hso := Lib.hid (show (bsL ns).Pairwise fun x y => x.d < y.d by rw [hns]; exact (stB_P hs).2.2.1)
    clear hs hb1 hls hns z0 z1
    unfold ptV
    go_wp2_with fail
    refine (impl_find _ hi P f ns d w1 Hls.out Hso.out).mono ?_
    rintro e w2 ⟨hf, hd2⟩
    rw [Hns.out] at hf
    have Hls2 := Lib.hid (Hls.out.under (hd2.below _))
    have SR := Lib.hid (show Str w2 (w.heap.size + 1) 27 #[.int .i64 0, .int .i64 0, .int .i64 0, .int .i64 0] from ((hd2.below w1.heap.size).block _ SR.out.lt).trans SR.out)
    have Hb2 := Lib.hid (below_step Hb1.out Hb1.out.size (hd2.below _))
    clear hd2
    cases hg : geF l d with
    | none =>
      rw [hg] at hf Hg
      have hf' : e = .returned (.pointer none) := hf
      subst hf'
      clear hf hg
      have f0 := SR.out.frozen 0
      have f1 := SR.out.frozen 1
      have f2 := SR.out.frozen 2
      have f3 := SR.out.frozen 3
      have k0 := SR.out.cell 0 (v := .int .i64 0) rfl
      have k1 := SR.out.cell 1 (v := .int .i64 0) rfl
      have k2 := SR.out.cell 2 (v := .int .i64 0) rfl
      have k3 := SR.out.cell 3 (v := .int .i64 0) rfl
      have sF := ((((SR.out.set 0 (.int .i64 (0))).set 1 (.int .i64 (0))).set 2 (.int .i64 (0))).set 3 (.int .i64 (0)))
      have e0 := sF.cell 0 (v := .int .i64 (0)) rfl
      have e1 := sF.cell 1 (v := .int .i64 (0)) rfl
      have e2 := sF.cell 2 (v := .int .i64 (0)) rfl
      have e3 := sF.cell 3 (v := .int .i64 (0)) rfl
      clear sF
      have HbF := Lib.hid ((((Hb2.out.setCell (p := ⟨w.heap.size + 1, 0, none⟩) (Nat.le_succ _) (.int .i64 (0))).setCell (p := ⟨w.heap.size + 1, 1, none⟩) (Nat.le_succ _) (.int .i64 (0))).setCell (p := ⟨w.heap.size + 1, 2, none⟩) (Nat.le_succ _) (.int .i64 (0))).setCell (p := ⟨w.heap.size + 1, 3, none⟩) (Nat.le_succ _) (.int .i64 (0)))
      go_wp2
      refine bodyPost_ret (v := .tuple #[.agg #[.int .i64 (0), .int .i64 (0), .int .i64 (0), .int .i64 (0)], .bool false]) (by simp [results, Try.f16, go_sem, e0, e1, e2, e3]) rfl ?_
      exact ⟨by rw [Hg.out]; rfl, HbF.out⟩
    | some b =>
      rw [hg] at hf Hg
      obtain ⟨k, q, rfl, hk⟩ := hf
      have Hnd := Lib.hid (Hls2.out.node hk)
      have Hq := Lib.hid (Hls2.out.inn k q b hk)
      obtain ⟨d0, d1, d2, d3, _, _⟩ := Hls2.out.node hk
      clear hk hg
      unfold ptV
      have f0 := SR.out.frozen 0
      have f1 := SR.out.frozen 1
      have f2 := SR.out.frozen 2
      have f3 := SR.out.frozen 3
      have k0 := SR.out.cell 0 (v := .int .i64 0) rfl
      have k1 := SR.out.cell 1 (v := .int .i64 0) rfl
      have k2 := SR.out.cell 2 (v := .int .i64 0) rfl
      have k3 := SR.out.cell 3 (v := .int .i64 0) rfl
      have sF := ((((SR.out.set 0 (.int .i64 (b.d))).set 1 (.int .i64 (b.a))).set 2 (.int .i64 (b.r))).set 3 (.int .i64 (b.s)))
      have e0 := sF.cell 0 (v := .int .i64 (b.d)) rfl
      have e1 := sF.cell 1 (v := .int .i64 (b.a)) rfl
      have e2 := sF.cell 2 (v := .int .i64 (b.r)) rfl
      have e3 := sF.cell 3 (v := .int .i64 (b.s)) rfl
      clear sF
      have HbF := Lib.hid ((((Hb2.out.setCell (p := ⟨w.heap.size + 1, 0, none⟩) (Nat.le_succ _) (.int .i64 (b.d))).setCell (p := ⟨w.heap.size + 1, 1, none⟩) (Nat.le_succ _) (.int .i64 (b.a))).setCell (p := ⟨w.heap.size + 1, 2, none⟩) (Nat.le_succ _) (.int .i64 (b.r))).setCell (p := ⟨w.heap.size + 1, 3, none⟩) (Nat.le_succ _) (.int .i64 (b.s)))
      go_wp2
      refine bodyPost_ret (v := .tuple #[.agg #[.int .i64 (b.d), .int .i64 (b.a), .int .i64 (b.r), .int .i64 (b.s)], .bool true]) (by simp [results, Try.f16, go_sem, e0, e1, e2, e3]) rfl ?_
      exact ⟨by rw [Hg.out]; rfl, HbF.out⟩
  · have Hg := Lib.hid (geR_no (d := d) hs)
    have SX := Lib.hid (show Str w1 (w.heap.size) 25 #[.int .i64 f, .slice va l.length vc] from (hb1.block _ SX.out.lt).trans SX.out)
    have SR := Lib.hid (show Str w1 (w.heap.size + 1) 27 #[.int .i64 0, .int .i64 0, .int .i64 0, .int .i64 0] from (hb1.block _ SR.out.lt).trans SR.out)
    have Hb1 := Lib.hid (below_step Hb0.out Hb0.out.size hb1)
    have hz1 := hb1.size
    clear hs hb1 z0 z1
    have f0 := SR.out.frozen 0
    have f1 := SR.out.frozen 1
    have f2 := SR.out.frozen 2
    have f3 := SR.out.frozen 3
    have k0 := SR.out.cell 0 (v := .int .i64 0) rfl
    have k1 := SR.out.cell 1 (v := .int .i64 0) rfl
    have k2 := SR.out.cell 2 (v := .int .i64 0) rfl
    have k3 := SR.out.cell 3 (v := .int .i64 0) rfl
    have sF := ((((SR.out.set 0 (.int .i64 (0))).set 1 (.int .i64 (0))).set 2 (.int .i64 (0))).set 3 (.int .i64 (0)))
    have e0 := sF.cell 0 (v := .int .i64 (0)) rfl
    have e1 := sF.cell 1 (v := .int .i64 (0)) rfl
    have e2 := sF.cell 2 (v := .int .i64 (0)) rfl
    have e3 := sF.cell 3 (v := .int .i64 (0)) rfl
    clear sF
    have HbF := Lib.hid ((((Hb1.out.setCell (p := ⟨w.heap.size + 1, 0, none⟩) (Nat.le_succ _) (.int .i64 (0))).setCell (p := ⟨w.heap.size + 1, 1, none⟩) (Nat.le_succ _) (.int .i64 (0))).setCell (p := ⟨w.heap.size + 1, 2, none⟩) (Nat.le_succ _) (.int .i64 (0))).setCell (p := ⟨w.heap.size + 1, 3, none⟩) (Nat.le_succ _) (.int .i64 (0)))
    go_wp2
    refine bodyPost_ret (v := .tuple #[.agg #[.int .i64 (0), .int .i64 (0), .int .i64 (0), .int .i64 (0)], .bool false]) (by simp [results, Try.f16, go_sem, e0, e1, e2, e3]) rfl ?_
    exact ⟨by rw [Hg.out]; rfl, HbF.out⟩

/-- What StorePut answers. -/
def PuP (E : TypeId) (f : Int) (l : List Bt) (b : Bt) (w : World) (e : Ending) (w' : World) : Prop := ∃ v, e = .returned (.tuple #[.agg #[.int .i64 (puF f l b), v], .int .i64 (puC f l b)]) ∧ OwnN E 4 w' w.heap.size v ((puL f l b).map btN) ∧ Below w.heap.size w w'
theorem PuP.mk {E : TypeId} {f : Int} {l : List Bt} {b : Bt} {w w' : World} {e : Ending} (f' : Int) (l' : List Bt) (c : Int) (v : Value) (h : e = .returned (.tuple #[.agg #[.int .i64 f', v], .int .i64 c])) (h1 : puF f l b = f') (h2 : puL f l b = l') (h3 : puC f l b = c) (ho : OwnN E 4 w' w.heap.size v (l'.map btN)) (hb : Below w.heap.size w w') : PuP E f l b w e w' := ⟨v, by rw [h, h1, h3], by rw [h2]; exact ho, hb⟩
/-- What StoreForget answers. -/
def FoP (E : TypeId) (f : Int) (l : List Bt) (x : Int) (w : World) (e : Ending) (w' : World) : Prop := ∃ v, e = .returned (.tuple #[.agg #[.int .i64 (foF f l x), v], .bool (foB f l x)]) ∧ OwnN E 4 w' w.heap.size v ((foL f l x).map btN) ∧ Below w.heap.size w w'
theorem FoP.mk {E : TypeId} {f : Int} {l : List Bt} {x : Int} {w w' : World} {e : Ending} (f' : Int) (l' : List Bt) (c : Bool) (v : Value) (h : e = .returned (.tuple #[.agg #[.int .i64 f', v], .bool c])) (h1 : foF f l x = f') (h2 : foL f l x = l') (h3 : foB f l x = c) (ho : OwnN E 4 w' w.heap.size v (l'.map btN)) (hb : Below w.heap.size w w') : FoP E f l x w e w' := ⟨v, by rw [h, h1, h3], by rw [h2]; exact ho, hb⟩
theorem OwnN.none0 (E : TypeId) (w : World) (B : Nat) : OwnN E 4 w B (.slice none 0 0) (([] : List Bt).map btN) := ⟨by simp, World.ownsRow_nil _ _ _ _⟩
set_option maxHeartbeats 1000000 in
theorem impl_StorePut (f : Int) (l : List Bt) (v : Value) (fp : List Nat) (b : Bt) (w : World) (hbig : l.length ≤ 1099511627776) (hl : Bts w l v fp) :
    Calls Try.prog 11 #[.agg #[.int .i64 f, v], agB b] w (PuP 27 f l b w) := by
  obtain ⟨va, vc, rfl, _⟩ := hl.slice
  unfold agB
  have hb0 : Below w.heap.size w (((w.alloc (.cells #[.int .i64 f, .slice va l.length vc] 25)).alloc (.cells #[.int .i64 b.d, .int .i64 b.a, .int .i64 b.r, .int .i64 b.s] 27)).alloc (.cells #[.int .i64 0, .slice none 0 0] 25)) := (((Below.refl _ _).alloc (by first | exact Nat.le_refl _ | (simp only [World.size_alloc]; omega)) _).alloc (by first | exact Nat.le_refl _ | (simp only [World.size_alloc]; omega)) _).alloc (by first | exact Nat.le_refl _ | (simp only [World.size_alloc]; omega)) _
  have sX := ((Str.new w 25 #[.int .i64 f, .slice va l.length vc]).alloc (.cells #[.int .i64 b.d, .int .i64 b.a, .int .i64 b.r, .int .i64 b.s] 27)).alloc (.cells #[.int .i64 0, .slice none 0 0] 25)
  have SX := Lib.hid sX
  have sB := (Str.new (w.alloc (.cells #[.int .i64 f, .slice va l.length vc] 25)) 27 #[.int .i64 b.d, .int .i64 b.a, .int .i64 b.r, .int .i64 b.s]).alloc (.cells #[.int .i64 0, .slice none 0 0] 25)
  simp only [World.size_alloc] at sB
  have SB := Lib.hid sB
  have sR := Str.new ((w.alloc (.cells #[.int .i64 f, .slice va l.length vc] 25)).alloc (.cells #[.int .i64 b.d, .int .i64 b.a, .int .i64 b.r, .int .i64 b.s] 27)) 25 #[.int .i64 0, .slice none 0 0]
  simp only [World.size_alloc] at sR
  have SR := Lib.hid sR
  have hz0 : w.heap.size + 3 = (((w.alloc (.cells #[.int .i64 f, .slice va l.length vc] 25)).alloc (.cells #[.int .i64 b.d, .int .i64 b.a, .int .i64 b.r, .int .i64 b.s] 27)).alloc (.cells #[.int .i64 0, .slice none 0 0] 25)).heap.size := by simp
  have Hz0 := Lib.hid hz0
  have Hl := Lib.hid (hl.under hb0)
  have Hb0 := Lib.hid hb0
  have Hlow := Lib.hid (show w.heap.size < (((w.alloc (.cells #[.int .i64 f, .slice va l.length vc] 25)).alloc (.cells #[.int .i64 b.d, .int .i64 b.a, .int .i64 b.r, .int .i64 b.s] 27)).alloc (.cells #[.int .i64 0, .slice none 0 0] 25)).heap.size by omega)
  have z0 := sX.cell 0 (v := .int .i64 f) rfl
  have z1 := sX.cell 1 (v := .slice va l.length vc) rfl
  clear hb0 hl hz0 sX sB sR
  have b0 := SB.out.cell 0 (v := .int .i64 b.d) rfl
  have b1 := SB.out.cell 1 (v := .int .i64 b.a) rfl
  have b2 := SB.out.cell 2 (v := .int .i64 b.r) rfl
  have b3 := SB.out.cell 3 (v := .int .i64 b.s) rfl
  go_enter Try.func11, Try.ntmps11
  go_wp2_with fail
  generalize (((w.alloc (.cells #[.int .i64 f, .slice va l.length vc] 25)).alloc (.cells #[.int .i64 b.d, .int .i64 b.a, .int .i64 b.r, .int .i64 b.s] 27)).alloc (.cells #[.int .i64 0, .slice none 0 0] 25)) = W0 at *
  refine (impl_linkedStoreOf f l _ fp W0 hbig Hl.out).mono ?_
  clear b0 b1 b2 b3
  rintro e w1 ⟨hb1, ⟨hs, hi, P, ns, rfl, hls, hns⟩ | ⟨hs, rfl⟩⟩
  · skip
    have SX := Lib.hid (show Str w1 (w.heap.size) 25 #[.int .i64 f, .slice va l.length vc] from (hb1.block _ SX.out.lt).trans SX.out)
    have SB := Lib.hid (show Str w1 (w.heap.size + 1) 27 #[.int .i64 b.d, .int .i64 b.a, .int .i64 b.r, .int .i64 b.s] from (hb1.block _ SB.out.lt).trans SB.out)
    have SR := Lib.hid (show Str w1 (w.heap.size + 1 + 1) 25 #[.int .i64 0, .slice none 0 0] from (hb1.block _ SR.out.lt).trans SR.out)
    have Hb1 := Lib.hid (below_step Hb0.out Hb0.out.size hb1)
    have hz1 := hb1.size
    have Hls := Lib.hid hls; have Hns := Lib.hid hns; have Hs := Lib.hid hs
    have Hcode := Lib.hid (pu_pc (b := b) hs)
    have Hst := Lib.hid (show stB f (bsL ns) = true by rw [hns]; exact hs)
    have b0 := SB.out.cell 0 (v := .int .i64 b.d) rfl
    have b1 := SB.out.cell 1 (v := .int .i64 b.a) rfl
    have b2 := SB.out.cell 2 (v := .int .i64 b.r) rfl
    have b3 := SB.out.cell 3 (v := .int .i64 b.s) rfl
    have Hlt := Lib.hid (show w.heap.size + 1 + 1 < W0.heap.size by have := Hz0.out; omega)
    clear hs hb1 hls hns z0 z1
    unfold ptV
    go_wp2_with fail
    refine (impl_put _ hi P f ns b w1 Hls.out Hst.out).mono ?_
    rintro e w2 ⟨rfl, hi2, ns2, hls2, hns2, hb2, _⟩
    rw [Hns.out, ← Hcode.out] at hns2
    rw [Hns.out, ← Hcode.out]
    have SR := Lib.hid (show Str w2 (w.heap.size + 1 + 1) 25 #[.int .i64 0, .slice none 0 0] from (hb2.block _ Hlt.out).trans SR.out)
    have Hb2 := Lib.hid (Hb1.out.trans (hb2.mono (by have := Hlt.out; omega)))
    have Hls2 := Lib.hid hls2; have Hns2 := Lib.hid hns2
    have hz2 := hls2.loP; have hz3 := hls2.ltP; have hz4 := hls2.le
    have hz5 := Hlt.out
    clear b0 b1 b2 b3 hb2 hls2 hns2
    obtain ⟨pc, hpc⟩ : ∃ pc, pc = puC f l b := ⟨_, rfl⟩
    rw [← hpc]
    rw [← hpc] at Hns2
    by_cases h4 : pc = 4
    · have h4' : (pc == 4) = true := by rw [beq_iff_eq]; exact h4
      have Hc := Lib.hid (show puC f l b = 4 ∧ puL f l b = [] ∧ puF f l b = 0 from ⟨by rw [← hpc]; exact h4, puL_bad (by rw [← hpc]; exact h4)⟩)
      clear hpc h4 Hcode
      have f0 := SR.out.frozen 0
      have f1 := SR.out.frozen 1
      have k0 := SR.out.cell 0 (v := .int .i64 0) rfl
      have k1 := SR.out.cell 1 (v := .slice none 0 0) rfl
      have sF := (SR.out.set 0 (.int .i64 (0))).set 1 (.slice none 0 0)
      have e0 := sF.cell 0 (v := .int .i64 (0)) rfl
      have e1 := sF.cell 1 (v := .slice none 0 0) rfl
      clear sF
      have HbF := Lib.hid ((Hb2.out.setCell (p := ⟨w.heap.size + 1 + 1, 0, none⟩) (by simp only; omega) (.int .i64 (0))).setCell (p := ⟨w.heap.size + 1 + 1, 1, none⟩) (by simp only; omega) (.slice none 0 0))
      go_wp2
      refine bodyPost_ret (v := .tuple #[.agg #[.int .i64 (0), .slice none 0 0], .int .i64 4]) (by simp [results, Try.f11, go_sem, e0, e1]) rfl ?_
      exact PuP.mk 0 [] 4 (.slice none 0 0) rfl Hc.out.2.2 Hc.out.2.1 Hc.out.1 (OwnN.none0 _ _ _) HbF.out
    · have h4' : (pc == 4) = false := by rw [beq_eq_false_iff_ne]; exact h4
      have Hc := Lib.hid (show puC f l b = pc ∧ puL f l b = bsL ns2 ∧ puF f l b = f from by
        by_cases h0 : pc = 0
        · obtain ⟨p1, p2⟩ := puL_zero (f := f) (l := l) (b := b) (by rw [← hpc]; exact h0)
          exact ⟨hpc.symm, by rw [p1, Hns2.out, if_pos h0], p2⟩
        · obtain ⟨p1, p2⟩ := puL_other (f := f) (l := l) (b := b) (by rw [← hpc]; exact h0) (by rw [← hpc]; exact h4)
          exact ⟨hpc.symm, by rw [p1, Hns2.out, if_neg h0], p2⟩)
      have hlen := puL_len f l b
      rw [Hc.out.2.1, bsL_len] at hlen
      have Hsm := Lib.hid (show ns2.length ≤ 1048576 by omega)
      clear hpc h4 Hcode hlen
      go_wp2_with fail
      refine (impl_store _ hi2 P f ns2 w2 Hls2.out Hsm.out).mono ?_
      rintro e w3 ⟨v, rfl, hown, hb3⟩
      have SR := Lib.hid (show Str w3 (w.heap.size + 1 + 1) 25 #[.int .i64 0, .slice none 0 0] from (hb3.block _ SR.out.lt).trans SR.out)
      have Hb3 := Lib.hid (below_step Hb2.out Hb2.out.size hb3)
      obtain ⟨av, cv, rfl, _⟩ := hown.slice
      obtain ⟨nn, hnn⟩ : ∃ nn, nn = ((bsL ns2).map btN).length := ⟨_, rfl⟩
      rw [← hnn] at hown
      rw [← hnn]
      have Ho := Lib.hid hown
      clear hnn hown hb3
      have f0 := SR.out.frozen 0
      have f1 := SR.out.frozen 1
      have k0 := SR.out.cell 0 (v := .int .i64 0) rfl
      have k1 := SR.out.cell 1 (v := .slice none 0 0) rfl
      have sF := (SR.out.set 0 (.int .i64 (f))).set 1 (.slice av nn cv)
      have e0 := sF.cell 0 (v := .int .i64 (f)) rfl
      have e1 := sF.cell 1 (v := .slice av nn cv) rfl
      clear sF
      have HbF := Lib.hid ((Hb3.out.setCell (p := ⟨w.heap.size + 1 + 1, 0, none⟩) (by simp only; omega) (.int .i64 (f))).setCell (p := ⟨w.heap.size + 1 + 1, 1, none⟩) (by simp only; omega) (.slice av nn cv))
      have hne : ∀ g, (Value.slice av nn cv).ownBlock = some g → g ≠ w.heap.size + 1 + 1 := fun g e => by have := (Ho.out.lt g e).1; omega
      have HoF := Lib.hid (((Ho.out.kept (grownBy_set w3 (w.heap.size + 1 + 1) 0 (.int .i64 f)) (fun g e e2 => hne g e (by injection e2 with e2; exact e2.symm))).kept (grownBy_set _ (w.heap.size + 1 + 1) 1 (.slice av nn cv)) (fun g e e2 => hne g e (by injection e2 with e2; exact e2.symm))).mono (B' := w.heap.size) (by omega))
      clear hne
      go_wp2
      refine bodyPost_ret (v := .tuple #[.agg #[.int .i64 (f), .slice av nn cv], .int .i64 pc]) (by simp [results, Try.f11, go_sem, e0, e1]) rfl ?_
      exact PuP.mk f (bsL ns2) pc _ rfl Hc.out.2.2 Hc.out.2.1 Hc.out.1 HoF.out HbF.out
  · have Hc := Lib.hid (show puC f l b = 4 ∧ puL f l b = [] ∧ puF f l b = 0 from by have h4 : puC f l b = 4 := pu_four.2 (fun h => by rw [hs] at h; cases h.1); exact ⟨h4, puL_bad h4⟩)
    have SX := Lib.hid (show Str w1 (w.heap.size) 25 #[.int .i64 f, .slice va l.length vc] from (hb1.block _ SX.out.lt).trans SX.out)
    have SB := Lib.hid (show Str w1 (w.heap.size + 1) 27 #[.int .i64 b.d, .int .i64 b.a, .int .i64 b.r, .int .i64 b.s] from (hb1.block _ SB.out.lt).trans SB.out)
    have SR := Lib.hid (show Str w1 (w.heap.size + 1 + 1) 25 #[.int .i64 0, .slice none 0 0] from (hb1.block _ SR.out.lt).trans SR.out)
    have Hb1 := Lib.hid (below_step Hb0.out Hb0.out.size hb1)
    have hz1 := hb1.size
    clear hs hb1 z0 z1
    have f0 := SR.out.frozen 0
    have f1 := SR.out.frozen 1
    have k0 := SR.out.cell 0 (v := .int .i64 0) rfl
    have k1 := SR.out.cell 1 (v := .slice none 0 0) rfl
    have sF := (SR.out.set 0 (.int .i64 (0))).set 1 (.slice none 0 0)
    have e0 := sF.cell 0 (v := .int .i64 (0)) rfl
    have e1 := sF.cell 1 (v := .slice none 0 0) rfl
    clear sF
    have HbF := Lib.hid ((Hb1.out.setCell (p := ⟨w.heap.size + 1 + 1, 0, none⟩) (by simp only; omega) (.int .i64 (0))).setCell (p := ⟨w.heap.size + 1 + 1, 1, none⟩) (by simp only; omega) (.slice none 0 0))
    go_wp2
    refine bodyPost_ret (v := .tuple #[.agg #[.int .i64 (0), .slice none 0 0], .int .i64 4]) (by simp [results, Try.f11, go_sem, e0, e1]) rfl ?_
    exact PuP.mk 0 [] 4 (.slice none 0 0) rfl Hc.out.2.2 Hc.out.2.1 Hc.out.1 (OwnN.none0 _ _ _) HbF.out

set_option maxHeartbeats 1000000 in
theorem impl_StoreForget (f : Int) (l : List Bt) (v : Value) (fp : List Nat) (x : Int) (w : World) (hbig : l.length ≤ 1099511627776) (hl : Bts w l v fp) :
    Calls Try.prog 29 #[.agg #[.int .i64 f, v], .int .i64 x] w (FoP 27 f l x w) := by
  obtain ⟨va, vc, rfl, _⟩ := hl.slice
  have hb0 : Below w.heap.size w ((w.alloc (.cells #[.int .i64 f, .slice va l.length vc] 25)).alloc (.cells #[.int .i64 0, .slice none 0 0] 25)) := ((Below.refl _ _).alloc (by first | exact Nat.le_refl _ | (simp only [World.size_alloc]; omega)) _).alloc (by first | exact Nat.le_refl _ | (simp only [World.size_alloc]; omega)) _
  have sX := (Str.new w 25 #[.int .i64 f, .slice va l.length vc]).alloc (.cells #[.int .i64 0, .slice none 0 0] 25)
  have SX := Lib.hid sX
  have sR := Str.new (w.alloc (.cells #[.int .i64 f, .slice va l.length vc] 25)) 25 #[.int .i64 0, .slice none 0 0]
  simp only [World.size_alloc] at sR
  have SR := Lib.hid sR
  have hz0 : w.heap.size + 2 = ((w.alloc (.cells #[.int .i64 f, .slice va l.length vc] 25)).alloc (.cells #[.int .i64 0, .slice none 0 0] 25)).heap.size := by simp
  have Hz0 := Lib.hid hz0
  have Hl := Lib.hid (hl.under hb0)
  have Hb0 := Lib.hid hb0
  have Hlow := Lib.hid (show w.heap.size < ((w.alloc (.cells #[.int .i64 f, .slice va l.length vc] 25)).alloc (.cells #[.int .i64 0, .slice none 0 0] 25)).heap.size by omega)
  have z0 := sX.cell 0 (v := .int .i64 f) rfl
  have z1 := sX.cell 1 (v := .slice va l.length vc) rfl
  clear hb0 hl hz0 sX sR
  go_enter Try.func29, Try.ntmps29
  go_wp2_with fail
  generalize ((w.alloc (.cells #[.int .i64 f, .slice va l.length vc] 25)).alloc (.cells #[.int .i64 0, .slice none 0 0] 25)) = W0 at *
  refine (impl_linkedStoreOf f l _ fp W0 hbig Hl.out).mono ?_
  rintro e w1 ⟨hb1, ⟨hs, hi, P, ns, rfl, hls, hns⟩ | ⟨hs, rfl⟩⟩
  · skip
    have SX := Lib.hid (show Str w1 (w.heap.size) 25 #[.int .i64 f, .slice va l.length vc] from (hb1.block _ SX.out.lt).trans SX.out)
    have SR := Lib.hid (show Str w1 (w.heap.size + 1) 25 #[.int .i64 0, .slice none 0 0] from (hb1.block _ SR.out.lt).trans SR.out)
    have Hb1 := Lib.hid (below_step Hb0.out Hb0.out.size hb1)
    have hz1 := hb1.size
    have Hls := Lib.hid hls; have Hns := Lib.hid hns; have Hs := Lib.hid hs
    have hl12 := (stB_P hs).2.1
    have hfb := (stB_P hs).1
    have hlb := bsL_len ns
    rw [hns] at hlb
    have Hsm := Lib.hid (show ns.length ≤ 1048576 by omega)
    have z0 := SX.out.cell 0 (v := .int .i64 f) rfl
    have Hlt := Lib.hid (show w.heap.size + 1 < W0.heap.size by have := Hz0.out; omega)
    clear hs hb1 hls hns z1 hl12 hlb
    unfold ptV
    go_wp2_with fail
    refine (impl_isFloor x w1).mono ?_
    rintro e w2 ⟨rfl, rfl⟩
    by_cases hx : 0 ≤ x ∧ x ≤ 31
    case neg =>
      rw [decide_eq_false hx]
      have Hc := Lib.hid (show foB f l x = false ∧ foL f l x = [] ∧ foF f l x = 0 from by have h4 : foB f l x = false := (by cases e : foB f l x with | false => rfl | true => exact absurd (foB_iff.1 e) (by rintro ⟨h1, h2, h3⟩; omega)); exact ⟨h4, fo_no h4⟩)
      clear hx hfb
      have f0 := SR.out.frozen 0
      have f1 := SR.out.frozen 1
      have k0 := SR.out.cell 0 (v := .int .i64 0) rfl
      have k1 := SR.out.cell 1 (v := .slice none 0 0) rfl
      have sF := (SR.out.set 0 (.int .i64 (0))).set 1 (.slice none 0 0)
      have e0 := sF.cell 0 (v := .int .i64 (0)) rfl
      have e1 := sF.cell 1 (v := .slice none 0 0) rfl
      clear sF
      have HbF := Lib.hid ((Hb1.out.setCell (p := ⟨w.heap.size + 1, 0, none⟩) (by simp only; omega) (.int .i64 (0))).setCell (p := ⟨w.heap.size + 1, 1, none⟩) (by simp only; omega) (.slice none 0 0))
      go_wp2
      refine bodyPost_ret (v := .tuple #[.agg #[.int .i64 (0), .slice none 0 0], .bool false]) (by simp [results, Try.f29, go_sem, e0, e1]) rfl ?_
      exact FoP.mk 0 [] false (.slice none 0 0) rfl Hc.out.2.2 Hc.out.2.1 Hc.out.1 (OwnN.none0 _ _ _) HbF.out
    rw [decide_eq_true hx]
    by_cases hlo : x < f
    case pos =>
      have hlo' : decide (x < f) = true := decide_eq_true hlo
      have Hc := Lib.hid (show foB f l x = false ∧ foL f l x = [] ∧ foF f l x = 0 from by have h4 : foB f l x = false := (by cases e : foB f l x with | false => rfl | true => exact absurd (foB_iff.1 e) (by rintro ⟨h1, h2, h3⟩; omega)); exact ⟨h4, fo_no h4⟩)
      clear hx hfb
      have f0 := SR.out.frozen 0
      have f1 := SR.out.frozen 1
      have k0 := SR.out.cell 0 (v := .int .i64 0) rfl
      have k1 := SR.out.cell 1 (v := .slice none 0 0) rfl
      have sF := (SR.out.set 0 (.int .i64 (0))).set 1 (.slice none 0 0)
      have e0 := sF.cell 0 (v := .int .i64 (0)) rfl
      have e1 := sF.cell 1 (v := .slice none 0 0) rfl
      clear sF
      have HbF := Lib.hid ((Hb1.out.setCell (p := ⟨w.heap.size + 1, 0, none⟩) (by simp only; omega) (.int .i64 (0))).setCell (p := ⟨w.heap.size + 1, 1, none⟩) (by simp only; omega) (.slice none 0 0))
      go_wp2
      refine bodyPost_ret (v := .tuple #[.agg #[.int .i64 (0), .slice none 0 0], .bool false]) (by simp [results, Try.f29, go_sem, e0, e1]) rfl ?_
      exact FoP.mk 0 [] false (.slice none 0 0) rfl Hc.out.2.2 Hc.out.2.1 Hc.out.1 (OwnN.none0 _ _ _) HbF.out
    have hlo' : decide (x < f) = false := decide_eq_false hlo
    have hfo : foB f l x = true := foB_iff.2 ⟨Hs.out, by omega, by omega⟩
    have Hc := Lib.hid (show foB f l x = true ∧ foL f l x = fgL l x ∧ foF f l x = x from ⟨hfo, fo_yes hfo⟩)
    clear hx hfb hfo
    go_wp2_with fail
    refine (impl_forget _ hi P f ns x w1 Hls.out).mono ?_
    rintro e w2 ⟨rfl, ns2, hls2, hlen2, hns2, hb2⟩
    rw [Hns.out] at hns2
    have SR := Lib.hid (show Str w2 (w.heap.size + 1) 25 #[.int .i64 0, .slice none 0 0] from (hb2.block _ Hlt.out).trans SR.out)
    have Hb2 := Lib.hid (Hb1.out.trans (hb2.mono (by have := Hlt.out; omega)))
    have Hls2 := Lib.hid hls2; have Hns2 := Lib.hid hns2
    have hz2 := hls2.loP; have hz3 := hls2.ltP; have hz4 := hls2.le
    have hz5 := Hlt.out
    have Hsm2 := Lib.hid (Nat.le_trans hlen2 Hsm.out)
    clear hb2 hls2 hns2 hlen2 z0 hlo
    go_wp2_with fail
    refine (impl_store _ hi P x ns2 w2 Hls2.out Hsm2.out).mono ?_
    rintro e w3 ⟨v, rfl, hown, hb3⟩
    rw [Hns2.out] at hown
    have SR := Lib.hid (show Str w3 (w.heap.size + 1) 25 #[.int .i64 0, .slice none 0 0] from (hb3.block _ SR.out.lt).trans SR.out)
    have Hb3 := Lib.hid (below_step Hb2.out Hb2.out.size hb3)
    obtain ⟨av, cv, rfl, _⟩ := hown.slice
    obtain ⟨nn, hnn⟩ : ∃ nn, nn = ((fgL l x).map btN).length := ⟨_, rfl⟩
    rw [← hnn] at hown
    rw [← hnn]
    have Ho := Lib.hid hown
    clear hnn hown hb3
    have f0 := SR.out.frozen 0
    have f1 := SR.out.frozen 1
    have k0 := SR.out.cell 0 (v := .int .i64 0) rfl
    have k1 := SR.out.cell 1 (v := .slice none 0 0) rfl
    have sF := (SR.out.set 0 (.int .i64 (x))).set 1 (.slice av nn cv)
    have e0 := sF.cell 0 (v := .int .i64 (x)) rfl
    have e1 := sF.cell 1 (v := .slice av nn cv) rfl
    clear sF
    have HbF := Lib.hid ((Hb3.out.setCell (p := ⟨w.heap.size + 1, 0, none⟩) (by simp only; omega) (.int .i64 (x))).setCell (p := ⟨w.heap.size + 1, 1, none⟩) (by simp only; omega) (.slice av nn cv))
    have hne : ∀ g, (Value.slice av nn cv).ownBlock = some g → g ≠ w.heap.size + 1 := fun g e => by have := (Ho.out.lt g e).1; omega
    have HoF := Lib.hid (((Ho.out.kept (grownBy_set w3 (w.heap.size + 1) 0 (.int .i64 x)) (fun g e e2 => hne g e (by injection e2 with e2; exact e2.symm))).kept (grownBy_set _ (w.heap.size + 1) 1 (.slice av nn cv)) (fun g e e2 => hne g e (by injection e2 with e2; exact e2.symm))).mono (B' := w.heap.size) (by omega))
    clear hne
    go_wp2
    refine bodyPost_ret (v := .tuple #[.agg #[.int .i64 (x), .slice av nn cv], .bool true]) (by simp [results, Try.f29, go_sem, e0, e1]) rfl ?_
    exact FoP.mk x (fgL l x) true _ rfl Hc.out.2.2 Hc.out.2.1 Hc.out.1 HoF.out HbF.out
  · skip
    have Hc := Lib.hid (show foB f l x = false ∧ foL f l x = [] ∧ foF f l x = 0 from by have h4 : foB f l x = false := (by cases e : foB f l x with | false => rfl | true => exact absurd (foB_iff.1 e) (by rintro ⟨h1, h2, h3⟩; rw [hs] at h1; cases h1)); exact ⟨h4, fo_no h4⟩)
    have SX := Lib.hid (show Str w1 (w.heap.size) 25 #[.int .i64 f, .slice va l.length vc] from (hb1.block _ SX.out.lt).trans SX.out)
    have SR := Lib.hid (show Str w1 (w.heap.size + 1) 25 #[.int .i64 0, .slice none 0 0] from (hb1.block _ SR.out.lt).trans SR.out)
    have Hb1 := Lib.hid (below_step Hb0.out Hb0.out.size hb1)
    have hz1 := hb1.size
    clear hs hb1 z0 z1
    have f0 := SR.out.frozen 0
    have f1 := SR.out.frozen 1
    have k0 := SR.out.cell 0 (v := .int .i64 0) rfl
    have k1 := SR.out.cell 1 (v := .slice none 0 0) rfl
    have sF := (SR.out.set 0 (.int .i64 (0))).set 1 (.slice none 0 0)
    have e0 := sF.cell 0 (v := .int .i64 (0)) rfl
    have e1 := sF.cell 1 (v := .slice none 0 0) rfl
    clear sF
    have HbF := Lib.hid ((Hb1.out.setCell (p := ⟨w.heap.size + 1, 0, none⟩) (by simp only; omega) (.int .i64 (0))).setCell (p := ⟨w.heap.size + 1, 1, none⟩) (by simp only; omega) (.slice none 0 0))
    go_wp2
    refine bodyPost_ret (v := .tuple #[.agg #[.int .i64 (0), .slice none 0 0], .bool false]) (by simp [results, Try.f29, go_sem, e0, e1]) rfl ?_
    exact FoP.mk 0 [] false (.slice none 0 0) rfl Hc.out.2.2 Hc.out.2.1 Hc.out.1 (OwnN.none0 _ _ _) HbF.out

end Go.Proofs.Ythojbcecbeapgab

/- A region that draws its order and keeps a condition up to its last operation: either of two operations may come up next. A general step; nothing here speaks of the program. -/
namespace Go.Proofs.Ythojbcecbeapgab
open Go.RowKit
section
variable {P : Program} {md : Region.Mode} {l : List Oper} {Q : Exit → Act → World → Prop} {S : World → Prop} {oi oj : Oper} {rest rest' : List Oper} {fuel m : Nat} {listed : Array Bool} {a : Act} {w : World}
/-- Number i or number j may come up, neither is the last. -/
theorem twoL (i j : Nat) (hi : l.drop i = oi :: rest) (hj : l.drop j = oj :: rest') (hr : Region.ready md l.toArray listed = [i, j]) (hw : Region.wanted oi (yielded l.toArray a.tmps) = true) (hw' : Region.wanted oj (yielded l.toArray a.tmps) = true)
    (h : ∀ K' : Act → World → Prop, Shut (∀ a w, S w → (S w → wpAnyL P md l.toArray Q m S fuel (listed.setIfInBounds i true) a w) → K' a w) → Oper.wp P oi a w K' Q)
    (h' : ∀ K' : Act → World → Prop, Shut (∀ a w, S w → (S w → wpAnyL P md l.toArray Q m S fuel (listed.setIfInBounds j true) a w) → K' a w) → Oper.wp P oj a w K' Q) : wpAnyL P md l.toArray Q m S (fuel + 1) listed a w := by
  refine ⟨fun h0 => absurd (hr ▸ h0) (by simp), fun k hk => ?_⟩
  rw [hr] at hk
  have hk' : k = i ∨ k = j := by simpa using hk
  rcases hk' with e | e
  · subst e
    exact wpOp_step (drop_at hi) fun K' hK => by rw [if_pos hw]; exact h K' fun a w hS hW => hK a w ⟨fun _ => hS, hW hS⟩
  · subst e
    exact wpOp_step (drop_at hj) fun K' hK => by rw [if_pos hw']; exact h' K' fun a w hS hW => hK a w ⟨fun _ => hS, hW hS⟩
end
end Go.Proofs.Ythojbcecbeapgab

/- Lists of batches of the call's own, and lists of batches as the source of an append; general steps, nothing here speaks of the program but the types. -/
namespace Go.Proofs.Ythojbcecbeapgab
open Go.RowKit

/-- v owns these batches, in a block from B on. -/
abbrev OwnB (E : TypeId) (w : World) (B : Nat) (v : Value) (l : List Bt) : Prop := OwnN E 4 w B v (l.map btN)
theorem OwnB.sl {E : TypeId} {w : World} {B : Nat} {v : Value} {l : List Bt} (h : OwnB E w B v l) : ∃ a c, v = .slice a l.length c ∧ l.length ≤ c := by
  obtain ⟨a, c, rfl, h2⟩ := OwnN.slice h
  rw [List.length_map] at h2 ⊢
  exact ⟨a, c, rfl, h2⟩
theorem OwnB.bts {E : TypeId} {w : World} {B : Nat} {v : Value} {l : List Bt} (h : OwnB E w B v l) : ∃ fp, Bts w l v fp := by
  obtain ⟨a, c, fp, rfl, _, hr⟩ := bts_of h
  exact ⟨fp, hr⟩
theorem OwnB.fresh (E : TypeId) (w : World) : OwnB E (w.alloc (.cells #[] E)) w.heap.size (.slice (some ⟨w.heap.size, 0, none⟩) 0 0) [] := OwnN.empty E 4 w
theorem OwnB.setc {E : TypeId} {w : World} {B : Nat} {v : Value} {l : List Bt} (h : OwnB E w B v l) {b : Nat} (hne : ∀ g, v.ownBlock = some g → g ≠ b) (j : Nat) (u : Value) : OwnB E (w.setCell ⟨b, j, none⟩ u) B v l :=
  OwnN.kept h (grownBy_set w b j u) fun g e e2 => hne g e (by injection e2 with e2; exact e2.symm)
theorem flN_bt (l : List Bt) : (flN (l.map btN)).length = l.length * 4 := by
  rw [flN_len (sz := 4) (fun e he => by obtain ⟨x, _, rfl⟩ := List.mem_map.1 he; rfl), List.length_map]
theorem flN_cut (l m : List Bt) : flN ((l ++ m).map btN) = flN (l.map btN) ++ flN (m.map btN) := by rw [List.map_append, flN_app]
/-- A list of batches as the source of an append. -/
def BSrc (w : World) (va : Option Addr) (vc : Nat) (l : List Bt) : Prop := (va = none ∧ l = [] ∧ vc = 0) ∨ ∃ q, va = some q ∧ SrcN w q (l.map btN)
theorem BSrc.below {w w' : World} {va : Option Addr} {vc : Nat} {l : List Bt} (h : BSrc w va vc l) (hb : Below w.heap.size w w') : BSrc w' va vc l := h.imp id fun ⟨q, e, hq⟩ => ⟨q, e, hq.below hb⟩
theorem SrcN.bts {w : World} {b off : Nat} {l : List Bt} (h : ∀ k (hk : k < l.length), w.cell? ⟨b, off + k * 4, none⟩ = some (.int .i64 l[k].d) ∧ w.cell? ⟨b, off + k * 4 + 1, none⟩ = some (.int .i64 l[k].a) ∧ w.cell? ⟨b, off + k * 4 + 2, none⟩ = some (.int .i64 l[k].r) ∧ w.cell? ⟨b, off + k * 4 + 3, none⟩ = some (.int .i64 l[k].s)) : SrcN w ⟨b, off, none⟩ (l.map btN) := by
  intro p u hp
  have hpl : p < l.length * 4 := by rw [← flN_bt]; exact (List.getElem?_eq_some_iff.1 hp).1
  have hk : p / 4 < l.length := by omega
  have hk' : p / 4 < (l.map btN).length := by simpa using hk
  have e1 : p = p / 4 * 4 + p % 4 := by omega
  have hge : (l.map btN)[p / 4] = btN l[p / 4] := by simp
  rw [e1, flN_at (sz := 4) (fun e he => by obtain ⟨x, _, rfl⟩ := List.mem_map.1 he; rfl) (p / 4) (p % 4) hk' (by omega), hge] at hp
  rw [addr_add']
  simp only [show (⟨b, off + p, none⟩ : Addr) = ⟨b, off + p / 4 * 4 + p % 4, none⟩ by congr 1; omega]
  obtain ⟨h0, h1, h2, h3⟩ := h (p / 4) hk
  have h4 : p % 4 < 4 := by omega
  match hm : p % 4, h4 with
  | 0, _ => rw [hm] at hp; rw [show off + p / 4 * 4 + 0 = off + p / 4 * 4 from rfl, h0]; simpa [rwN, btN] using hp
  | 1, _ => rw [hm] at hp; rw [h1]; simpa [rwN, btN] using hp
  | 2, _ => rw [hm] at hp; rw [h2]; simpa [rwN, btN] using hp
  | 3, _ => rw [hm] at hp; rw [h3]; simpa [rwN, btN] using hp
theorem SrcN.takeB {w : World} {ad : Addr} {l : List Bt} (h : SrcN w ad (l.map btN)) (k : Nat) : SrcN w ad ((l.take k).map btN) := by
  intro p u hp
  have h1 := flN_cut (l.take k) (l.drop k)
  rw [List.take_append_drop] at h1
  refine h p u ?_
  rw [h1, List.getElem?_append_left (List.getElem?_eq_some_iff.1 hp).1]
  exact hp
theorem SrcN.dropB {w : World} {q : Addr} {l : List Bt} (h : SrcN w q (l.map btN)) (k : Nat) : SrcN w (q.add (k * 4)) ((l.drop k).map btN) := by
  intro p u hp
  by_cases hk : k ≤ l.length
  · have h1 := flN_cut (l.take k) (l.drop k)
    rw [List.take_append_drop] at h1
    have hl : (flN ((l.take k).map btN)).length = k * 4 := by rw [flN_bt, List.length_take]; omega
    have hd : flN ((l.drop k).map btN) = (flN (l.map btN)).drop (k * 4) := by
      rw [h1, List.drop_append_of_le_length (by omega), show (flN ((l.take k).map btN)).drop (k * 4) = [] from List.drop_of_length_le (by omega)]
      rfl
    rw [hd, List.getElem?_drop] at hp
    have := h _ _ hp
    rw [← this]
    simp only [Addr.add]
    by_cases e1 : k * 4 = 0 <;> by_cases e2 : p = 0 <;> simp [e1, e2, Nat.add_assoc]
  · rw [List.drop_of_length_le (by omega)] at hp; simp [flN] at hp
theorem SrcN.nilB {w : World} {q : Addr} : SrcN w q (([] : List Bt).map btN) := fun j u hj => by simp [flN] at hj
theorem bsrc_of {w : World} {l : List Bt} {va : Option Addr} {vc : Nat} {fp : List Nat} (h : Bts w l (.slice va l.length vc) fp) : BSrc w va vc l := by
  by_cases h0 : l = []
  · subst h0
    cases va with
    | some q => exact .inr ⟨q, rfl, SrcN.nilB⟩
    | none => exact .inl ⟨rfl, rfl, Rd.nilcap h⟩
  · obtain ⟨b, off, rfl, _, hat⟩ := h.at (List.length_pos_iff.2 h0)
    exact .inr ⟨_, rfl, SrcN.bts hat⟩
theorem bts_cap {w : World} {l : List Bt} {va : Option Addr} {vc : Nat} {fp : List Nat} (h : Bts w l (.slice va l.length vc) fp) : l.length ≤ vc := by
  obtain ⟨a, c, e, hc⟩ := h.slice
  injection e with _ _ e3; omega
theorem bsrc_parts {w : World} {va : Option Addr} {vc : Nat} {l : List Bt} (h : BSrc w va vc l) (hc : l.length ≤ vc) {k : Nat} (hk : k ≤ l.length) :
    BSrc w va vc (l.take k) ∧ BSrc w (if vc = k then va else va.map (·.add (k * 4))) (vc - k) (l.drop k) := by
  rcases h with ⟨rfl, rfl, rfl⟩ | ⟨q, rfl, hq⟩
  · exact ⟨.inl ⟨rfl, by simp, rfl⟩, .inl ⟨by split <;> rfl, by simp, by simp⟩⟩
  · refine ⟨.inr ⟨q, rfl, hq.takeB k⟩, ?_⟩
    by_cases e : vc = k
    · rw [if_pos e, List.drop_of_length_le (by omega)]; exact .inr ⟨q, rfl, SrcN.nilB⟩
    · rw [if_neg e]; exact .inr ⟨_, rfl, hq.dropB k⟩
theorem srcB_one {w : World} {B : Nat} {E : TypeId} {d a r s : Int} (h : Str w B E #[.int .i64 d, .int .i64 a, .int .i64 r, .int .i64 s]) : SrcN w ⟨B, 0, none⟩ ([(⟨d, a, r, s⟩ : Bt)].map btN) := by
  intro p u hp
  rw [addr_add']
  simp only [Nat.zero_add]
  match p with
  | 0 | 1 | 2 | 3 => exact h.cell _ (by simpa [flN, rwN, btN] using hp)
  | n + 4 => simp [flN, rwN, btN] at hp
theorem set1 {w : World} {B j : Nat} {v : Value} {q : Nat} (hq : q < w.heap.size) (hne : q ≠ B) : (w.setCell ⟨B, j, none⟩ v).heap[q]? = w.heap[q]? := (grownBy_set _ B j v).block q hq (by simpa using hne)
theorem set2 {w : World} {B j j' : Nat} {v v' : Value} {q : Nat} (hq : q < w.heap.size) (hne : q ≠ B) : ((w.setCell ⟨B, j, none⟩ v).setCell ⟨B, j', none⟩ v').heap[q]? = w.heap[q]? :=
  ((grownBy_set _ B j' v').block q (by simpa using hq) (by simpa using hne)).trans ((grownBy_set _ B j v).block q hq (by simpa using hne))

theorem bq_T : Try.prog.underlying 23 = some (.slice 27) := Try.underlying23
theorem bq_inf : (Try.prog.info? 27).map (fun i => (i.zero, i.size, i.bytes)) = some (some (.agg #[.int .i64 0, .int .i64 0, .int .i64 0, .int .i64 0]), 4, 32) := by kernel_rfl
theorem op_app_B {w : World} {o : Oper} {a : Act} {K : Act → World → Prop} {Q : Exit → Act → World → Prop} (s x : Operand) (ho : o.op = .call { callee := .builtin .append, args := #[s, x], argTypes := #[23, 23] }) (B : Nat) (v : Value) (es es2 : List Bt) (ad : Option Addr) (c : Nat)
    (hs : a.eval s = v) (hb : OwnB 27 w B v es) (hx : a.eval x = .slice ad es2.length c) (hsrc : BSrc w ad c es2) (hlen : es.length + es2.length ≤ 1048577) (hB : B ≤ w.heap.size)
    (h : ∀ v' w', OwnB 27 w' B v' (es ++ es2) → w.grownBy w' v.ownBlock → (∀ g, v'.ownBlock = some g → v.ownBlock = some g ∨ w.heap.size ≤ g) → K (a.put o.dst v') w') : Oper.wp Try.prog o a w K Q :=
  op_app_N bq_T bq_inf rfl (by decide) (by decide) s x ho B v (es.map btN) (es2.map btN) ad c hs hb (by rw [hx, List.length_map]) (fun e he => by obtain ⟨y, _, rfl⟩ := List.mem_map.1 he; rfl) (hsrc.imp (fun ⟨h1, h2, h3⟩ => ⟨h1, by rw [h2]; rfl, h3⟩) id) (by rw [List.length_map, List.length_map]; exact hlen) hB
    fun v' w' h1 h2 h3 => h v' w' (by unfold OwnB; rw [List.map_append]; exact h1) h2 h3
theorem wpList_app_B {w : World} {ops : Array Oper} {rest : List Oper} {o : Oper} {a : Act} {Q : Exit → Act → World → Prop} (hgd : Region.wanted o (yielded ops a.tmps) = true) (s x : Operand) (ho : o.op = .call { callee := .builtin .append, args := #[s, x], argTypes := #[23, 23] }) (B : Nat) (v : Value) (es es2 : List Bt) (ad : Option Addr) (c : Nat)
    (hs : a.eval s = v) (hb : OwnB 27 w B v es) (hx : a.eval x = .slice ad es2.length c) (hsrc : BSrc w ad c es2) (hlen : es.length + es2.length ≤ 1048577) (hB : B ≤ w.heap.size)
    (h : ∀ v' w', OwnB 27 w' B v' (es ++ es2) → w.grownBy w' v.ownBlock → (∀ g, v'.ownBlock = some g → v.ownBlock = some g ∨ w.heap.size ≤ g) → wpList Try.prog ops Q rest (a.put o.dst v') w') : wpList Try.prog ops Q (o :: rest) a w :=
  wpList_want hgd fun _ hK => op_app_B s x ho B v es es2 ad c hs hb hx hsrc hlen hB fun v' w' h1 h2 h3 => hK _ _ (h v' w' h1 h2 h3)
theorem BSrc.parts {w : World} {va : Option Addr} {vc : Nat} {g : List Bt} (h : BSrc w va vc g) (hc : g.length ≤ vc) {k : Nat} (hk : k ≤ g.length) :
    (∀ W, (Instr.slice 23 (.slice va g.length vc) none (some (.int .i64 k)) none).run Try.prog W = .ok (.slice va (g.take k).length vc) W) ∧ BSrc w va vc (g.take k) ∧
    ∃ ad ac, (∀ W, (Instr.slice 23 (.slice va g.length vc) (some (.int .i64 k)) none none).run Try.prog W = .ok (.slice ad (g.drop k).length ac) W) ∧ BSrc w ad ac (g.drop k) := by
  obtain ⟨h1, h2⟩ := bsrc_parts h hc hk
  have ht : Try.prog.underlying 23 = some (.slice (Try.prog.elem 23)) := by kernel_rfl
  have hs : ∀ W, (sizeOf (Try.prog.elem 23)).run Try.prog W = .ok 4 W := fun W => by kernel_rfl
  refine ⟨fun W => ?_, h1, _, _, fun W => ?_, h2⟩
  · rw [run_slice_h (ht := ht) (h0 := by omega) (h2 := by omega), hs]
    simp only [Result.andThen, sliced, Int.toNat_natCast, List.length_take, Nat.min_eq_left hk, Nat.sub_zero]
    have e : (if vc = 0 then va else va.map (·.add (0 * 4))) = va := by
      split
      · rfl
      · cases va <;> simp [Addr.add]
    rw [e]
  · rw [run_slice_l (ht := ht) (h0 := by omega) (h1 := by omega), hs]
    simp only [Result.andThen, sliced, Int.toNat_natCast, List.length_drop]

end Go.Proofs.Ythojbcecbeapgab
