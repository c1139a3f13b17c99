/- impl's copy of a vertex, authors of a round, VertexValid, each by a walk of its text; conditions: lists are shorter than 2^40. -/
import Derived.Test.YtejpoeejhmgphabRows
import Derived.Test.YtejpoeejhmgphabGp3
namespace Go.Proofs.Ytejpoeejhmgphab
open Go.RowKit

set_option maxHeartbeats 1000000 in
theorem impl_copyOfVertex (r a d : Int) (pa : Option Addr) (pc : Nat) (ps : List Int) (w : World) (hbp : ps.length ≤ 1099511627776) (hs : SrcAt w pa pc ps) (hi : IntsAt w pa ps) :
    Calls Try.prog 73 #[.agg #[.int .i64 r, .int .i64 a, .slice pa ps.length pc, .int .i64 d]] w fun e w' => ∃ v, e = .returned (.agg #[.int .i64 r, .int .i64 a, v, .int .i64 d]) ∧ Own 3 w' w.heap.size v ps ∧ Below w.heap.size w w' := by
  have hbW : Below w.heap.size w ((w.alloc (.cells #[.int .i64 r, .int .i64 a, .slice pa ps.length pc, .int .i64 d] 28)).alloc (.cells #[.int .i64 0, .int .i64 0, .slice none 0 0, .int .i64 0] 28)) := ((Below.refl _ w).alloc (Nat.le_refl _) _).alloc (by simp) _
  have s0 := (Str.new w 28 #[.int .i64 r, .int .i64 a, .slice pa ps.length pc, .int .i64 d]).alloc (.cells #[.int .i64 0, .int .i64 0, .slice none 0 0, .int .i64 0] 28)
  have s1 := Str.new (w.alloc (.cells #[.int .i64 r, .int .i64 a, .slice pa ps.length pc, .int .i64 d] 28)) 28 #[.int .i64 0, .int .i64 0, .slice none 0 0, .int .i64 0]
  have hz1 : (w.alloc (.cells #[.int .i64 r, .int .i64 a, .slice pa ps.length pc, .int .i64 d] 28)).heap.size = w.heap.size + 1 := by simp
  rw [hz1] at s1
  have hzW : ((w.alloc (.cells #[.int .i64 r, .int .i64 a, .slice pa ps.length pc, .int .i64 d] 28)).alloc (.cells #[.int .i64 0, .int .i64 0, .slice none 0 0, .int .i64 0] 28)).heap.size = w.heap.size + 2 := by simp
  have k2 := s0.cell 2 (v := .slice pa ps.length pc) rfl
  have HC := Lib.hid (lib_Clone TIg pa pc ps _ hbp (hs.under hi hbW) (hi.below hbW))
  have Hs0 := Lib.hid s0
  have Hs1 := Lib.hid s1
  have HbW := Lib.hid hbW
  have HzW := Lib.hid hzW
  clear s0 s1 hbW hs hi hz1 hzW
  go_enter Try.func73, Try.ntmps73
  go_wp2_with fail
  generalize (w.alloc (.cells #[.int .i64 r, .int .i64 a, .slice pa ps.length pc, .int .i64 d] 28)).alloc (.cells #[.int .i64 0, .int .i64 0, .slice none 0 0, .int .i64 0] 28) = W at *
  refine HC.out.mono ?_
  rintro e w5 ⟨v, rfl, hown, hb5⟩
  have t0 : Str w5 w.heap.size 28 #[.int .i64 r, .int .i64 a, .slice pa ps.length pc, .int .i64 d] := (hb5.block _ Hs0.out.lt).trans Hs0.out
  have t1 : Str w5 (w.heap.size + 1) 28 #[.int .i64 0, .int .i64 0, .slice none 0 0, .int .i64 0] := (hb5.block _ Hs1.out.lt).trans Hs1.out
  have Hlt := Lib.hid hown.lt
  have Hown := Lib.hid hown
  have Hb5 := Lib.hid (below_step HbW.out HbW.out.size hb5)
  obtain ⟨a5, c5, rfl, _, _⟩ := Hown.out.ints
  clear hown hb5 k2
  have k0 := t0.cell 0 (v := .int .i64 r) rfl
  have k1 := t0.cell 1 (v := .int .i64 a) rfl
  have k2 := t0.cell 2 (v := .slice pa ps.length pc) rfl
  have k3 := t0.cell 3 (v := .int .i64 d) rfl
  have f2 := t0.frozen 2
  have j0 := t1.cell 0 (v := .int .i64 0) rfl
  have j1 := t1.cell 1 (v := .int .i64 0) rfl
  have j2 := t1.cell 2 (v := .slice none 0 0) rfl
  have j3 := t1.cell 3 (v := .int .i64 0) rfl
  have g0 := t1.frozen 0
  have g1 := t1.frozen 1
  have g2 := t1.frozen 2
  have g3 := t1.frozen 3
  have hne : w.heap.size + 1 ≠ w.heap.size := by omega
  have u := ((((t1.other hne 2 (.slice a5 ps.length c5)).set 0 (.int .i64 r)).set 1 (.int .i64 a)).set 2 (.slice a5 ps.length c5)).set 3 (.int .i64 d)
  have e0 := u.cell 0 (v := .int .i64 r) rfl
  have e1 := u.cell 1 (v := .int .i64 a) rfl
  have e2 := u.cell 2 (v := .slice a5 ps.length c5) rfl
  have e3 := u.cell 3 (v := .int .i64 d) rfl
  clear u t0 t1
  go_wp2
  refine bodyPost_ret (v := .agg #[.int .i64 r, .int .i64 a, .slice a5 ps.length c5, .int .i64 d]) (by simp [results, Try.f73, go_sem, e0, e1, e2, e3]) rfl ?_
  have n1 : (Value.slice a5 ps.length c5).ownBlock ≠ some (w.heap.size) := fun e => by have := Hlt.out _ e; have := HzW.out; omega
  have n2 : (Value.slice a5 ps.length c5).ownBlock ≠ some (w.heap.size + 1) := fun e => by have := Hlt.out _ e; have := HzW.out; omega
  exact ⟨_, rfl, ((((((Hown.out.mono (by have := HzW.out; omega)).set_other n1 2 _).set_other n2 0 _).set_other n2 1 _).set_other n2 2 _).set_other n2 3 _), (((((Hb5.out.setCell (p := ⟨w.heap.size, 2, none⟩) (by simp only; omega) _).setCell (p := ⟨w.heap.size + 1, 0, none⟩) (by simp only; omega) _).setCell (p := ⟨w.heap.size + 1, 1, none⟩) (by simp only; omega) _).setCell (p := ⟨w.heap.size + 1, 2, none⟩) (by simp only; omega) _).setCell (p := ⟨w.heap.size + 1, 3, none⟩) (by simp only; omega) _)⟩

end Go.Proofs.Ytejpoeejhmgphab
