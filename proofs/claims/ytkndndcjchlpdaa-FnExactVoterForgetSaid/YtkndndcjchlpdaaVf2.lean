/- Deleting from a map of votes those of elder rounds, by a walk of maps.DeleteFunc's text and of the test's; no conditions. -/
import Derived.Test.YtkndndcjchlpdaaRows
import Derived.Test.YtkndndcjchlpdaaVf1
import Derived.Test.YtkndndcjchlpdaaRVoter
import Derived.Deep.QuietTactic
import Derived.BigQuiet
namespace Go.Proofs.Ytkndndcjchlpdaa
open Go.RowKit

def KeepN (n : Int) : Vt → Prop := fun v => n ≤ v.r

set_option maxRecDepth 8000 in
theorem forget_test (ur ua ud n : Int) (Bn : Nat) (w : World) (hn : Str w Bn 3 #[.int .i64 n]) :
    Calls Try.prog 48 #[.agg #[.int .i64 ur, .int .i64 ua], .int .i64 ud, .pointer (some ⟨Bn, 0, none⟩)] w fun e w' => e = .returned (.bool (decide (ur < n))) ∧ Below w.heap.size w w' := by
  have hal : Below w.heap.size w (w.alloc (.cells #[.int .i64 ur, .int .i64 ua] 75)) := (Below.refl _ _).alloc (Nat.le_refl _) _
  have sP := Str.new w 75 #[.int .i64 ur, .int .i64 ua]
  have p0 := sP.cell 0 (v := .int .i64 ur) rfl
  have p1 := sP.cell 1 (v := .int .i64 ua) rfl
  have n0 := (hn.alloc (.cells #[.int .i64 ur, .int .i64 ua] 75)).cell 0 (v := .int .i64 n) rfl
  have Hal := Lib.hid hal
  clear sP hal hn
  go_enter Try.func48, Try.ntmps48
  go_wp2
  go_ret
  exact ⟨rfl, Hal.out⟩

set_option maxHeartbeats 4000000 in
set_option maxRecDepth 8000 in
theorem votes_forget (b Bn : Nat) (n : Int) (gm : List Vt) (w : World) (hm : MapV w b gm) (hn : Str w Bn 3 #[.int .i64 n]) (hne : Bn ≠ b) :
    Calls Try.prog 47 #[.map (some b), .func (.func 48) #[] #[.pointer (some ⟨Bn, 0, none⟩)]] w fun e w' => e = .returned (.tuple #[]) ∧ ∃ gc, MapV w' b gc ∧ (∀ v, v ∈ gc ↔ v ∈ gm ∧ n ≤ v.r) ∧ gc.length ≤ gm.length ∧ w.grownBy w' (some b) := by
  obtain ⟨w2, hrun, hR2, hg2, hs2⟩ := hm.rangeF (KeepN n) (KeepN n)
  have hbn := hn.lt
  have Hn2 := Lib.hid (hn.kept hg2 (by simp))
  have HR2 := Lib.hid hR2
  have Hg2 := Lib.hid (hg2.but (some b))
  have Hne := Lib.hid hne
  clear hR2 hg2 hm hn hne
  go_enter Try.func47, Try.ntmps47
  go_wp2_with fail
  go_loopw [5] (fun _ wr => ∃ gc cnt, RangeF (KeepN n) (KeepN n) wr b w.heap.size gm.length gm gc cnt ∧ gc.length ≤ gm.length ∧ Str wr Bn 3 #[.int .i64 n] ∧ w.grownBy wr (some b)) (fun _ wr => wr.rangeLeft b w.heap.size)
  case atStart => exact ⟨gm, _, HR2.out, Nat.le_refl _, Hn2.out, Hg2.out⟩
  case round =>
    obtain ⟨gc, cnt, hR, hgl, hn, hgw⟩ := hrel
    have HR := Lib.hid hR
    have Hgl := Lib.hid hgl
    have Hn := Lib.hid hn
    have Hgw := Lib.hid hgw
    clear hgl hn hgw HR2 Hg2 Hn2 hrun hs2
    go_wp2_with (first
      | (at_next; refine wpList_nextF rfl _ rfl rfl hR ?_ ?_)
      | go_in)
    · intro hall
      clear hR
      have hsub := HR.out.sub
      go_wp2
      go_end0
      exact ⟨rfl, gc, HR.out.map, fun v => ⟨fun hv => ⟨hsub.1 v hv, hall v hv⟩, fun hv => hsub.2 v hv.1 hv.2⟩, Hgl.out, Hgw.out⟩
    · intro u w3 cnt3 hu hR3 hlt hg3 hs3 hen
      have hleft : wr.rangeLeft b w.heap.size = cnt := hR.left_eq
      have hal : Below w3.heap.size w3 (w3.alloc (.cells #[.int .i64 u.r, .int .i64 u.a] 75)) := (Below.refl _ _).alloc (Nat.le_refl _) _
      have sP := Str.new w3 75 #[.int .i64 u.r, .int .i64 u.a]
      have Hlt := Lib.hid hlt
      have hlt0 := hR.lt
      have HR := Lib.hid (hR3.kept (below_grown hal) (by simp) (by simp))
      have Hn := Lib.hid ((Hn.out.kept hg3 (by simp; omega)).alloc (.cells #[.int .i64 u.r, .int .i64 u.a] 75))
      have Hgw := Lib.hid ((Hgw.out.andThen hg3 (fun j hj => by cases hj; exact Or.inl (Nat.le_refl _))).andThen (below_grown hal) (fun j hj => by cases hj))
      have Hu := Lib.hid hu
      have HP := Lib.hid (hs3 ▸ sP)
      have p0 := sP.cell 0 (v := .int .i64 u.r) rfl
      have p1 := sP.cell 1 (v := .int .i64 u.a) rfl
      clear sP hal hR hR3 hg3 hu hlt
      go_wp2_with fail
      clear p0 p1 hen
      generalize hw4 : w3.alloc (.cells #[.int .i64 u.r, .int .i64 u.a] 75) = w4 at *
      refine (forget_test u.r u.a u.d n Bn w4 Hn.out).mono ?_
      rintro e w5 ⟨rfl, hb5⟩
      have HR := Lib.hid (HR.out.kept (below_grown hb5) (by simp) (by simp))
      have Hn := Lib.hid (Hn.out.kept (below_grown hb5) (by simp))
      have Hgw := Lib.hid (Hgw.out.andThen (below_grown hb5) (fun j hj => by cases hj))
      have HP := Lib.hid (HP.out.kept (below_grown hb5) (by simp))
      have p0 := HP.out.cell 0 (v := .int .i64 u.r) rfl
      have p1 := HP.out.cell 1 (v := .int .i64 u.a) rfl
      clear hb5
      cases hun : decide (u.r < n) with
      | true =>
        have hnk : ¬ KeepN n u := by simp only [decide_eq_true_eq] at hun; unfold KeepN; omega
        clear hun
        go_wp2_with (first
          | (at_delete; refine wpList_deleteF rfl _ _ rfl rfl (u := u) rfl Hu.out hnk HR.out ?_; intro w6 cnt6 hR6 hle6 hg6; go_frame)
          | go_in)
        clear p0 p1
        go_roundw
        case rel => exact ⟨gc.erase u, cnt6, hR6.weaken (fun v _ hv => by rcases hv with ⟨h | h, h'⟩; exact absurd h h'; exact h), Nat.le_trans List.length_erase_le Hgl.out, Hn.out.kept hg6 (by simpa using Hne.out), Hgw.out.andThen hg6 (fun j hj => by cases hj; exact Or.inr rfl)⟩
        case measure => rw [hR6.left_eq, hleft]; have := Hlt.out; omega
      | false =>
        have hnk : KeepN n u := by simp only [decide_eq_false_iff_not] at hun; unfold KeepN; omega
        clear hun
        go_wp2
        clear p0 p1
        go_roundw
        case rel => exact ⟨gc, cnt3, HR.out.weaken (fun v _ hv => by rcases hv with h | h; exact h ▸ hnk; exact h), Hgl.out, Hn.out, Hgw.out⟩
        case measure => rw [HR.out.left_eq, hleft]; exact Hlt.out

end Go.Proofs.Ytkndndcjchlpdaa
