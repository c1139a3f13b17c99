/- The draw of parts of the coin, by a walk of its text; condition: the text of code is shorter than 2^20. -/
import Derived.Test.YtkndndcjchlpdabRows
import Derived.Test.YtkndndcjchlpdabBase
import Derived.Test.YtkndndcjchlpdabRd
import Derived.Test.YtkndndcjchlpdabD2
import Derived.Test.YtkndndcjchlpdabCo5
import Derived.Test.YtkndndcjchlpdabCo8
import Derived.Test.YtkndndcjchlpdabOwR
import Derived.Test.YtkndndcjchlpdabCut
import Derived.Deep.QuietTactic
import Derived.BigQuiet
namespace Go.Proofs.Ytkndndcjchlpdab
open Go.RowKit

theorem Bld.from0 {E : TypeId} {sz : Nat} {w : World} {B : Nat} {v : Value} (h : Bld E sz w B v []) : Bld E sz w 0 v [] := by
  obtain ⟨cs, h1, h2⟩ := h.row
  refine ⟨h.szs, cs, ⟨h1.1, ?_⟩, fun k hk => by simp at hk⟩
  rcases h1.2 with h0 | ⟨g, cap, cur, e, hb, rest⟩
  · exact .inl h0
  · exact .inr ⟨g, cap, cur, e, Nat.zero_le _, rest⟩
theorem cp_rows : ∀ {es : List (List Fd)}, (∀ e ∈ es, ∃ x0 x1, e = [Fd.i x0, .i x1]) → ∃ l : List Cp, es = l.map cpF
  | [], _ => ⟨[], rfl⟩
  | e :: es, h => by
    obtain ⟨x0, x1, rfl⟩ := h _ List.mem_cons_self
    obtain ⟨g, rfl⟩ := cp_rows (es := es) fun e he => h e (List.mem_cons_of_mem _ he)
    exact ⟨(x0, x1) :: g, rfl⟩
theorem cp_set (l : List Cp) {k : Nat} (hk : k < (l.map cpF).length) {j : Nat} (hj : j < 2) (z : Int) : ∃ l' : List Cp, (l.map cpF).set k (((l.map cpF)[k]).set j (.i z)) = l'.map cpF ∧ l'.length = l.length := by
  have : ∀ e ∈ (l.map cpF).set k (((l.map cpF)[k]).set j (.i z)), ∃ x0 x1, e = [Fd.i x0, .i x1] := by
    intro e he
    rcases List.mem_or_eq_of_mem_set he with he | rfl
    · obtain ⟨p, _, rfl⟩ := List.mem_map.1 he; exact ⟨_, _, rfl⟩
    · rw [List.getElem_map]
      match j, hj with
      | 0, _ => exact ⟨_, _, rfl⟩
      | 1, _ => exact ⟨_, _, rfl⟩
  obtain ⟨l', hl'⟩ := cp_rows this
  refine ⟨l', hl', ?_⟩
  have := congrArg List.length hl'
  simpa using this.symm
theorem cp_cut {w : World} {l : List Cp} {a : Option Addr} {cap : Nat} {fp : List Nat} (h : Cps w l (.slice a l.length cap) fp) {k : Nat} (hk : k ≤ l.length) : ∃ fq, Cps w (l.take k) (.slice a k cap) fq := by
  by_cases h0 : k = 0
  · subst h0
    refine ⟨[], ?_⟩
    unfold Cps rowsD
    rw [List.take_zero]
    refine .nil _ _ fun e => ?_
    subst e
    exact Rd.nilcap h
  · obtain ⟨b, off, rfl, _⟩ := h.at (by omega)
    have hrow : ∀ e ∈ (l.map cpF).map (fun e => e.map Fd.dt), e.length = 2 := by
      intro e he
      rw [List.map_map] at he
      obtain ⟨x, _, rfl⟩ := List.mem_map.1 he
      rfl
    have hz : ((l.map cpF).map fun e => e.map Fd.dt).length = l.length := by simp
    obtain ⟨fq, hq⟩ := Rd.cut (g := b) (off := off) (n := l.length) (cap := cap) h hrow 0 k off cap (by omega) (fun _ => by omega) (fun _ => by omega)
    refine ⟨fq, ?_⟩
    unfold Cps rowsD
    rw [List.map_take, List.map_take]
    rw [List.drop_zero] at hq
    exact hq.1

/-- What is drawn: a number and parts. -/
def CjDraw (w : World) (e : Ending) (w' : World) : Prop := ∃ (need : Int) (l : List Cp) (v : Value) (fp : List Nat), e = .returned (.tuple #[.int .i64 need, v]) ∧ Cps w' l v fp ∧ l.length ≤ 7 ∧ Below w.heap.size w w'
theorem CjDraw.mk {w w' : World} {e : Ending} (need : Int) (l : List Cp) (v : Value) (fp : List Nat) (h1 : e = .returned (.tuple #[.int .i64 need, v])) (h2 : Cps w' l v fp) (h3 : l.length ≤ 7) (h4 : Below w.heap.size w w') : CjDraw w e w' := ⟨need, l, v, fp, h1, h2, h3, h4⟩
theorem cps_cap {w : World} {l : List Cp} {a : Option Addr} {cap : Nat} {fp : List Nat} (h : Cps w l (.slice a l.length cap) fp) (hne : 0 < l.length) : l.length ≤ cap := by
  obtain ⟨a', c', h1 | h1⟩ := Rd.list h
  · obtain ⟨e, hc⟩ := h1
    simp only [Value.slice.injEq] at e
    obtain ⟨_, _, rfl⟩ := e
    simpa using hc
  · have : l.length = 0 := by simpa using congrArg List.length h1.1
    omega

theorem TCp : (Try.prog.info? 50).map (fun i => (i.zero, i.size, i.bytes)) = some (some (.agg #[.int .i64 0, .int .i64 0]), 2, 16) := by kernel_rfl
theorem cp_fd {w : World} {B : Nat} {Ei : TypeId} (m z : Int) : ∀ j (hj : j < (cpF (m, z)).length), ∃ c, ([.int .i64 m, .int .i64 z] : List Value)[j]? = some c ∧ FdOk Ei w B c (cpF (m, z))[j] := by
  intro j hj
  have hj2 : j < 2 := by simpa [cpF] using hj
  match j, hj2 with
  | 0, _ => exact ⟨_, rfl, rfl⟩
  | 1, _ => exact ⟨_, rfl, rfl⟩
theorem cp_ap (m z : Int) : ∀ (p q : Nat) c d, ([.int .i64 m, .int .i64 z] : List Value)[p]? = some c → ([.int .i64 m, .int .i64 z] : List Value)[q]? = some d → p ≠ q → Apart c d := by
  intro p q c d hp _ _ g e
  have : c ∈ ([.int .i64 m, .int .i64 z] : List Value) := List.mem_of_getElem? hp
  simp at this
  rcases this with rfl | rfl <;> cases e
set_option maxHeartbeats 4000000 in
set_option maxRecDepth 8000 in
theorem spec_DrawCoinJoin (a : Option Addr) (cap : Nat) (zs : List Int) (w : World) (h : CodeAt w a cap zs) :
    Calls Try.prog 10 #[.slice a zs.length cap] w (CjDraw w) := by
  go_enter Try.func10, Try.ntmps10
  go_wp2_with fail
  refine (open_any a cap zs _ h).mono ?_
  rintro e w1 ⟨R, rfl, hR1, hR2, hr1, hb1⟩
  have hz1 := hb1.size
  have Hb1 := Lib.hid hb1; clear hb1
  have Hr0 := Lib.hid (hr1.alloc (.cells #[] 3)); clear hr1
  have HO := Lib.hid (own_empty 3 w1 (Nat.le_refl _))
  have Hg0 := Lib.hid (World.grownBy_alloc w1 (.cells #[] 3) (some R))
  go_wp2
  go_loopw [5, 6] (fun v i wr => ∃ (k p : Nat) (xs : List Int), k ≤ 4 ∧ i = .int .i64 k ∧ xs.length = k ∧ (∀ y ∈ xs, 0 ≤ y ∧ y ≤ 250) ∧ Own 3 wr w1.heap.size v xs ∧ Rdr wr R p ∧ p ≤ 2 * k ∧ w1.grownBy wr (some R)) (fun _ i _ => 5 - (intOf i).toNat)
  case atStart => exact ⟨0, 0, [], by omega, rfl, rfl, by simp, HO.out, Hr0.out, by omega, Hg0.out⟩
  case round =>
    obtain ⟨k, p, xs, hk, rfl, hxl, hxs, hown, hr, hp, hg⟩ := hrel
    clear HO Hr0 Hg0
    have hB := hg.size
    have Hxl := Lib.hid hxl
    have hxk : xs.length ≤ 4 := by omega
    have Hxs := Lib.hid hxs; clear hxs hxl
    have Hr := Lib.hid hr; clear hr
    have Hg := Lib.hid hg; clear hg
    have Ho := Lib.hid hown; clear hown
    go_wp2_with fail
    refine (pick_any R 4 p _ (by omega) Hr.out (by omega)).mono ?_
    rintro e w2 ⟨x, rfl, hx0, hx1, hr2, hg2⟩
    have Ho2 := Lib.hid (Ho.out.kept hg2 (.inr (fun e => by have := (Ho.out.lt R e).1; omega)))
    have Hg2 := Lib.hid (grownBy_trans Hg.out hg2)
    have hB2 := Hg2.out.size
    have Hr2 := Lib.hid hr2; clear hr2 hg2
    by_cases hlt : (k : Int) < 1 + x
    · go_wp2_with fail
      refine (pick_any R 251 (p + 1) _ (by omega) Hr2.out (by omega)).mono ?_
      rintro e w3 ⟨y, rfl, hy0, hy1, hr3, hg3⟩
      have Ho3 := Lib.hid (Ho2.out.kept hg3 (.inr (fun e => by have := (Ho2.out.lt R e).1; omega)))
      have Hg3 := Lib.hid (grownBy_trans Hg2.out hg3)
      have hB3 := Hg3.out.size
      have Hr3 := Lib.hid hr3; clear hr3 hg3
      go_wp2_with (at_builtin; refine wpList_push TI3 rfl (.tmp 23) (.tmp 26) rfl w1.heap.size _ xs _ rfl Ho3.out (by omega) rfl hB3 ?_; intro v' w5 hown5 hg5)
      go_roundw
      case rel =>
        exact ⟨k + 1, p + 2, xs ++ [y], by omega, by go_num, by rw [List.length_append, Hxl.out]; rfl, fun z hz => by
          rcases List.mem_append.1 hz with hz | hz
          · exact Hxs.out z hz
          · simp at hz; subst hz; omega, hown5, Hr3.out.kept hg5 (fun g e => by have := (Ho3.out.lt g e).1; omega), by omega, grown_row' Hg3.out hg5 (fun g e => (Ho3.out.lt g e).1)⟩
      case measure => simp [intOf]; omega
    · obtain ⟨ax, cx, rfl, hix, _⟩ := Ho2.out.ints
      have Hix := Lib.hid hix; clear hix
      go_wp2_with fail
      refine (spec_CoinDeal ax cx xs 7 w2 (by omega) Hix.out).mono ?_
      rintro e w3 ⟨vs, rfl, hos, hb3⟩
      have hsl := cdL_len xs 7
      obtain ⟨ah, cs, rfl, _, _⟩ := hos.ints
      generalize cdL xs 7 = sh at *
      have hs3 := hb3.size
      have Hlt3 := Lib.hid (show ∀ g, (Value.slice ah sh.length cs).ownBlock = some g → w2.heap.size ≤ g ∧ g < w3.heap.size from fun g e => hos.lt g e)
      have Hr3 := Lib.hid (Hr2.out.kept (below_grown hb3) (by simp))
      have Hg3 := Lib.hid (grown_row' Hg2.out (below_grown hb3) (by simp))
      have Hs3 := Lib.hid hos; clear hos hb3
      go_wp2_with fail
      refine (pick_any R 6 (p + 1) _ (by omega) Hr3.out (by omega)).mono ?_
      rintro e w4 ⟨wv, rfl, hw0, hw1, hr4, hg4⟩
      have hs4 := hg4.size
      have Hs4 := Lib.hid ((Hs3.out.kept hg4 (.inr (fun e => by have := (Hlt3.out R e).1; omega))).alloc (.cells #[] 50))
      have Hg4 := Lib.hid (grown_row' (grownBy_trans Hg3.out hg4) (World.grownBy_alloc w4 (.cells #[] 50) none) (by simp))
      have Hr4 := Lib.hid (hr4.alloc (.cells #[] 50)); clear hr4 hg4
      have HP := Lib.hid (show OwnR 50 3 2 (w4.alloc (.cells #[] 50)) w4.heap.size (w4.alloc (.cells #[] 50)).heap.size (.slice (some ⟨w4.heap.size, 0, none⟩) 0 0) [] from .nil (World.ownsRow_made w4 #[] 0 (Nat.le_refl _) (by simp) (by simp)) (fun g e => by cases e; simp))
      have hwv : 0 ≤ wv ∧ wv ≤ 5 := by omega
      obtain ⟨hwv0, hwv1⟩ := hwv
      go_wp2
      go_loopw [9, 10] (fun u i wr => ∃ (k p : Nat) (l : List Cp), k ≤ sh.length ∧ i = .int .i64 k ∧ l.length ≤ k ∧ OwnR 50 3 2 wr w4.heap.size wr.heap.size u (l.map cpF) ∧ Own 3 wr w2.heap.size (.slice ah sh.length cs) sh ∧ Rdr wr R p ∧ p ≤ 20 + k ∧ w1.grownBy wr (some R) ∧ w4.heap.size ≤ wr.heap.size) (fun _ i _ => sh.length - (intOf i).toNat)
      case atStart => exact ⟨0, p + 1 + 1, [], by omega, rfl, by simp, HP.out, Hs4.out, Hr4.out, by omega, Hg4.out, by simp⟩
      case round =>
        obtain ⟨k, p, l, hk, rfl, hll, hou, hos, hr, hp, hg, hw4⟩ := hrel
        clear HP Hs4 Hr4 Hg4 Ho2 Ho Hr2 Hr Hg Hg2 Hix
        have hB := hg.size
        obtain ⟨au, cu, rfl, _⟩ := hou.slice
        have hml : (l.map cpF).length = l.length := List.length_map ..
        rw [hml]
        have Hml := Lib.hid hml
        rw [hml] at hou
        have Hult := Lib.hid (show ∀ g, (Value.slice au l.length cu).ownBlock = some g → w4.heap.size ≤ g ∧ g < wr.heap.size from fun g e => hou.lt g e)
        clear hml
        have Hr := Lib.hid hr; clear hr
        have Hg := Lib.hid hg; clear hg
        have Hou := Lib.hid hou; clear hou
        have Hos := Lib.hid hos; clear hos
        by_cases hlt : k < sh.length
        · go_wp2_with fail
          refine (pick_any R 3 p _ (by omega) Hr.out (by omega)).mono ?_
          rintro e w5 ⟨x, rfl, hx0, hx1, hr5, hg5⟩
          have hs5 := hg5.size
          have Hou5 := Lib.hid ((Hou.out.same fun g h1 h2 => hg5.block g h2 (fun e => by cases e; omega)).mono hs5)
          have Hos5 := Lib.hid (Hos.out.kept hg5 (.inr (fun e => by have := (Hlt3.out R e).1; omega)))
          have Hg5 := Lib.hid (grownBy_trans Hg.out hg5)
          have Hr5 := Lib.hid hr5; clear hr5 hg5
          by_cases hx : 0 < x
          · obtain ⟨bs, os, rfl, hbs, hcs⟩ := Hos5.out.at.cell (by omega)
            have hcell := hcs k hlt
            clear hcs
            generalize sh[k] = s at *
            have HM := Lib.hid (fun W => spec_CoinMake s (1 + wv) W)
            have hlu : l.length ≤ 7 := by omega
            go_wp2_with fail
            refine (HM.out _).mono ?_
            rintro e w6 ⟨rfl, rfl⟩
            generalize cmZ s (1 + wv) = z at *
            clear hcell
            have hB5 : w4.heap.size ≤ w5.heap.size := by omega
            go_wp2_with (at_builtin; refine wpList_push_own (Ei := 3) Try.underlying23 TCp rfl (by decide) (by decide) rfl (.tmp 43) (.tmp 52) rfl w4.heap.size _ (l.map cpF) (cpF ((k : Int), z)) [.int .i64 (k : Int), .int .i64 z] _ rfl rfl (by intro u hu; simp at hu; rcases hu with rfl | rfl <;> rfl) rfl rfl (cp_fd _ _) (cp_ap _ _) w5.heap.size Hou5.out (Nat.le_refl _) (fun c hc g e => by simp at hc; rcases hc with rfl | rfl <;> cases e) (by rw [Hml.out]; omega) rfl hB5 ?_; intro v' w7 hou7 hg7 hat7; have hg7 : w5.grownBy w7 (Value.slice au l.length cu).ownBlock := hg7)
            go_roundw
            case rel =>
              refine ⟨k + 1, p + 1, l ++ [((k : Int), z)], by omega, by go_num, by rw [List.length_append]; simp; omega, by rw [List.map_append]; exact hou7, Hos5.out.kept hg7 (.inr (fun e => ?_)), Hr5.out.kept hg7 (fun g e => by have := (Hult.out g e).1; omega), by omega, grown_row' Hg5.out hg7 (fun g e => by have := (Hult.out g e).1; omega), by have := hg7.size; omega⟩
              cases hou9 : (Value.slice au l.length cu).ownBlock with
              | none => rw [hou9] at e; cases e
              | some g => rw [hou9] at e; have h1 := (Hult.out g hou9).1; have h2 := (Hlt3.out g e).2; omega
            case measure => simp [intOf]; omega
          · have hx2 : x = 0 := by omega
            subst hx2
            go_wp2
            go_roundw
            case rel => exact ⟨k + 1, p + 1, l, by omega, by go_num, by omega, Hou5.out, Hos5.out, Hr5.out, by omega, Hg5.out, by omega⟩
            case measure => simp [intOf]; omega
        · clear Hos
          by_cases hl0 : 0 < l.length
          case neg =>
            obtain ⟨fq, hrd⟩ := Hou.out.reads
            have Hrd := Lib.hid hrd; clear hrd
            have Hbb := Lib.hid (below_of_row' Hg.out hR1 hz1)
            have hl00 : l.length = 0 := by omega
            have Hl0 := Lib.hid hl00
            have hz0 : ¬ (0 : Int) < (l.length : Int) := by omega
            clear hl00
            go_wp2
            go_ret2
            exact CjDraw.mk _ (l) _ fq rfl Hrd.out (by omega) (Hb1.out.trans Hbb.out)
          obtain ⟨gu, cu', hvu, hgu1, hgu2, hgu3⟩ := Hou.out.head (by rw [Hml.out]; exact hl0)
          simp only [Value.slice.injEq] at hvu
          obtain ⟨rfl, hvl, rfl⟩ := hvu
          clear hvl
          go_wp2_with fail
          refine (pick_any R _ p _ (by omega) Hr.out (by omega)).mono ?_
          rintro e w5 ⟨q, rfl, hq0, hq1, hr5, hg5⟩
          have hs5 := hg5.size
          have Hou5 := Lib.hid ((Hou.out.same fun g h1 h2 => hg5.block g h2 (fun e => by cases e; omega)).mono hs5)
          have Hg5 := Lib.hid (grownBy_trans Hg.out hg5)
          have Hr5 := Lib.hid hr5; clear hr5 hg5
          obtain ⟨q, rfl⟩ := Int.eq_ofNat_of_zero_le hq0
          have hql : q < l.length := by omega
          clear hq0 hq1
          go_wp2_with fail
          refine (pick_any R 12 (p + 1) _ (by omega) Hr5.out (by omega)).mono ?_
          rintro e w6 ⟨s, rfl, hs0, hs1, hr6, hg6⟩
          have hs6 := hg6.size
          have Hou6 := Lib.hid ((Hou5.out.same fun g h1 h2 => hg6.block g h2 (fun e => by cases e; omega)).mono hs6)
          have Hg6 := Lib.hid (grownBy_trans Hg5.out hg6)
          have Hr6 := Lib.hid hr6; clear hr6 hg6
          by_cases e0 : s = 0
          case pos =>
            subst e0
            go_wp2_with fail
            refine (pick_any R 252 (p + 2) _ (by omega) Hr6.out (by omega)).mono ?_
            rintro e w7 ⟨z, rfl, hz0, hz1', hr7, hg7⟩
            have hs7 := hg7.size
            have Hou7 := Lib.hid ((Hou6.out.same fun g h1 h2 => hg7.block g h2 (fun e => by cases e; omega)).mono hs7)
            have Hg7 := Lib.hid (grownBy_trans Hg6.out hg7)
            clear hr7 hg7
            have hqm : q < (l.map cpF).length := by rw [Hml.out]; exact hql
            obtain ⟨C1, Z1⟩ := Hou7.out.fieldI hqm (j := 1) (by simp [cpF]) (x := l[q].2) (by simp [cpF])
            have Hset := Lib.hid (Hou7.out.setI (j := 1) Hml.out.symm hqm (by omega) z)
            obtain ⟨l2, hl2, hl3⟩ := cp_set l hqm (j := 1) (by omega) z
            obtain ⟨fq, hrd⟩ := Hset.out.reads
            rw [hl2] at hrd
            have Hrd := Lib.hid hrd; have Hl3 := Lib.hid hl3; clear hrd hl3 hl2 Hset hqm
            have Hbb := Lib.hid (below_of_row' (grown_row' Hg7.out (grownBy_set w7 gu (q * 2 + 1) (.int .i64 z)) (fun g e => by cases e; omega)) hR1 hz1)
            go_wp2
            go_ret2
            exact CjDraw.mk _ (l2) _ fq rfl Hrd.out (by have := Hl3.out; omega) (Hb1.out.trans Hbb.out)
          have e0' : (s == 0) = false := by rw [beq_eq_false_iff_ne]; exact e0
          by_cases e1 : s = 1
          case pos =>
            subst e1
            go_wp2_with fail
            refine (pick_any R 9 (p + 2) _ (by omega) Hr6.out (by omega)).mono ?_
            rintro e w7 ⟨z, rfl, hz0, hz1', hr7, hg7⟩
            have hs7 := hg7.size
            have Hou7 := Lib.hid ((Hou6.out.same fun g h1 h2 => hg7.block g h2 (fun e => by cases e; omega)).mono hs7)
            have Hg7 := Lib.hid (grownBy_trans Hg6.out hg7)
            clear hr7 hg7
            have hqm : q < (l.map cpF).length := by rw [Hml.out]; exact hql
            obtain ⟨C1, Z1⟩ := Hou7.out.fieldI hqm (j := 0) (by simp [cpF]) (x := l[q].1) (by simp [cpF])
            simp only [Nat.add_zero] at C1 Z1
            have Hset := Lib.hid (Hou7.out.setI (j := 0) Hml.out.symm hqm (by omega) (z - 1))
            obtain ⟨l2, hl2, hl3⟩ := cp_set l hqm (j := 0) (by omega) (z - 1)
            obtain ⟨fq, hrd⟩ := Hset.out.reads
            rw [hl2] at hrd
            have Hrd := Lib.hid hrd; have Hl3 := Lib.hid hl3; clear hrd hl3 hl2 Hset hqm
            have Hbb := Lib.hid (below_of_row' (grown_row' Hg7.out (grownBy_set w7 gu (q * 2 + 0) (.int .i64 (z - 1))) (fun g e => by cases e; omega)) hR1 hz1)
            go_wp2
            go_ret2
            exact CjDraw.mk _ (l2) _ fq rfl Hrd.out (by have := Hl3.out; omega) (Hb1.out.trans Hbb.out)
          have e1' : (s == 1) = false := by rw [beq_eq_false_iff_ne]; exact e1
          by_cases e2 : s = 2
          case pos =>
            subst e2
            go_wp2_with fail
            refine (pick_any R 3 (p + 2) _ (by omega) Hr6.out (by omega)).mono ?_
            rintro e w7 ⟨z, rfl, hz0, hz1', hr7, hg7⟩
            have hs7 := hg7.size
            have Hou7 := Lib.hid ((Hou6.out.same fun g h1 h2 => hg7.block g h2 (fun e => by cases e; omega)).mono hs7)
            have Hg7 := Lib.hid (grownBy_trans Hg6.out hg7)
            clear hr7 hg7
            obtain ⟨fq, hrd⟩ := Hou7.out.reads
            have Hrd := Lib.hid hrd; clear hrd
            have Hbb := Lib.hid (below_of_row' Hg7.out hR1 hz1)
            go_wp2
            go_ret2
            exact CjDraw.mk _ (l) _ fq rfl Hrd.out (by omega) (Hb1.out.trans Hbb.out)
          have e2' : (s == 2) = false := by rw [beq_eq_false_iff_ne]; exact e2
          obtain ⟨fq, hrd⟩ := Hou6.out.reads
          have Hrd := Lib.hid hrd; clear hrd
          have Hbb := Lib.hid (below_of_row' Hg6.out hR1 hz1)
          by_cases e3 : s = 3
          case pos =>
            subst e3
            have hcap : l.length ≤ cu := cps_cap Hrd.out hl0
            obtain ⟨fr, hrr⟩ := cp_cut Hrd.out (k := q) (by omega)
            have Hrr := Lib.hid hrr; clear hrr
            have hlk : (l.take q).length = q := by rw [List.length_take]; omega
            have Hlk := Lib.hid hlk; clear hlk
            have hq2 : q ≤ cu := by omega
            go_wp2
            go_ret2
            exact CjDraw.mk _ (l.take q) _ fr rfl Hrr.out (by have := Hlk.out; omega) (Hb1.out.trans Hbb.out)
          have e3' : (s == 3) = false := by rw [beq_eq_false_iff_ne]; exact e3
          go_wp2
          go_ret2
          exact CjDraw.mk _ (l) _ fq rfl Hrd.out (by omega) (Hb1.out.trans Hbb.out)

end Go.Proofs.Ytkndndcjchlpdab
