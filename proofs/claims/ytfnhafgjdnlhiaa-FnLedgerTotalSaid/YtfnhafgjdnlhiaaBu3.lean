/- Texts that the laws of this folder share, one behind another; no conditions. -/
import Derived.Test.YtfnhafgjdnlhiaaRows
import Derived.Test.YtfnhafgjdnlhiaaBu2
import Derived.Deep.QuietTactic
import Derived.BigQuiet
import Derived.Test.YtfnhafgjdnlhiaaBu0
import Derived.Test.YtfnhafgjdnlhiaaBu1

/- What LedgerRun answers; the reference's LedgerRun, by a walk of its text; condition: the lists are shorter than 2^40. -/
namespace Go.Proofs.Ytfnhafgjdnlhiaa
open Go.RowKit

def ruB (l : List Int) (n : Int) (xs : List Tx) : Bool := roomB l n 16 && decide (xs.length ≤ 16)
def ruL (l : List Int) (n : Int) (xs : List Tx) : List Int := if ruB l n xs then rnL l xs else []
def ruF (l : List Int) (n : Int) (xs : List Tx) : Int := if ruB l n xs then rnF l n xs else 0
def ruO (l : List Int) (n : Int) (xs : List Tx) : List Bool := if ruB l n xs then rnO l xs else []
theorem ru_no {l : List Int} {n : Int} {xs : List Tx} (h : ruB l n xs = false) : ruL l n xs = [] ∧ ruF l n xs = 0 ∧ ruO l n xs = [] := by unfold ruL ruF ruO; rw [h]; exact ⟨rfl, rfl, rfl⟩
theorem ru_yes {l : List Int} {n : Int} {xs : List Tx} (h : ruB l n xs = true) : ruL l n xs = rnL l xs ∧ ruF l n xs = rnF l n xs ∧ ruO l n xs = rnO l xs := by unfold ruL ruF ruO; rw [h]; exact ⟨rfl, rfl, rfl⟩
theorem ru_iff {l : List Int} {n : Int} {xs : List Tx} : ruB l n xs = true ↔ ldB l n = true ∧ n ≤ 5850 ∧ xs.length ≤ 16 := by unfold ruB; rw [Bool.and_eq_true, room_iff, decide_eq_true_eq]; exact ⟨fun ⟨⟨h1, h2⟩, h3⟩ => ⟨h1, by omega, h3⟩, fun ⟨h1, h2, h3⟩ => ⟨⟨h1, by omega⟩, h3⟩⟩
/-- What LedgerRun answers. -/
def RuP (E Eb : TypeId) (w : World) (l : List Int) (n : Int) (xs : List Tx) (e : Ending) (w' : World) : Prop := ∃ v u, e = .returned (.tuple #[.agg #[v, .int .i64 (ruF l n xs)], u]) ∧ Own E w' w.heap.size v (ruL l n xs) ∧ OwnB Eb w' w.heap.size u (ruO l n xs) ∧ Below w.heap.size w w'
theorem RuP.no {E Eb : TypeId} {w w' : World} {l : List Int} {n : Int} {xs : List Tx} {u : Value} (h : ruB l n xs = false) (ho : OwnB Eb w' w.heap.size u []) (hb : Below w.heap.size w w') : RuP E Eb w l n xs (.returned (.tuple #[.agg #[.slice none 0 0, .int .i64 0], u])) w' := by
  obtain ⟨h1, h2, h3⟩ := ru_no h
  unfold RuP; rw [h1, h2, h3]
  exact ⟨_, u, rfl, Own.nil _ _ _, ho, hb⟩
theorem RuP.yes {E Eb : TypeId} {w w' : World} {l : List Int} {n : Int} {xs : List Tx} {v u : Value} (h : ruB l n xs = true) (hv : Own E w' w.heap.size v (rnL l xs)) (ho : OwnB Eb w' w.heap.size u (rnO l xs)) (hb : Below w.heap.size w w') : RuP E Eb w l n xs (.returned (.tuple #[.agg #[v, .int .i64 (rnF l n xs)], u])) w' := by
  obtain ⟨h1, h2, h3⟩ := ru_yes h
  unfold RuP; rw [h1, h2, h3]
  exact ⟨v, u, rfl, hv, ho, hb⟩

set_option maxHeartbeats 4000000 in
theorem spec_LedgerRun (a : Option Addr) (cap : Nat) (l : List Int) (n : Int) (xs : List Tx) (v : Value) (fp : List Nat) (w : World) (hbig : l.length ≤ 1099511627776) (hx : xs.length ≤ 1099511627776) (hi : IntsAt w a l) (hsrc : SrcAt w a cap l) (ht : Txs w xs v fp) :
    Calls Try.prog 10 #[.agg #[.slice a l.length cap, .int .i64 n], v] w (RuP 3 4 w l n xs) := by
  have hno : ∀ (u : Value) (w' : World), ruB l n xs = false → OwnB 4 w' w.heap.size u [] → Below w.heap.size w w' → RuP 3 4 w l n xs (.returned (.tuple #[.agg #[.slice none 0 0, .int .i64 0], u])) w' := fun _ _ h h1 h2 => RuP.no h h1 h2
  have hyes : ∀ (v u : Value) (w' : World), ruB l n xs = true → Own 3 w' w.heap.size v (rnL l xs) → OwnB 4 w' w.heap.size u (rnO l xs) → Below w.heap.size w w' → RuP 3 4 w l n xs (.returned (.tuple #[.agg #[v, .int .i64 (rnF l n xs)], u])) w' := fun _ _ _ h h0 h1 h2 => RuP.yes h h0 h1 h2
  have Hno := Lib.hid hno; have Hyes := Lib.hid hyes; clear hno hyes
  generalize RuP 3 4 w l n xs = POST at *
  obtain ⟨va, vc, rfl, hvc⟩ := ht.slice
  have hb0 : Below w.heap.size w ((w.alloc (.cells #[.slice a l.length cap, .int .i64 n] 25)).alloc (.cells #[.slice none 0 0, .int .i64 0] 25)) := ((Below.refl _ _).alloc (Nat.le_refl _) _).alloc (by simp only [World.size_alloc]; omega) _
  have s1 := (Str.new w 25 #[.slice a l.length cap, .int .i64 n]).alloc (.cells #[.slice none 0 0, .int .i64 0] 25)
  have s2 := Str.new (w.alloc (.cells #[.slice a l.length cap, .int .i64 n] 25)) 25 #[.slice none 0 0, .int .i64 0]
  simp only [World.size_alloc] at s2
  have hz : ((w.alloc (.cells #[.slice a l.length cap, .int .i64 n] 25)).alloc (.cells #[.slice none 0 0, .int .i64 0] 25)).heap.size = w.heap.size + 2 := by simp
  have k0 := s1.cell 0 (v := .slice a l.length cap) rfl
  have k1 := s1.cell 1 (v := .int .i64 n) rfl
  have HT0 := Lib.hid (fun W (hb : Below w.heap.size w W) => Txs.under ht hb); have S1 := Lib.hid s1; have S2 := Lib.hid s2; have Hi := Lib.hid (hi.below hb0); have Hb := Lib.hid hb0; have Hsrc := Lib.hid (hsrc.lies hi hb0)
  clear s1 s2 hi ht hb0 hsrc
  have hR := fun W (h : IntsAt W a l) => spec_l31Room a cap l n 16 W hbig h (by omega)
  have hbr : roomB l n 16 = true ∨ roomB l n 16 = false := by cases roomB l n 16 <;> simp
  go_enter Try.func10, Try.ntmps10
  rcases hbr with hbr | hbr
  case inr =>
    have Hr := Lib.hid (show ruB l n xs = false by unfold ruB; rw [hbr]; rfl)
    rw [hbr] at hR
    clear hbr S1 Hsrc
    have HR := Lib.hid hR; clear hR
    go_wp2_with fail
    generalize ((w.alloc (.cells #[.slice a l.length cap, .int .i64 n] 25)).alloc (.cells #[.slice none 0 0, .int .i64 0] 25)) = W0 at *
    refine (HR.out _ Hi.out).mono ?_
    rintro e w1 ⟨rfl, hb1⟩
    have hs1 := hb1.size
    have Hb := Lib.hid (below_step Hb.out Hb.out.size hb1)
    have S2 := Lib.hid (show Str w1 (w.heap.size + 1) 25 #[.slice none 0 0, .int .i64 0] from (hb1.block _ S2.out.lt).trans S2.out)
    clear hb1 k0 k1
    have hal : Below w1.heap.size w1 (w1.alloc (.cells #[] 4)) := (Below.refl _ _).alloc (Nat.le_refl _) _
    have hbb := ownB_empty 4 w1 (B := w.heap.size + 2) (by omega)
    have Hb := Lib.hid (below_step Hb.out Hb.out.size hal)
    have S2 := Lib.hid (show Str (w1.alloc (.cells #[] 4)) (w.heap.size + 1) 25 #[.slice none 0 0, .int .i64 0] from S2.out.alloc _)
    have KB := Lib.hid hbb; clear hbb hal
    have y0 := S2.out.frozen 0
    have y1 := S2.out.frozen 1
    have q0 := S2.out.cell 0 (v := .slice none 0 0) rfl
    have q1 := S2.out.cell 1 (v := .int .i64 0) rfl
    have sF := (S2.out.set 0 (.slice none 0 0)).set 1 (.int .i64 0)
    have e0 := sF.cell 0 (v := .slice none 0 0) rfl
    have e1 := sF.cell 1 (v := .int .i64 0) rfl
    have hnb : (Value.slice (some ⟨w1.heap.size, 0, none⟩) 0 0).ownBlock ≠ some (w.heap.size + 1) := fun e => by have := (KB.out.lt _ e).1; omega
    have KF := Lib.hid (((KB.out.set_other hnb 0 (.slice none 0 0)).set_other hnb 1 (.int .i64 0)).mono (show w.heap.size ≤ _ by omega))
    have BF := Lib.hid ((Hb.out.setCell (p := ⟨w.heap.size + 1, 0, none⟩) (by simp only; omega) (.slice none 0 0)).setCell (p := ⟨w.heap.size + 1, 1, none⟩) (by simp only; omega) (.int .i64 0))
    clear sF hnb
    go_wp2
    refine bodyPost_ret (v := .tuple #[.agg #[.slice none 0 0, .int .i64 0], .slice (some ⟨w1.heap.size, 0, none⟩) 0 0]) (by simp [results, Try.f10, go_sem, e0, e1]) rfl ?_
    exact Hno.out _ _ Hr.out KF.out BF.out
  rw [hbr] at hR
  by_cases hx16 : xs.length ≤ 16
  case neg =>
    have Hr := Lib.hid (show ruB l n xs = false by unfold ruB; rw [decide_eq_false hx16, Bool.and_false])
    have hd : decide (16 < (xs.length : Int)) = true := decide_eq_true (by omega)
    have hd2 : (16 : Int) < (xs.length : Int) := by omega
    clear hbr S1 Hsrc hx16
    have HR := Lib.hid hR; clear hR
    go_wp2_with fail
    generalize ((w.alloc (.cells #[.slice a l.length cap, .int .i64 n] 25)).alloc (.cells #[.slice none 0 0, .int .i64 0] 25)) = W0 at *
    refine (HR.out _ Hi.out).mono ?_
    rintro e w1 ⟨rfl, hb1⟩
    have hs1 := hb1.size
    have Hb := Lib.hid (below_step Hb.out Hb.out.size hb1)
    have S2 := Lib.hid (show Str w1 (w.heap.size + 1) 25 #[.slice none 0 0, .int .i64 0] from (hb1.block _ S2.out.lt).trans S2.out)
    clear hb1 k0 k1
    have hal : Below w1.heap.size w1 (w1.alloc (.cells #[] 4)) := (Below.refl _ _).alloc (Nat.le_refl _) _
    have hbb := ownB_empty 4 w1 (B := w.heap.size + 2) (by omega)
    have Hb := Lib.hid (below_step Hb.out Hb.out.size hal)
    have S2 := Lib.hid (show Str (w1.alloc (.cells #[] 4)) (w.heap.size + 1) 25 #[.slice none 0 0, .int .i64 0] from S2.out.alloc _)
    have KB := Lib.hid hbb; clear hbb hal
    have y0 := S2.out.frozen 0
    have y1 := S2.out.frozen 1
    have q0 := S2.out.cell 0 (v := .slice none 0 0) rfl
    have q1 := S2.out.cell 1 (v := .int .i64 0) rfl
    have sF := (S2.out.set 0 (.slice none 0 0)).set 1 (.int .i64 0)
    have e0 := sF.cell 0 (v := .slice none 0 0) rfl
    have e1 := sF.cell 1 (v := .int .i64 0) rfl
    have hnb : (Value.slice (some ⟨w1.heap.size, 0, none⟩) 0 0).ownBlock ≠ some (w.heap.size + 1) := fun e => by have := (KB.out.lt _ e).1; omega
    have KF := Lib.hid (((KB.out.set_other hnb 0 (.slice none 0 0)).set_other hnb 1 (.int .i64 0)).mono (show w.heap.size ≤ _ by omega))
    have BF := Lib.hid ((Hb.out.setCell (p := ⟨w.heap.size + 1, 0, none⟩) (by simp only; omega) (.slice none 0 0)).setCell (p := ⟨w.heap.size + 1, 1, none⟩) (by simp only; omega) (.int .i64 0))
    clear sF hnb
    go_wp2
    refine bodyPost_ret (v := .tuple #[.agg #[.slice none 0 0, .int .i64 0], .slice (some ⟨w1.heap.size, 0, none⟩) 0 0]) (by simp [results, Try.f10, go_sem, e0, e1]) rfl ?_
    exact Hno.out _ _ Hr.out KF.out BF.out
  have Hr := Lib.hid (show ruB l n xs = true by unfold ruB; rw [hbr, decide_eq_true hx16]; rfl)
  have hd : decide (16 < (xs.length : Int)) = false := decide_eq_false (by omega)
  have hd2 : ¬ (16 : Int) < (xs.length : Int) := by omega
  obtain ⟨hv, hn⟩ := room_iff.1 hbr
  have HA := Lib.hid (fun W (h : IntsAt W a l) (h2 : SrcAt W a cap l) (h3 : Txs W xs (.slice va xs.length vc) fp) => spec_l31Run a cap l n xs (.slice va xs.length vc) fp W hv hx16 (by omega) h h2 h3)
  unfold RnP at HA
  clear hbr hv hn hx16
  have HR := Lib.hid hR; clear hR
  go_wp2_with fail
  generalize ((w.alloc (.cells #[.slice a l.length cap, .int .i64 n] 25)).alloc (.cells #[.slice none 0 0, .int .i64 0] 25)) = W0 at *
  refine (HR.out _ Hi.out).mono ?_
  rintro e w1 ⟨rfl, hb1⟩
  have hs1 := hb1.size
  have Hb := Lib.hid (below_step Hb.out Hb.out.size hb1)
  have S2 := Lib.hid (show Str w1 (w.heap.size + 1) 25 #[.slice none 0 0, .int .i64 0] from (hb1.block _ S2.out.lt).trans S2.out)
  have S1 := Lib.hid (show Str w1 w.heap.size 25 #[.slice a l.length cap, .int .i64 n] from (hb1.block _ S1.out.lt).trans S1.out)
  have Hsrc := Lib.hid (Hsrc.out.lies Hi.out hb1)
  have Hi := Lib.hid (Hi.out.below hb1)
  have Ht := Lib.hid (HT0.out _ Hb.out)
  clear hb1 k0 k1
  have k0 := S1.out.cell 0 (v := .slice a l.length cap) rfl
  have k1 := S1.out.cell 1 (v := .int .i64 n) rfl
  go_wp2_with fail
  refine (HA.out _ Hi.out Hsrc.out Ht.out).mono ?_
  rintro e w2 ⟨v9, u9, rfl, ho, hk, hb2⟩
  obtain ⟨ua, uc, rfl, _, _⟩ := ho.ints
  obtain ⟨ba, bc, rfl, _⟩ := hk.slice
  have OL := Lib.hid ho; have KL := Lib.hid hk
  have Hb := Lib.hid (below_step Hb.out Hb.out.size hb2)
  have S2 := Lib.hid (show Str w2 (w.heap.size + 1) 25 #[.slice none 0 0, .int .i64 0] from (hb2.block _ S2.out.lt).trans S2.out)
  clear hb2 ho hk k0 k1 S1
  generalize hL : rnL l xs = L at *
  generalize hF : rnF l n xs = m at *
  generalize hO : rnO l xs = bs at *
  skip
  have y0 := S2.out.frozen 0
  have y1 := S2.out.frozen 1
  have q0 := S2.out.cell 0 (v := .slice none 0 0) rfl
  have q1 := S2.out.cell 1 (v := .int .i64 0) rfl
  have hne : (Value.slice ua L.length uc).ownBlock ≠ some (w.heap.size + 1) := fun e => by have := (OL.out.lt _ e).1; omega
  have hnb : (Value.slice ba bs.length bc).ownBlock ≠ some (w.heap.size + 1) := fun e => by have := (KL.out.lt _ e).1; omega
  have sF := (S2.out.set 0 (.slice ua L.length uc)).set 1 (.int .i64 m)
  have e0 := sF.cell 0 (v := .slice ua L.length uc) rfl
  have e1 := sF.cell 1 (v := .int .i64 m) rfl
  have OF := Lib.hid (((OL.out.set_other hne 0 (.slice ua L.length uc)).set_other hne 1 (.int .i64 m)).mono (show w.heap.size ≤ _ by omega))
  have KF := Lib.hid (((KL.out.set_other hnb 0 (.slice ua L.length uc)).set_other hnb 1 (.int .i64 m)).mono (show w.heap.size ≤ _ by omega))
  have BF := Lib.hid ((Hb.out.setCell (p := ⟨w.heap.size + 1, 0, none⟩) (by simp only; omega) (.slice ua L.length uc)).setCell (p := ⟨w.heap.size + 1, 1, none⟩) (by simp only; omega) (.int .i64 m))
  clear sF hne hnb
  go_wp2
  refine bodyPost_ret (v := .tuple #[.agg #[.slice ua L.length uc, .int .i64 m], .slice ba bs.length bc]) (by simp [results, Try.f10, go_sem, e0, e1]) rfl ?_
  exact Hyes.out _ _ _ Hr.out OF.out KF.out BF.out

end Go.Proofs.Ytfnhafgjdnlhiaa

/- The program's LedgerRun, by a walk of its text; condition: the lists are shorter than 2^40. -/
namespace Go.Proofs.Ytfnhafgjdnlhiaa
open Go.RowKit

/-- While transactions are executed: the answer's ledger, the program's ledger (block B) with its balances L and fees m, the outcomes bs. -/
structure Riw (TL LT Eb : TypeId) (w : World) (B : Nat) (L : List Int) (m : Int) (ub : Value) (bs : List Bool) (W : World) : Prop where
  s2 : Str W (w.heap.size + 1) TL #[.slice none 0 0, .int .i64 0]
  lg : Lg LT W B L m
  oks : OwnB Eb W (w.heap.size + 2) ub bs
  nB : ub.ownBlock ≠ some B
  dB : w.heap.size + 2 ≤ B
  bel : Below w.heap.size w W
section
variable {TL LT Eb : TypeId} {w : World} {B : Nat} {L : List Int} {m : Int} {ub : Value} {bs : List Bool} {W W' : World}
theorem Riw.below (h : Riw TL LT Eb w B L m ub bs W) (hb : Below W.heap.size W W') : Riw TL LT Eb w B L m ub bs W' :=
  ⟨(hb.block _ h.s2.lt).trans h.s2, (hb.block _ h.lg.lt).trans h.lg, h.oks.below hb, h.nB, h.dB, below_step h.bel h.bel.size hb⟩
/-- A transaction is executed. -/
theorem Riw.exec (h : Riw TL LT Eb w B L m ub bs W) {L2 : List Int} {m2 : Int} (hs : Lg LT W' B L2 m2) (hg : W.grownBy W' (some B)) : Riw TL LT Eb w B L2 m2 ub bs W' := by
  have hB := h.dB
  exact ⟨h.s2.kept hg (by simp; omega), hs, h.oks.kept hg (.inr h.nB), h.nB, h.dB, h.bel.grown hg h.bel.size (fun g e => by cases e; omega)⟩
/-- An outcome is appended. -/
theorem Riw.push (h : Riw TL LT Eb w B L m ub bs W) {u2 : Value} {bs2 : List Bool} (ho : OwnB Eb W' (w.heap.size + 2) u2 bs2) (hg : W.grownBy W' ub.ownBlock) (hat : u2.ownBlock = ub.ownBlock ∨ ∃ g, u2.ownBlock = some g ∧ W.heap.size ≤ g) : Riw TL LT Eb w B L m u2 bs2 W' := by
  have hB := h.dB; have hl := h.lg.lt
  refine ⟨h.s2.kept hg (fun e => by have := (h.oks.lt _ e.symm).1; omega), Str.kept h.lg hg (fun e => h.nB e.symm), ho, ?_, hB, h.bel.grown hg h.bel.size (fun g e => by have := (h.oks.lt g e).1; omega)⟩
  rcases hat with e | ⟨g, e, h2⟩
  · rw [e]; exact h.nB
  · rw [e]; simp; omega
end

/-- What ledgerForRun answers. -/
def FrP (LT : TypeId) (w : World) (l : List Int) (n : Int) (xs : List Tx) (e : Ending) (w' : World) : Prop := Below w.heap.size w w' ∧
  ((ruB l n xs = false ∧ e = .returned (.tuple #[.pointer none, .bool false])) ∨ (ruB l n xs = true ∧ ∃ B, e = .returned (.tuple #[.pointer (some ⟨B, 0, none⟩), .bool true]) ∧ w.heap.size ≤ B ∧ B < w'.heap.size ∧ Lg LT w' B l n))
set_option maxHeartbeats 4000000 in
theorem lg_forRun (a : Option Addr) (cap : Nat) (l : List Int) (n : Int) (xs : List Tx) (va : Option Addr) (vc : Nat) (w : World) (hbig : l.length ≤ 1099511627776) (hx : xs.length ≤ 1099511627776) (hi : IntsAt w a l) :
    Calls Try.prog 31 #[.agg #[.slice a l.length cap, .int .i64 n], .slice va xs.length vc] w (FrP 69 w l n xs) := by
  have hno : ∀ (w' : World), ruB l n xs = false → Below w.heap.size w w' → FrP 69 w l n xs (.returned (.tuple #[.pointer none, .bool false])) w' := fun _ h h1 => ⟨h1, .inl ⟨h, rfl⟩⟩
  have hyes : ∀ (B : Nat) (w' : World), ruB l n xs = true → w.heap.size ≤ B → B < w'.heap.size → Lg 69 w' B l n → Below w.heap.size w w' → FrP 69 w l n xs (.returned (.tuple #[.pointer (some ⟨B, 0, none⟩), .bool true])) w' := fun B _ h h1 h2 h3 h4 => ⟨h4, .inr ⟨h, B, rfl, h1, h2, h3⟩⟩
  have Hno := Lib.hid hno; have Hyes := Lib.hid hyes; clear hno hyes
  generalize FrP 69 w l n xs = POST at *
  have hb0 : Below w.heap.size w (w.alloc (.cells #[.slice a l.length cap, .int .i64 n] 25)) := (Below.refl _ _).alloc (Nat.le_refl _) _
  have s1 := Str.new w 25 #[.slice a l.length cap, .int .i64 n]
  have k0 := s1.cell 0 (v := .slice a l.length cap) rfl
  have k1 := s1.cell 1 (v := .int .i64 n) rfl
  have Hi := Lib.hid (hi.below hb0); have Hb := Lib.hid hb0
  clear s1 hi hb0
  have hbv : ldB l n = true ∨ ldB l n = false := by cases ldB l n <;> simp
  go_enter Try.func31, Try.ntmps31
  rcases hbv with hbv | hbv
  case inr =>
    have HN := Lib.hid (fun W (h : IntsAt W a l) => lg_ledgerOf_no a cap l n W hbig h hbv)
    have Hr := Lib.hid (show ruB l n xs = false by unfold ruB roomB; rw [hbv]; rfl)
    clear hbv
    go_wp2_with fail
    generalize (w.alloc (.cells #[.slice a l.length cap, .int .i64 n] 25)) = W0 at *
    refine (HN.out _ Hi.out).mono ?_
    rintro e w1 ⟨rfl, hb1⟩
    have Hb := Lib.hid (below_step Hb.out Hb.out.size hb1)
    clear hb1 k0 k1
    go_wp2
    exact Hno.out _ Hr.out Hb.out
  have HY := Lib.hid (fun W (h : IntsAt W a l) => lg_ledgerOf a cap l n W hbig h hbv)
  obtain ⟨-, h6, hn0, hn1⟩ := ldB_iff.1 hbv
  have HP := fun W B (h : Lg 69 W B l n) => lg_hasSpace B l n 16 W ⟨hn0, hn1⟩ (by omega) h
  have Hv := Lib.hid hbv; clear hbv h6
  go_wp2_with fail
  generalize (w.alloc (.cells #[.slice a l.length cap, .int .i64 n] 25)) = W0 at *
  refine (HY.out _ Hi.out).mono ?_
  rintro e w1 ⟨B, rfl, hB1, hB2, hs, hb1⟩
  have hs0 := Hb.out.size
  have Hb := Lib.hid (below_step Hb.out Hb.out.size hb1)
  have S9 := Lib.hid hs
  clear hb1 k0 k1 hs
  by_cases hsp : n ≤ 5850
  case neg =>
    have Hr := Lib.hid (show ruB l n xs = false by unfold ruB roomB; rw [decide_eq_false (show ¬ n ≤ 5994 - 9 * 16 by omega), Bool.and_false]; rfl)
    rw [decide_eq_false (show ¬ n ≤ 5994 - 9 * 16 by omega)] at HP
    have HP := Lib.hid HP
    clear hsp
    go_wp2_with fail
    refine (HP.out _ _ S9.out).mono ?_
    rintro e w2 ⟨rfl, rfl⟩
    go_wp2
    exact Hno.out _ Hr.out Hb.out
  rw [decide_eq_true (show n ≤ 5994 - 9 * 16 by omega)] at HP
  have HP := Lib.hid HP
  by_cases hx16 : xs.length ≤ 16
  case neg =>
    have Hr := Lib.hid (show ruB l n xs = false by unfold ruB; rw [decide_eq_false hx16, Bool.and_false])
    have hd : decide (16 < (xs.length : Int)) = true := decide_eq_true (by omega)
    have hd2 : (16 : Int) < (xs.length : Int) := by omega
    clear hx16 hsp
    go_wp2_with fail
    refine (HP.out _ _ S9.out).mono ?_
    rintro e w2 ⟨rfl, rfl⟩
    go_wp2
    exact Hno.out _ Hr.out Hb.out
  have Hr := Lib.hid (show ruB l n xs = true from ru_iff.2 ⟨Hv.out, hsp, hx16⟩)
  have hd : decide (16 < (xs.length : Int)) = false := decide_eq_false (by omega)
  have hd2 : ¬ (16 : Int) < (xs.length : Int) := by omega
  clear hx16 hsp
  go_wp2_with fail
  refine (HP.out _ _ S9.out).mono ?_
  rintro e w2 ⟨rfl, rfl⟩
  go_wp2
  exact Hyes.out B _ Hr.out (by omega) hB2 S9.out Hb.out

set_option maxHeartbeats 8000000 in
theorem impl_LedgerRun (a : Option Addr) (cap : Nat) (l : List Int) (n : Int) (xs : List Tx) (v : Value) (fp : List Nat) (w : World) (hbig : l.length ≤ 1099511627776) (hx : xs.length ≤ 1099511627776) (hi : IntsAt w a l) (ht : Txs w xs v fp) :
    Calls Try.prog 9 #[.agg #[.slice a l.length cap, .int .i64 n], v] w (RuP 3 4 w l n xs) := by
  have hno : ∀ (u : Value) (w' : World), ruB l n xs = false → OwnB 4 w' w.heap.size u [] → Below w.heap.size w w' → RuP 3 4 w l n xs (.returned (.tuple #[.agg #[.slice none 0 0, .int .i64 0], u])) w' := fun _ _ h h1 h2 => RuP.no h h1 h2
  have hyes : ∀ (v u : Value) (w' : World), ruB l n xs = true → Own 3 w' w.heap.size v (rnL l xs) → OwnB 4 w' w.heap.size u (rnO l xs) → Below w.heap.size w w' → RuP 3 4 w l n xs (.returned (.tuple #[.agg #[v, .int .i64 (rnF l n xs)], u])) w' := fun _ _ _ h h0 h1 h2 => RuP.yes h h0 h1 h2
  have Hno := Lib.hid hno; have Hyes := Lib.hid hyes; clear hno hyes
  generalize RuP 3 4 w l n xs = POST at *
  obtain ⟨va, vc, rfl, hvc⟩ := ht.slice
  have hb0 : Below w.heap.size w ((w.alloc (.cells #[.slice a l.length cap, .int .i64 n] 25)).alloc (.cells #[.slice none 0 0, .int .i64 0] 25)) := ((Below.refl _ _).alloc (Nat.le_refl _) _).alloc (by simp only [World.size_alloc]; omega) _
  have s1 := (Str.new w 25 #[.slice a l.length cap, .int .i64 n]).alloc (.cells #[.slice none 0 0, .int .i64 0] 25)
  have s2 := Str.new (w.alloc (.cells #[.slice a l.length cap, .int .i64 n] 25)) 25 #[.slice none 0 0, .int .i64 0]
  simp only [World.size_alloc] at s2
  have hz : ((w.alloc (.cells #[.slice a l.length cap, .int .i64 n] 25)).alloc (.cells #[.slice none 0 0, .int .i64 0] 25)).heap.size = w.heap.size + 2 := by simp
  have k0 := s1.cell 0 (v := .slice a l.length cap) rfl
  have k1 := s1.cell 1 (v := .int .i64 n) rfl
  have HT0 := Lib.hid (fun W (hb : Below w.heap.size w W) => Txs.under ht hb); have S1 := Lib.hid s1; have S2 := Lib.hid s2; have Hi := Lib.hid (hi.below hb0); have Hb := Lib.hid hb0
  clear s1 s2 hi ht hb0
  have hal : Below ((w.alloc (.cells #[.slice a l.length cap, .int .i64 n] 25)).alloc (.cells #[.slice none 0 0, .int .i64 0] 25)).heap.size ((w.alloc (.cells #[.slice a l.length cap, .int .i64 n] 25)).alloc (.cells #[.slice none 0 0, .int .i64 0] 25)) (((w.alloc (.cells #[.slice a l.length cap, .int .i64 n] 25)).alloc (.cells #[.slice none 0 0, .int .i64 0] 25)).alloc (.cells #[] 4)) := (Below.refl _ _).alloc (Nat.le_refl _) _
  have hbb := ownB_empty 4 ((w.alloc (.cells #[.slice a l.length cap, .int .i64 n] 25)).alloc (.cells #[.slice none 0 0, .int .i64 0] 25)) (B := w.heap.size + 2) (by omega)
  rw [hz] at hbb
  have Hb := Lib.hid (below_step Hb.out Hb.out.size hal)
  have S2 := Lib.hid (show Str (((w.alloc (.cells #[.slice a l.length cap, .int .i64 n] 25)).alloc (.cells #[.slice none 0 0, .int .i64 0] 25)).alloc (.cells #[] 4)) (w.heap.size + 1) 25 #[.slice none 0 0, .int .i64 0] from S2.out.alloc _)
  have S1 := Lib.hid (show Str (((w.alloc (.cells #[.slice a l.length cap, .int .i64 n] 25)).alloc (.cells #[.slice none 0 0, .int .i64 0] 25)).alloc (.cells #[] 4)) w.heap.size 25 #[.slice a l.length cap, .int .i64 n] from S1.out.alloc _)
  have Hi := Lib.hid (Hi.out.below hal)
  have hz3 : (((w.alloc (.cells #[.slice a l.length cap, .int .i64 n] 25)).alloc (.cells #[.slice none 0 0, .int .i64 0] 25)).alloc (.cells #[] 4)).heap.size = w.heap.size + 3 := by simp
  have KB := Lib.hid hbb; clear hbb hal k0 k1
  have k0 := S1.out.cell 0 (v := .slice a l.length cap) rfl
  have k1 := S1.out.cell 1 (v := .int .i64 n) rfl
  clear S1
  have HF := Lib.hid (fun W (h : IntsAt W a l) => lg_forRun a cap l n xs va vc W hbig hx h)
  go_enter Try.func9, Try.ntmps9
  go_wp2_with fail
  generalize (((w.alloc (.cells #[.slice a l.length cap, .int .i64 n] 25)).alloc (.cells #[.slice none 0 0, .int .i64 0] 25)).alloc (.cells #[] 4)) = W0 at *
  refine (HF.out _ Hi.out).mono ?_
  rintro e w1 ⟨hb1, ⟨hr0, rfl⟩ | ⟨hr0, B, rfl, hB1, hB2, hs⟩⟩
  case inl =>
    have Hr := Lib.hid hr0
    have Hb := Lib.hid (below_step Hb.out Hb.out.size hb1)
    have S2 := Lib.hid (show Str w1 (w.heap.size + 1) 25 #[.slice none 0 0, .int .i64 0] from (hb1.block _ S2.out.lt).trans S2.out)
    have KB := Lib.hid (KB.out.below hb1)
    clear hb1 k0 k1 hr0
    have y0 := S2.out.frozen 0
    have y1 := S2.out.frozen 1
    have q0 := S2.out.cell 0 (v := .slice none 0 0) rfl
    have q1 := S2.out.cell 1 (v := .int .i64 0) rfl
    have sF := (S2.out.set 0 (.slice none 0 0)).set 1 (.int .i64 0)
    have e0 := sF.cell 0 (v := .slice none 0 0) rfl
    have e1 := sF.cell 1 (v := .int .i64 0) rfl
    have hnb : (Value.slice (some ⟨w.heap.size + 2, 0, none⟩) 0 0).ownBlock ≠ some (w.heap.size + 1) := fun e => by have := (KB.out.lt _ e).1; omega
    have KF := Lib.hid (((KB.out.set_other hnb 0 (.slice none 0 0)).set_other hnb 1 (.int .i64 0)).mono (show w.heap.size ≤ _ by omega))
    have BF := Lib.hid ((Hb.out.setCell (p := ⟨w.heap.size + 1, 0, none⟩) (by simp only; omega) (.slice none 0 0)).setCell (p := ⟨w.heap.size + 1, 1, none⟩) (by simp only; omega) (.int .i64 0))
    clear sF hnb
    go_wp2
    refine bodyPost_ret (v := .tuple #[.agg #[.slice none 0 0, .int .i64 0], .slice (some ⟨w.heap.size + 2, 0, none⟩) 0 0]) (by simp [results, Try.f9, go_sem, e0, e1]) rfl ?_
    exact Hno.out _ _ Hr.out KF.out BF.out
  obtain ⟨hbv, hsp, hx16⟩ := ru_iff.1 hr0
  obtain ⟨-, h6, hn0, hn1⟩ := ldB_iff.1 hbv
  have H6 := Lib.hid h6; have Hv := Lib.hid hbv; have Hr := Lib.hid hr0
  have HVk := Lib.hid (fun k (h : k ≤ xs.length) => rn_ok Hv.out (show n + 9 * (xs.length : Int) ≤ 5994 by omega) k h)
  have Hb := Lib.hid (below_step Hb.out Hb.out.size hb1)
  have S2 := Lib.hid (show Str w1 (w.heap.size + 1) 25 #[.slice none 0 0, .int .i64 0] from (hb1.block _ S2.out.lt).trans S2.out)
  have KB := Lib.hid (KB.out.below hb1)
  have S9 := Lib.hid hs
  have hB3 : w.heap.size + 3 ≤ B := by omega
  have hd2 : ¬ (16 : Int) < (xs.length : Int) := by omega
  clear hb1 k0 k1 hs h6 hr0 hbv hn0 hn1 hsp hx16
  have HR := Lib.hid (show Riw 25 69 4 w B l n (.slice (some ⟨w.heap.size + 2, 0, none⟩) 0 0) [] w1 from ⟨S2.out, S9.out, KB.out, (by simp [Value.ownBlock]; omega), by omega, Hb.out⟩)
  have Ht := Lib.hid (HT0.out _ Hb.out)
  clear S2 S9 KB Hb Hi
  go_wp2
  have hL0 : rnL l (xs.take 0) = l := rfl
  have hF0 : rnF l n (xs.take 0) = n := rfl
  have hO0 : rnO l (xs.take 0) = [] := rfl
  generalize ([] : List Bool) = B0 at *
  go_loopw [6, 24] (fun u i wr => ∃ k : Nat, k ≤ xs.length ∧ i = .int .i64 k ∧ Riw 25 69 4 w B (rnL l (xs.take k)) (rnF l n (xs.take k)) u (rnO l (xs.take k)) wr) (fun _ i _ => xs.length - (intOf i).toNat)
  case atStart => exact ⟨0, by omega, rfl, by rw [hL0, hF0, hO0]; exact HR.out⟩
  case round =>
    clear HR Ht hL0 hF0 hO0
    obtain ⟨k, hk, rfl, hr⟩ := hrel
    obtain ⟨ba, bc, rfl, _⟩ := hr.oks.slice
    have HR := Lib.hid hr; clear hr
    have Hol := Lib.hid (show (rnO l (xs.take k)).length = k by rw [(rn_len _ _).2, List.length_take]; omega)
    have Hvk := Lib.hid (HVk.out k hk)
    have HLk := Lib.hid (show (rnL l (xs.take k)).length = l.length from (rn_len _ _).1)
    by_cases hlt : k < xs.length
    case pos =>
      have Htk := Lib.hid (rn_take hlt l n)
      have hlt' : (k : Int) < (xs.length : Int) := by omega
      have Ht := Lib.hid (HT0.out _ HR.out.bel)
      obtain ⟨tb, toff, rfl, htb, hcc⟩ := Ht.out.at (by omega)
      have hck := hcc k hlt
      clear hcc
      obtain ⟨L, hL⟩ : ∃ L, L = rnL l (xs.take k) := ⟨_, rfl⟩
      obtain ⟨m, hm⟩ : ∃ m, m = rnF l n (xs.take k) := ⟨_, rfl⟩
      obtain ⟨bs, hbs⟩ : ∃ bs, bs = rnO l (xs.take k) := ⟨_, rfl⟩
      rw [← hL, ← hm, ← hbs] at HR
      rw [← hL, ← hm] at Hvk
      rw [← hbs] at Hol
      rw [← hbs]
      rw [← hL, ← hm, ← hbs] at Htk
      clear hL hm hbs HLk
      have HE := Lib.hid (fun W (h : Lg 69 W B L m) => lg_execute B L m xs[k] W Hvk.out h)
      unfold agT at HE
      generalize xs[k] = x at *
      obtain ⟨c0, c1, c2, c3⟩ := hck
      have hal : Below wr.heap.size wr (wr.alloc (.cells #[.int .i64 x.f, .int .i64 x.t, .int .i64 x.s, .int .i64 x.e] 41)) := (Below.refl _ _).alloc (Nat.le_refl _) _
      have SX := Lib.hid (Str.new wr 41 #[.int .i64 x.f, .int .i64 x.t, .int .i64 x.s, .int .i64 x.e])
      have HR := Lib.hid (HR.out.below hal)
      clear hal
      have x0 := SX.out.cell 0 (v := .int .i64 x.f) rfl
      have x1 := SX.out.cell 1 (v := .int .i64 x.t) rfl
      have x2 := SX.out.cell 2 (v := .int .i64 x.s) rfl
      have x3 := SX.out.cell 3 (v := .int .i64 x.e) rfl
      go_wp2_with fail
      generalize (wr.alloc (.cells #[.int .i64 x.f, .int .i64 x.t, .int .i64 x.s, .int .i64 x.e] 41)) = wx at *
      clear c0 c1 c2 c3 x0 x1 x2 x3
      refine (HE.out _ HR.out.lg).mono ?_
      rintro e w5 ⟨rfl, hs5, hg5⟩
      have HR := Lib.hid (HR.out.exec hs5 hg5)
      clear hs5 hg5
      have hol : bs.length ≤ 1048576 := by have := Hol.out; omega
      have hsz : w.heap.size + 2 ≤ w5.heap.size := by have := HR.out.lg.lt; have := HR.out.dB; omega
      go_wp2_with (at_builtin; refine wpList_push_b TBo rfl (.tmp 28) (.tmp 32) rfl (w.heap.size + 2) (.slice ba bs.length bc) bs (okT L x) rfl HR.out.oks hol rfl hsz ?_; intro v6 w6 hown6 hg6 hloc6)
      obtain ⟨ba6, bc6, rfl, _⟩ := hown6.slice
      have HR := Lib.hid (HR.out.push hown6 hg6 hloc6)
      clear hown6 hg6 hloc6
      go_wp2
      go_roundw
      case rel => exact ⟨k + 1, by omega, by go_num, by rw [Htk.out.1, Htk.out.2.1, Htk.out.2.2]; exact HR.out⟩
      case measure => simp [intOf]; omega
    case neg =>
      have e : xs.take k = xs := List.take_of_length_le (by omega)
      have hlt' : ¬ (k : Int) < (xs.length : Int) := by omega
      have hR := HR.out; have hLk := HLk.out
      rw [e] at hR hLk ⊢
      have HR := Lib.hid hR; clear hR Hol Hvk e HLk
      have HC := Lib.hid (fun W (h : Lg 69 W B (rnL l xs) (rnF l n xs)) => lg_copied B (rnL l xs) (rnF l n xs) W (hLk.trans H6.out) h)
      clear hLk
      go_wp2_with fail
      refine (HC.out _ HR.out.lg).mono ?_
      rintro e w3 ⟨v, rfl, ho, hb3⟩
      obtain ⟨ua, uc, rfl, _, _⟩ := ho.ints
      have hsw : w.heap.size + 2 ≤ wr.heap.size := by have := HR.out.lg.lt; have := HR.out.dB; omega
      have OL := Lib.hid (ho.mono hsw)
      have HR := Lib.hid (HR.out.below hb3)
      have S2 := Lib.hid HR.out.s2; have KL := Lib.hid HR.out.oks; have Hb := Lib.hid HR.out.bel
      clear hb3 ho HR HC HVk
      generalize hL : rnL l xs = L at *
      generalize hF : rnF l n xs = m at *
      generalize hO : rnO l xs = bs at *
      skip
      have y0 := S2.out.frozen 0
      have y1 := S2.out.frozen 1
      have q0 := S2.out.cell 0 (v := .slice none 0 0) rfl
      have q1 := S2.out.cell 1 (v := .int .i64 0) rfl
      have hne : (Value.slice ua L.length uc).ownBlock ≠ some (w.heap.size + 1) := fun e => by have := (OL.out.lt _ e).1; omega
      have hnb : (Value.slice ba bs.length bc).ownBlock ≠ some (w.heap.size + 1) := fun e => by have := (KL.out.lt _ e).1; omega
      have sF := (S2.out.set 0 (.slice ua L.length uc)).set 1 (.int .i64 m)
      have e0 := sF.cell 0 (v := .slice ua L.length uc) rfl
      have e1 := sF.cell 1 (v := .int .i64 m) rfl
      have OF := Lib.hid (((OL.out.set_other hne 0 (.slice ua L.length uc)).set_other hne 1 (.int .i64 m)).mono (show w.heap.size ≤ _ by omega))
      have KF := Lib.hid (((KL.out.set_other hnb 0 (.slice ua L.length uc)).set_other hnb 1 (.int .i64 m)).mono (show w.heap.size ≤ _ by omega))
      have BF := Lib.hid ((Hb.out.setCell (p := ⟨w.heap.size + 1, 0, none⟩) (by simp only; omega) (.slice ua L.length uc)).setCell (p := ⟨w.heap.size + 1, 1, none⟩) (by simp only; omega) (.int .i64 m))
      clear sF hne hnb
      go_wp2
      refine bodyPost_ret (v := .tuple #[.agg #[.slice ua L.length uc, .int .i64 m], .slice ba bs.length bc]) (by simp [results, Try.f9, go_sem, e0, e1]) rfl ?_
      exact Hyes.out _ _ _ Hr.out OF.out KF.out BF.out

end Go.Proofs.Ytfnhafgjdnlhiaa

/- Two equal ledgers are found equal (laws.sameLedger), by a walk of its text; condition: the list is shorter than 2^40. -/
namespace Go.Proofs.Ytfnhafgjdnlhiaa
open Go.RowKit

set_option maxHeartbeats 1000000 in
theorem laws_sameLedger (a a' : Option Addr) (cap cap' : Nat) (l : List Int) (n : Int) (w : World) (hbig : l.length ≤ 1099511627776) (hi : IntsAt w a l) (hi' : IntsAt w a' l) :
    Calls Try.prog 11 #[.agg #[.slice a l.length cap, .int .i64 n], .agg #[.slice a' l.length cap', .int .i64 n]] w fun e w' => e = .returned (.bool true) ∧ Below w.heap.size w w' := by
  have hb0 : Below w.heap.size w ((w.alloc (.cells #[.slice a l.length cap, .int .i64 n] 25)).alloc (.cells #[.slice a' l.length cap', .int .i64 n] 25)) := ((Below.refl _ _).alloc (Nat.le_refl _) _).alloc (by simp only [World.size_alloc]; omega) _
  have s1 := (Str.new w 25 #[.slice a l.length cap, .int .i64 n]).alloc (.cells #[.slice a' l.length cap', .int .i64 n] 25)
  have s2 := Str.new (w.alloc (.cells #[.slice a l.length cap, .int .i64 n] 25)) 25 #[.slice a' l.length cap', .int .i64 n]
  simp only [World.size_alloc] at s2
  have k0 := s1.cell 0 (v := .slice a l.length cap) rfl
  have k1 := s1.cell 1 (v := .int .i64 n) rfl
  have j0 := s2.cell 0 (v := .slice a' l.length cap') rfl
  have j1 := s2.cell 1 (v := .int .i64 n) rfl
  have hi0 := hi.below hb0
  have hi1 := hi'.below hb0
  have Hb := Lib.hid hb0; have I0 := Lib.hid hi0; have I1 := Lib.hid hi1
  clear hb0 s1 s2 hi hi' hi0 hi1
  have he : (n == n) = true := by simp
  go_enter Try.func11, Try.ntmps11
  go_wp2_with fail
  generalize ((w.alloc (.cells #[.slice a l.length cap, .int .i64 n] 25)).alloc (.cells #[.slice a' l.length cap', .int .i64 n] 25)) = W0 at *
  refine (laws_sameInts' a a' cap cap' l W0 hbig I0.out I1.out).mono ?_
  rintro e w1 ⟨rfl, hd⟩
  have Hb := Lib.hid (Hb.out.trans (hd.below _))
  clear hd k0 k1 j0 j1
  go_wp2
  go_ret
  exact ⟨rfl, Hb.out⟩

end Go.Proofs.Ytfnhafgjdnlhiaa

/- Plain facts on runs for the laws; nothing here is walked. -/
namespace Go.Proofs.Ytfnhafgjdnlhiaa
open Go.RowKit

theorem ru_len (l : List Int) (n : Int) (xs : List Tx) : (ruL l n xs).length ≤ 6 := by
  unfold ruL; split
  · rename_i h
    rw [(rn_len _ _).1, (ldB_iff.1 (ru_iff.1 h).1).2.1]; exact Nat.le_refl 6
  · simp
theorem ru_lenO (l : List Int) (n : Int) (xs : List Tx) : (ruO l n xs).length ≤ 16 := by
  unfold ruO; split
  · rename_i h
    rw [(rn_len _ _).2]; exact (ru_iff.1 h).2.2
  · simp
/-- The transactions of a first part that succeed. -/
theorem suc_take {xs : List Tx} {k : Nat} (hk : k < xs.length) : ∀ (l : List Int), sucL l (xs.take (k + 1)) = sucL l (xs.take k) ++ (if okT (rnL l (xs.take k)) xs[k] then [xs[k]] else []) := by
  induction xs generalizing k with
  | nil => exact absurd hk (by simp)
  | cons x xs ih =>
    intro l
    cases k with
    | zero =>
      simp only [List.take_succ_cons, List.take_zero, sucL, rnL, List.getElem_cons_zero]
      split <;> rfl
    | succ k =>
      have hk' : k < xs.length := by simpa using hk
      simp only [List.take_succ_cons, sucL, rnL, List.getElem_cons_succ]
      cases ho : okT l x with
      | false => rw [(ap_no (n := 0) ho).1]; exact ih hk' l
      | true =>
        have := ih hk' (apL l x)
        simp only [if_true, List.cons_append]
        rw [this]
theorem suc_len : ∀ (xs : List Tx) (l : List Int), (sucL l xs).length ≤ xs.length
  | [], _ => by simp [sucL]
  | x :: xs, l => by
    have h1 := suc_len xs (apL l x)
    have h2 := suc_len xs l
    rw [sucL]; split <;> simp <;> omega
theorem ru_suc {l : List Int} {n : Int} {xs : List Tx} (h : ruB l n xs = true) : ruL l n (sucL l xs) = rnL l xs ∧ ruF l n (sucL l xs) = rnF l n xs ∧ ∀ b ∈ ruO l n (sucL l xs), b = true := by
  obtain ⟨h1, h2, h3⟩ := ru_iff.1 h
  have hr : ruB l n (sucL l xs) = true := ru_iff.2 ⟨h1, h2, Nat.le_trans (suc_len xs l) h3⟩
  obtain ⟨e1, e2, e3⟩ := ru_yes hr
  obtain ⟨s1, s2, s3⟩ := suc_run xs l n
  rw [e1, e2, e3]
  exact ⟨s1, s2, s3⟩
theorem rnO_at : ∀ (xs : List Tx) (l : List Int) (k : Nat) (h : k < (rnO l xs).length) (h' : k < xs.length), (rnO l xs)[k] = okT (rnL l (xs.take k)) xs[k]
  | x :: xs, l, 0, _, _ => rfl
  | x :: xs, l, k + 1, h, h' => by
    have := rnO_at xs (apL l x) k (by simpa [rnO] using h) (by simpa using h')
    simpa [rnO, rnL] using this
/-- A run in two parts. -/
theorem ru_parts {l : List Int} {n : Int} {xs : List Tx} (h : ruB l n xs = true) (k : Nat) (hk : k ≤ xs.length) :
    ruB l n (xs.take k) = true ∧ ldB (rnL l (xs.take k)) (rnF l n (xs.take k)) = true ∧ rnL (rnL l (xs.take k)) (xs.drop k) = rnL l xs ∧ rnF (rnL l (xs.take k)) (rnF l n (xs.take k)) (xs.drop k) = rnF l n xs ∧ rnO l (xs.take k) ++ rnO (rnL l (xs.take k)) (xs.drop k) = rnO l xs := by
  obtain ⟨h1, h2, h3⟩ := ru_iff.1 h
  obtain ⟨a1, a2, a3⟩ := rn_app (xs.take k) (xs.drop k) l n
  rw [List.take_append_drop] at a1 a2 a3
  have hl : (xs.take k).length ≤ xs.length := by rw [List.length_take]; omega
  exact ⟨ru_iff.2 ⟨h1, h2, by omega⟩, rn_valid _ _ _ h1 (by omega), a1.symm, a2.symm, a3.symm⟩

end Go.Proofs.Ytfnhafgjdnlhiaa

/- The state of the law that runs transaction by transaction; general steps, nothing here speaks of the program but types. -/
namespace Go.Proofs.Ytfnhafgjdnlhiaa
open Go.RowKit

/-- x (block O) with its list L and fees m; out (block Bo) with its list G and fees F; the outcomes; the transactions. -/
structure Lsw (TL E Eb : TypeId) (w : World) (O Bo : Nat) (ua : Option Addr) (uc : Nat) (L : List Int) (m : Int) (va : Option Addr) (vc : Nat) (G : List Int) (F : Int) (ub : Value) (Ko : List Bool) (vx : Value) (xs : List Tx) (fx : List Nat) (W : World) : Prop where
  sx : Str W O TL #[.slice ua L.length uc, .int .i64 m]
  own : Own E W w.heap.size (.slice ua L.length uc) L
  so : Str W Bo TL #[.slice va G.length vc, .int .i64 F]
  ow : Own E W w.heap.size (.slice va G.length vc) G
  ob : OwnB Eb W w.heap.size ub Ko
  tx : Txs W xs vx fx
  nO : (Value.slice ua L.length uc).ownBlock ≠ some O
  n1 : O ≠ Bo
  n2 : (Value.slice va G.length vc).ownBlock ≠ some O
  n3 : ub.ownBlock ≠ some O
  nt : O ∉ fx
  dO : w.heap.size ≤ O
  bel : Below w.heap.size w W
section
variable {TL E Eb : TypeId} {w : World} {O Bo : Nat} {ua : Option Addr} {uc : Nat} {L : List Int} {m : Int} {va : Option Addr} {vc : Nat} {G : List Int} {F : Int} {ub : Value} {Ko : List Bool} {vx : Value} {xs : List Tx} {fx : List Nat} {W W' : World}
theorem Lsw.below (h : Lsw TL E Eb w O Bo ua uc L m va vc G F ub Ko vx xs fx W) (hb : Below W.heap.size W W') : Lsw TL E Eb w O Bo ua uc L m va vc G F ub Ko vx xs fx W' :=
  ⟨(hb.block _ h.sx.lt).trans h.sx, h.own.below hb, (hb.block _ h.so.lt).trans h.so, h.ow.below hb, h.ob.below hb, h.tx.under hb, h.nO, h.n1, h.n2, h.n3, h.nt, h.dO, below_step h.bel h.bel.size hb⟩
/-- A cell of a block that holds none of these is set. -/
theorem Lsw.other (h : Lsw TL E Eb w O Bo ua uc L m va vc G F ub Ko vx xs fx W) {B : Nat} (hB : w.heap.size ≤ B) (h1 : B ≠ O) (h2 : B ≠ Bo) (h3 : (Value.slice ua L.length uc).ownBlock ≠ some B) (h4 : (Value.slice va G.length vc).ownBlock ≠ some B) (h5 : ub.ownBlock ≠ some B) (h6 : B ∉ fx) (j : Nat) (v : Value) :
    Lsw TL E Eb w O Bo ua uc L m va vc G F ub Ko vx xs fx (W.setCell ⟨B, j, none⟩ v) :=
  ⟨h.sx.other (Ne.symm h1) _ _, h.own.set_other h3 _ _, h.so.other (Ne.symm h2) _ _, h.ow.set_other h4 _ _, h.ob.set_other h5 _ _, Rd.grown (grownBy_set W B j v) h.tx (fun r e => by cases e; exact h6), h.nO, h.n1, h.n2, h.n3, h.nt, h.dO, h.bel.setCell (p := ⟨B, j, none⟩) hB _⟩
/-- 'x = y'. -/
theorem Lsw.move (h : Lsw TL E Eb w O Bo ua uc L m va vc G F ub Ko vx xs fx W) {ga : Option Addr} {gc : Nat} {L2 : List Int} {m2 : Int} (ho : Own E W w.heap.size (.slice ga L2.length gc) L2) (hn : (Value.slice ga L2.length gc).ownBlock ≠ some O) :
    Lsw TL E Eb w O Bo ga gc L2 m2 va vc G F ub Ko vx xs fx ((W.setCell ⟨O, 0, none⟩ (.slice ga L2.length gc)).setCell ⟨O, 1, none⟩ (.int .i64 m2)) :=
  ⟨(h.sx.set 0 _).set 1 _, (ho.set_other hn _ _).set_other hn _ _, (h.so.other (Ne.symm h.n1) _ _).other (Ne.symm h.n1) _ _, (h.ow.set_other h.n2 _ _).set_other h.n2 _ _, (h.ob.set_other h.n3 _ _).set_other h.n3 _ _,
    Rd.grown (grownBy_set _ O 1 _) (Rd.grown (grownBy_set W O 0 _) h.tx (fun r e => by cases e; exact h.nt)) (fun r e => by cases e; exact h.nt), hn, h.n1, h.n2, h.n3, h.nt, h.dO, (h.bel.setCell (p := ⟨O, 0, none⟩) h.dO _).setCell (p := ⟨O, 1, none⟩) h.dO _⟩
theorem Lsw.fresh (h : Lsw TL E Eb w O Bo ua uc L m va vc G F ub Ko vx xs fx W) {X : Nat} (hX : W.heap.size ≤ X) : w.heap.size ≤ X ∧ X ≠ O ∧ X ≠ Bo ∧ (Value.slice ua L.length uc).ownBlock ≠ some X ∧ (Value.slice va G.length vc).ownBlock ≠ some X ∧ ub.ownBlock ≠ some X ∧ X ∉ fx := by
  have h1 := h.sx.lt; have h2 := h.so.lt; have h3 := h.bel.size
  exact ⟨by omega, by omega, by omega, fun e => by have := (h.own.lt _ e).2; omega, fun e => by have := (h.ow.lt _ e).2; omega, fun e => by have := (h.ob.lt _ e).2; omega, fun hm => by have := Rd.lt h.tx _ hm; omega⟩
end

end Go.Proofs.Ytfnhafgjdnlhiaa

/- A list of transactions in two parts; appends of lists of truth values; general steps, nothing here speaks of the program but types. -/
namespace Go.Proofs.Ytfnhafgjdnlhiaa
open Go.RowKit

theorem tx_drop {w : World} {l : List Tx} {va : Option Addr} {vc : Nat} {fp : List Nat} (h : Txs w l (.slice va l.length vc) fp) {k : Nat} (hk : k ≤ l.length) : ∃ fr, Txs w (l.drop k) (.slice (if vc = k then va else va.map (·.add (k * 4))) (l.drop k).length (vc - k)) fr := by
  rw [List.length_drop]
  by_cases h0 : l.length = 0
  · obtain rfl : l = [] := List.eq_nil_of_length_eq_zero h0
    have hk0 : k = 0 := by simpa using hk
    subst hk0
    refine ⟨[], .nil _ _ fun e => ?_⟩
    have hn : va = none := by
      by_cases hc : vc = 0
      · rwa [if_pos hc] at e
      · rw [if_neg hc] at e; cases va with
        | none => rfl
        | some q => simp at e
    subst hn
    have := Rd.nilcap h
    omega
  · obtain ⟨b, off, rfl, _⟩ := h.at (by omega)
    have hrow : ∀ e ∈ (l.map txF).map (fun e => e.map Fd.dt), e.length = 4 := by
      intro e he
      rw [List.map_map] at he
      obtain ⟨x, _, rfl⟩ := List.mem_map.1 he
      rfl
    have hz : ((l.map txF).map fun e => e.map Fd.dt).length = l.length := by simp
    obtain ⟨o2, ho, fr, hr, _⟩ := Rd.tail (g := b) (off := off) (n := l.length) (cap := vc) h hrow k (by omega)
    refine ⟨fr, ?_⟩
    have e1 : (if vc = k then some (⟨b, off, none⟩ : Addr) else (some ⟨b, off, none⟩ : Option Addr).map (·.add (k * 4))) = some ⟨b, o2, none⟩ := by
      rw [← ho]; simp only [Option.map_some, addr_add']
    rw [e1, show l.length - k = ((l.map txF).map fun e => e.map Fd.dt).length - k by rw [hz]]
    unfold Txs rowsD
    rw [List.map_drop, List.map_drop]
    exact hr
theorem tx_parts {w : World} {l : List Tx} {va : Option Addr} {vc : Nat} {fp : List Nat} (h : Txs w l (.slice va l.length vc) fp) (hc : l.length ≤ vc) {k : Nat} (hk : k ≤ l.length) :
    (∀ W, (Instr.slice 26 (.slice va l.length vc) none (some (.int .i64 k)) none).run Try.prog W = .ok (.slice va (l.take k).length vc) W) ∧ (∃ fq, Txs w (l.take k) (.slice va (l.take k).length vc) fq) ∧
    ∃ ad ac fr, (∀ W, (Instr.slice 26 (.slice va l.length vc) (some (.int .i64 k)) none none).run Try.prog W = .ok (.slice ad (l.drop k).length ac) W) ∧ Txs w (l.drop k) (.slice ad (l.drop k).length ac) fr := by
  obtain ⟨fr, hr⟩ := tx_drop h hk
  have ht : Try.prog.underlying 26 = some (.slice (Try.prog.elem 26)) := by kernel_rfl
  have hs : ∀ W, (sizeOf (Try.prog.elem 26)).run Try.prog W = .ok 4 W := fun W => by kernel_rfl
  refine ⟨((tsrc_of h).parts hc hk).1, tx_cut h hk, _, _, fr, fun W => ?_, hr⟩
  rw [run_slice_l (ht := ht) (h0 := by omega) (h1 := by omega), hs]
  simp only [Result.andThen, sliced, Int.toNat_natCast, List.length_drop]
/-- 'append(s, t...)'. -/
theorem wpList_app_b {P : Program} {T E : TypeId} (hT : BoolT P T E) {w : World} {ops : Array Oper} {rest : List Oper} {o : Oper} {a : Act} {Q : Exit → Act → World → Prop} (hgd : Region.wanted o (yielded ops a.tmps) = true) (s x : Operand)
    (ho : o.op = .call { callee := .builtin .append, args := #[s, x], argTypes := #[T, T] }) (B B2 : Nat) (v t : Value) (bs cs : List Bool) (hs : a.eval s = v) (hown : OwnB E w B v bs) (hx : a.eval x = t) (hsrc : OwnB E w B2 t cs)
    (hlen : bs.length + cs.length ≤ 1048577) (hB : B ≤ w.heap.size)
    (h : ∀ v' w', OwnB E w' B v' (bs ++ cs) → w.grownBy w' v.ownBlock → wpList P ops Q rest (a.put o.dst v') w') : wpList P ops Q (o :: rest) a w := by
  refine wpList_want hgd fun K hK => ?_
  obtain ⟨i, hi, hz, hsz, hby⟩ := info_parts hT.info
  have run : ∃ v' w', (Builtin.append_ #[T, T] o.type #[v, t]).run P w = .ok v' w' ∧ OwnB E w' B v' (bs ++ cs) ∧ w.grownBy w' v.ownBlock := by
    rcases hsrc.2 with ⟨rfl, h0⟩ | ⟨g, cap, cur, rfl, hb, hg, hn, hm, hsz2, ht⟩
    · have : cs = [] := List.eq_nil_of_length_eq_zero h0
      subst this
      exact ⟨v, w, run_append_owned_none (P := P) (w := w) B T o.type E i 1 hT.sl hi v bs.length _ hown, by simpa using hown, World.grownBy.refl _ _⟩
    · obtain ⟨v', w', h1, h2, h3, _, _⟩ := run_append_own_at (P := P) w B T o.type E i (.bool false) 1 1 hT.sl hi hz hsz hby rfl (by decide) v bs.length _ hown ⟨g, 0, none⟩ cs.length cap (cs.map Value.bool) (by simp)
        (fun j u hj => World.ownsRow.cells (w := w) (base := B2) (e := E) (size := 1) (v := .slice (some ⟨g, 0, none⟩) cs.length cap) (n := cs.length) (xs := cs.map Value.bool) hsrc (g := g) rfl j u hj) (by intro u hu; simp at hu; rcases hu with ⟨_, rfl⟩ | ⟨_, rfl⟩ <;> rfl) (by unfold maxLen; omega) (by omega) hB
      exact ⟨v', w', h1, by unfold OwnB; rw [List.map_append, List.length_append]; exact h2, h3⟩
  obtain ⟨v', w', hrun, h1, hg⟩ := run
  unfold Oper.wp execOp
  simp only [ho, resolve, invoke, builtin, Sem.run_bind, Sem.run_pure, Result.andThen_ok, List.map_toArray, List.map_cons, List.map_nil, hs, hx, hrun]
  exact hK _ _ (h v' w' h1 hg)

end Go.Proofs.Ytfnhafgjdnlhiaa
