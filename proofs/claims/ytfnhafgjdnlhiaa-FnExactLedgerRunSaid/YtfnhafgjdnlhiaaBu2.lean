/- Texts that the laws of this folder share, one behind another; no conditions. -/
import Derived.Test.YtfnhafgjdnlhiaaRows
import Derived.Test.YtfnhafgjdnlhiaaBu1
import Derived.Test.YtfnhafgjdnlhiaaBu0
import Derived.Deep.QuietTactic
import Derived.BigQuiet
import Derived.WalkSpells

/- The reference's execution of transactions one after the other, by a walk of its text; conditions: a valid ledger with space for the fees, at most 16 transactions. -/
namespace Go.Proofs.Ytfnhafgjdnlhiaa
open Go.RowKit

theorem TBo : BoolT Try.prog 29 4 := ⟨Try.underlying29, by kernel_rfl⟩
theorem rn_take {xs : List Tx} {k : Nat} (hk : k < xs.length) (l : List Int) (n : Int) : rnL l (xs.take (k + 1)) = apL (rnL l (xs.take k)) xs[k] ∧ rnF l n (xs.take (k + 1)) = apF (rnL l (xs.take k)) (rnF l n (xs.take k)) xs[k] ∧ rnO l (xs.take (k + 1)) = rnO l (xs.take k) ++ [okT (rnL l (xs.take k)) xs[k]] := by
  rw [List.take_succ_eq_append_getElem hk]; exact rn_snoc _ _ _ _
theorem rn_ok {xs : List Tx} {l : List Int} {n : Int} (h : ldB l n = true) (hn : n + 9 * xs.length ≤ 5994) (k : Nat) (hk : k ≤ xs.length) : ldB (rnL l (xs.take k)) (rnF l n (xs.take k)) = true := rn_valid _ _ _ h (by rw [List.length_take]; omega)
/-- What a run answers. -/
def RnP (E Eb : TypeId) (w : World) (l : List Int) (n : Int) (xs : List Tx) (e : Ending) (w' : World) : Prop := ∃ v u, e = .returned (.tuple #[.agg #[v, .int .i64 (rnF l n xs)], u]) ∧ Own E w' w.heap.size v (rnL l xs) ∧ OwnB Eb w' w.heap.size u (rnO l xs) ∧ Below w.heap.size w w'
/-- While transactions are executed: the answer's ledger, the variable out (block O) with its list L and fees m, the outcomes bs. -/
structure Rnw (TL E Eb : TypeId) (w : World) (O : Nat) (ua : Option Addr) (uc : Nat) (L : List Int) (m : Int) (ub : Value) (bs : List Bool) (W : World) : Prop where
  s2 : Str W (w.heap.size + 1) TL #[.slice none 0 0, .int .i64 0]
  s3 : Str W O TL #[.slice ua L.length uc, .int .i64 m]
  own : Own E W (w.heap.size + 2) (.slice ua L.length uc) L
  oks : OwnB Eb W (w.heap.size + 2) ub bs
  nO : (Value.slice ua L.length uc).ownBlock ≠ some O
  nB : ub.ownBlock ≠ some O
  dO : w.heap.size + 2 ≤ O
  bel : Below w.heap.size w W
section
variable {TL E Eb : TypeId} {w : World} {O : Nat} {ua : Option Addr} {uc : Nat} {L : List Int} {m : Int} {ub : Value} {bs : List Bool} {W W' : World}
theorem Rnw.below (h : Rnw TL E Eb w O ua uc L m ub bs W) (hb : Below W.heap.size W W') : Rnw TL E Eb w O ua uc L m ub bs W' :=
  ⟨(hb.block _ h.s2.lt).trans h.s2, (hb.block _ h.s3.lt).trans h.s3, h.own.below hb, h.oks.below hb, h.nO, h.nB, h.dO, below_step h.bel h.bel.size hb⟩
theorem Rnw.drew (h : Rnw TL E Eb w O ua uc L m ub bs W) : Rnw TL E Eb w O ua uc L m ub bs W.drew := h.below ((Below.refl _ _).drew)
theorem Rnw.other (h : Rnw TL E Eb w O ua uc L m ub bs W) {B : Nat} (hB : w.heap.size + 2 ≤ B) (h1 : B ≠ O) (h2 : (Value.slice ua L.length uc).ownBlock ≠ some B) (h3 : ub.ownBlock ≠ some B) (j : Nat) (v : Value) : Rnw TL E Eb w O ua uc L m ub bs (W.setCell ⟨B, j, none⟩ v) :=
  ⟨h.s2.other (by omega) _ _, h.s3.other (Ne.symm h1) _ _, h.own.set_other h2 _ _, h.oks.set_other h3 _ _, h.nO, h.nB, h.dO, h.bel.setCell (p := ⟨B, j, none⟩) (by simp only; omega) _⟩
/-- 'out = x'. -/
theorem Rnw.move (h : Rnw TL E Eb w O ua uc L m ub bs W) {va : Option Addr} {vc : Nat} {L2 : List Int} {m2 : Int} (ho : Own E W (w.heap.size + 2) (.slice va L2.length vc) L2) (hn : (Value.slice va L2.length vc).ownBlock ≠ some O) :
    Rnw TL E Eb w O va vc L2 m2 ub bs ((W.setCell ⟨O, 0, none⟩ (.slice va L2.length vc)).setCell ⟨O, 1, none⟩ (.int .i64 m2)) := by
  have hO := h.dO
  exact ⟨(h.s2.other (by omega) _ _).other (by omega) _ _, (h.s3.set 0 _).set 1 _, (ho.set_other hn _ _).set_other hn _ _, (h.oks.set_other h.nB _ _).set_other h.nB _ _, hn, h.nB, hO, (h.bel.setCell (p := ⟨O, 0, none⟩) (by simp only; omega) _).setCell (p := ⟨O, 1, none⟩) (by simp only; omega) _⟩
/-- An outcome is appended. -/
theorem Rnw.push (h : Rnw TL E Eb w O ua uc L m ub bs W) (hE : Eb ≠ E) {u2 : Value} {bs2 : List Bool} (ho : OwnB Eb W' (w.heap.size + 2) u2 bs2) (hg : W.grownBy W' ub.ownBlock) (hat : u2.ownBlock = ub.ownBlock ∨ ∃ g, u2.ownBlock = some g ∧ W.heap.size ≤ g) : Rnw TL E Eb w O ua uc L m u2 bs2 W' := by
  have hO := h.dO; have hl := h.s3.lt
  refine ⟨h.s2.kept hg (fun e => by have := (h.oks.lt _ e.symm).1; omega), h.s3.kept hg (fun e => h.nB e.symm), h.own.kept hg ?_, ho, h.nO, ?_, hO, h.bel.grown hg h.bel.size (fun g e => by have := (h.oks.lt g e).1; omega)⟩
  · rcases h.oks.apart h.own hE with e | e
    · rw [e]; cases hv : (Value.slice ua L.length uc).ownBlock <;> simp
    · exact .inr (Ne.symm e)
  · rcases hat with e | ⟨g, e, h2⟩
    · rw [e]; exact h.nB
    · rw [e]; simp; omega
end

set_option maxHeartbeats 8000000 in
theorem spec_l31Run (a : Option Addr) (cap : Nat) (l : List Int) (n : Int) (xs : List Tx) (v : Value) (fp : List Nat) (w : World) (hv : ldB l n = true) (hx : xs.length ≤ 16) (hn : n + 9 * xs.length ≤ 5994) (hi : IntsAt w a l) (hsrc : SrcAt w a cap l) (ht : Txs w xs v fp) :
    Calls Try.prog 35 #[.agg #[.slice a l.length cap, .int .i64 n], v] w (RnP 3 4 w l n xs) := by
  have hpost : ∀ (v : Value) (u : Value) (w' : World), Own 3 w' w.heap.size v (rnL l xs) → OwnB 4 w' w.heap.size u (rnO l xs) → Below w.heap.size w w' → RnP 3 4 w l n xs (.returned (.tuple #[.agg #[v, .int .i64 (rnF l n xs)], u])) w' := fun v u w' h1 h2 h3 => ⟨v, u, rfl, h1, h2, h3⟩
  have Hpost := Lib.hid hpost; clear hpost
  generalize RnP 3 4 w l n xs = POST at *
  obtain ⟨va, vc, rfl, hvc⟩ := ht.slice
  have hl6 : l.length ≤ 1048576 := by have := (ldB_iff.1 hv).2.1; omega
  have hb0 : Below w.heap.size w ((w.alloc (.cells #[.slice a l.length cap, .int .i64 n] 25)).alloc (.cells #[.slice none 0 0, .int .i64 0] 25)) := ((Below.refl _ _).alloc (Nat.le_refl _) _).alloc (by simp only [World.size_alloc]; omega) _
  have s1 := (Str.new w 25 #[.slice a l.length cap, .int .i64 n]).alloc (.cells #[.slice none 0 0, .int .i64 0] 25)
  have s2 := Str.new (w.alloc (.cells #[.slice a l.length cap, .int .i64 n] 25)) 25 #[.slice none 0 0, .int .i64 0]
  simp only [World.size_alloc] at s2
  have hz : ((w.alloc (.cells #[.slice a l.length cap, .int .i64 n] 25)).alloc (.cells #[.slice none 0 0, .int .i64 0] 25)).heap.size = w.heap.size + 2 := by simp
  have k0 := s1.cell 0 (v := .slice a l.length cap) rfl
  have k1 := s1.cell 1 (v := .int .i64 n) rfl
  have HT0 := Lib.hid (fun W (hb : Below w.heap.size w W) => Txs.under ht hb)
  have S2 := Lib.hid s2; have Hi := Lib.hid (hi.below hb0); have Hsrc := Lib.hid (hsrc.lies hi hb0); have Ht := Lib.hid (ht.under hb0); have Hb := Lib.hid hb0; have Hz := Lib.hid hz
  clear s1 s2 hi hsrc ht hb0 hz
  have Hv := Lib.hid (fun k (h : k ≤ xs.length) => rn_ok hv hn k h)
  clear hv
  go_enter Try.func35, Try.ntmps35
  go_wp2_with fail
  generalize ((w.alloc (.cells #[.slice a l.length cap, .int .i64 n] 25)).alloc (.cells #[.slice none 0 0, .int .i64 0] 25)) = W0 at *
  refine (spec_l31Copy a cap l n W0 hl6 Hi.out Hsrc.out).mono ?_
  rintro e w1 ⟨vv, rfl, ho, hb1⟩
  obtain ⟨ua, uc, rfl, _, _⟩ := ho.ints
  clear k0 k1
  have hs1 := hb1.size
  have hz := Hz.out
  have hb4 : Below w1.heap.size w1 ((w1.alloc (.cells #[.slice ua l.length uc, .int .i64 n] 25)).alloc (.cells #[] 4)) := ((Below.refl _ _).alloc (Nat.le_refl _) _).alloc (by simp only [World.size_alloc]; omega) _
  have hbb := ownB_empty 4 (w1.alloc (.cells #[.slice ua l.length uc, .int .i64 n] 25)) (Nat.le_refl _)
  simp only [World.size_alloc] at hbb
  have HR := Lib.hid (show Rnw 25 3 4 w w1.heap.size ua uc l n (.slice (some ⟨w1.heap.size + 1, 0, none⟩) 0 0) [] ((w1.alloc (.cells #[.slice ua l.length uc, .int .i64 n] 25)).alloc (.cells #[] 4)) from ⟨(hb4.block _ (by have := S2.out.lt; omega)).trans ((hb1.block _ S2.out.lt).trans S2.out), (Str.new _ _ _).alloc _, (ho.below hb4).mono (by omega), hbb.mono (by omega), (fun e => by have := (ho.lt _ e).2; omega), (by simp [Value.ownBlock]), by omega, below_step (below_step Hb.out Hb.out.size hb1) (by have := Hb.out.size; omega) hb4⟩)
  have Ht := Lib.hid ((Ht.out.under hb1).under hb4)
  clear ho hb1 hb4 hbb S2 Hi Hsrc Hb Hz hz
  obtain ⟨O, hO⟩ : ∃ O, O = w1.heap.size := ⟨_, rfl⟩
  go_wp2
  generalize ((w1.alloc (.cells #[.slice ua l.length uc, .int .i64 n] 25)).alloc (.cells #[] 4)) = W5 at *
  rw [← hO] at HR ⊢
  clear hO
  have hL0 : rnL l (xs.take 0) = l := rfl
  have hF0 : rnF l n (xs.take 0) = n := rfl
  have hO0 : rnO l (xs.take 0) = [] := rfl
  generalize ([] : List Bool) = B0 at *
  go_loopw [7, 8] (fun u i wr => ∃ (k : Nat) (ua : Option Addr) (uc : Nat), k ≤ xs.length ∧ i = .int .i64 k ∧ Rnw 25 3 4 w O ua uc (rnL l (xs.take k)) (rnF l n (xs.take k)) u (rnO l (xs.take k)) wr ∧ Txs wr xs (.slice va xs.length vc) fp) (fun _ i _ => xs.length - (intOf i).toNat)
  case atStart => exact ⟨0, ua, uc, by omega, rfl, by rw [hL0, hF0, hO0]; exact HR.out, Ht.out⟩
  case round =>
    clear HR Ht hL0 hF0 hO0
    obtain ⟨k, ua, uc, hk, rfl, hr, ht⟩ := hrel
    have hu := hr.oks.slice
    obtain ⟨ba, bc, rfl, _⟩ := hu
    have HR := Lib.hid hr; have Ht := Lib.hid ht; clear hr ht
    have Hol := Lib.hid (show (rnO l (xs.take k)).length = k by rw [(rn_len _ _).2, List.length_take]; omega)
    have Hvk := Lib.hid (Hv.out k hk)
    by_cases hlt : k < xs.length
    case pos =>
      have Htk := Lib.hid (rn_take hlt l n)
      have hlt' : (k : Int) < (xs.length : Int) := by omega
      have HC := Ht.out.at (by omega)
      obtain ⟨tb, toff, rfl, htb, hcc⟩ := HC
      have Hcc := Lib.hid hcc; clear hcc
      obtain ⟨L, hL⟩ : ∃ L, L = rnL l (xs.take k) := ⟨_, rfl⟩
      obtain ⟨m, hm⟩ : ∃ m, m = rnF l n (xs.take k) := ⟨_, rfl⟩
      obtain ⟨bs, hbs⟩ : ∃ bs, bs = rnO l (xs.take k) := ⟨_, rfl⟩
      rw [← hL, ← hm, ← hbs] at HR
      rw [← hL, ← hm] at Hvk
      rw [← hbs] at Hol
      rw [← hbs]
      rw [← hL, ← hm, ← hbs] at Htk
      clear hL hm hbs
      have HCk := Lib.hid (fun W (hb : Txs W xs (.slice (some ⟨tb, toff, none⟩) xs.length vc) fp) => (show W.cell? ⟨tb, toff + k * 4, none⟩ = some (.int .i64 xs[k].f) ∧ W.cell? ⟨tb, toff + k * 4 + 1, none⟩ = some (.int .i64 xs[k].t) ∧ W.cell? ⟨tb, toff + k * 4 + 2, none⟩ = some (.int .i64 xs[k].s) ∧ W.cell? ⟨tb, toff + k * 4 + 3, none⟩ = some (.int .i64 xs[k].e) from by obtain ⟨b', o', e, _, hc⟩ := hb.at (by omega); simp only [Option.some.injEq, Addr.mk.injEq, and_true] at e; obtain ⟨rfl, rfl⟩ := e; exact hc k hlt))
      have HA := Lib.hid (fun W ua uc (h : IntsAt W ua L) (h2 : SrcAt W ua uc L) => spec_l31Apply ua uc L m xs[k] W Hvk.out h h2)
      unfold ApP agT at HA
      clear Hcc
      generalize xs[k] = x at *
      have hdr : Below wr.heap.size wr wr.drew := (Below.refl _ _).drew
      go_wp2_with fail
      have HR := Lib.hid HR.out.drew; have Ht := Lib.hid (Ht.out.under hdr); clear hdr
      refine wp_region_held_drew (S := fun w' => w'.cell? ⟨tb, toff + k * 4, none⟩ = some (.int .i64 x.f) ∧ w'.cell? ⟨tb, toff + k * 4 + 1, none⟩ = some (.int .i64 x.t) ∧ w'.cell? ⟨tb, toff + k * 4 + 2, none⟩ = some (.int .i64 x.s) ∧ w'.cell? ⟨tb, toff + k * 4 + 3, none⟩ = some (.int .i64 x.e) ∧ w'.cell? ⟨O, 0, none⟩ = some (.slice ua L.length uc) ∧ w'.cell? ⟨O, 1, none⟩ = some (.int .i64 m)) (by kernel_rfl) ⟨(HCk.out _ Ht.out).1, (HCk.out _ Ht.out).2.1, (HCk.out _ Ht.out).2.2.1, (HCk.out _ Ht.out).2.2.2, HR.out.s3.cell 0 rfl, HR.out.s3.cell 1 rfl⟩ (fun hH => ?_)
      generalize wr.drew = wd at *
      have hl3 := HR.out.s3.lt
      refine takeH 0 (v := ?vlr1) rfl (by kernel_rfl) (by kernel_rfl) (by kernel_rfl) (fun _ _ _ h => h) hH rfl ?ylr1 ?rlr1
      case ylr1 => intro W hSw; go_simp; try with_reducible rfl
      try simp only [Act.put, List.setIfInBounds_toArray, List.set_cons_zero, List.set_cons_succ]
      refine takeH 1 (v := ?vlr2) rfl (by kernel_rfl) (by kernel_rfl) (by kernel_rfl) (fun _ _ _ h => h) hH rfl ?ylr2 ?rlr2
      case ylr2 => intro W hSw; go_simp; try with_reducible rfl
      try simp only [Act.put, List.setIfInBounds_toArray, List.set_cons_zero, List.set_cons_succ]
      refine takeH 2 (v := ?vlr3) rfl (by kernel_rfl) (by kernel_rfl) (by kernel_rfl) (fun _ _ _ h => h) hH rfl ?ylr3 ?rlr3
      case ylr3 => intro W hSw; go_simp; try with_reducible rfl
      try simp only [Act.put, List.setIfInBounds_toArray, List.set_cons_zero, List.set_cons_succ]
      refine takeH 3 (v := ?vlr4) rfl (by kernel_rfl) (by kernel_rfl) (by kernel_rfl) (fun _ _ _ h => h) hH rfl ?ylr4 ?rlr4
      case ylr4 => intro W hSw; go_simp; try with_reducible rfl
      try simp only [Act.put, List.setIfInBounds_toArray, List.set_cons_zero, List.set_cons_succ]
      refine takeH 4 (v := ?vlr5) rfl (by kernel_rfl) (by kernel_rfl) (by kernel_rfl) (fun _ _ _ h => h) hH rfl ?ylr5 ?rlr5
      case ylr5 => intro W hSw; go_simp; try with_reducible rfl
      try simp only [Act.put, List.setIfInBounds_toArray, List.set_cons_zero, List.set_cons_succ]
      skip
      refine twoH 5 9 rfl rfl (by kernel_rfl) rfl rfl (fun K hK => ?_) (fun K hK => ?_)
      rotate_left
      · skip
        go_simp
        have hal : Below wd.heap.size wd (wd.alloc (.cells #[.slice none 0 0, .int .i64 0] 25)) := (Below.refl _ _).alloc (Nat.le_refl _) _
        have SX := Lib.hid (Str.new wd 25 #[.slice none 0 0, .int .i64 0])
        have hX1 : w.heap.size + 2 ≤ wd.heap.size := by have := HR.out.dO; omega
        have HXO := Lib.hid (show wd.heap.size ≠ O ∧ (Value.slice ua L.length uc).ownBlock ≠ some wd.heap.size ∧ (Value.slice ba bs.length bc).ownBlock ≠ some wd.heap.size from ⟨by omega, fun e => by have := (HR.out.own.lt _ e).2; omega, fun e => by have := (HR.out.oks.lt _ e).2; omega⟩)
        have HR := Lib.hid (HR.out.below hal)
        have Ht := Lib.hid (Ht.out.under hal)
        have hX2 : wd.heap.size < (wd.alloc (.cells #[.slice none 0 0, .int .i64 0] 25)).heap.size := by simp
        clear hal
        refine hK.out _ _ ⟨(HCk.out _ Ht.out).1, (HCk.out _ Ht.out).2.1, (HCk.out _ Ht.out).2.2.1, (HCk.out _ Ht.out).2.2.2, HR.out.s3.cell 0 rfl, HR.out.s3.cell 1 rfl⟩ (fun hH => ?_)
        clear hK K
        try simp only [Act.put, List.setIfInBounds_toArray, List.set_cons_zero, List.set_cons_succ]
        generalize (wd.alloc (.cells #[.slice none 0 0, .int .i64 0] 25)) = wl at *
        generalize wd.heap.size = X at *
        refine callH 5 rfl (by kernel_rfl) rfl (fun K hK => ?_)
        go_simp
        refine (HA.out _ _ _ HR.out.own.at (own_src HR.out.own)).mono ?_
        rintro e w7 ⟨v9, rfl, ho9, hb9⟩
        have HR := Lib.hid (HR.out.below hb9)
        have Ht := Lib.hid (Ht.out.under hb9)
        have SX := Lib.hid (show Str w7 X 25 #[.slice none 0 0, .int .i64 0] from (hb9.block _ SX.out.lt).trans SX.out)
        generalize apL L x = L2 at *
        obtain ⟨ga, gc, rfl, _, _⟩ := ho9.ints
        have HO9 := Lib.hid (ho9.mono (show w.heap.size + 2 ≤ _ by have := HR.out.dO; omega))
        have HN9 := Lib.hid (show (Value.slice ga L2.length gc).ownBlock ≠ some O from fun e => by have := (ho9.lt _ e).1; omega)
        have HNX := Lib.hid (show (Value.slice ga L2.length gc).ownBlock ≠ some X from fun e => by have := (ho9.lt _ e).1; have := hX2; omega)
        have hs9 := hb9.size
        clear ho9 hb9
        refine hK.out _ _ ⟨(HCk.out _ Ht.out).1, (HCk.out _ Ht.out).2.1, (HCk.out _ Ht.out).2.2.1, (HCk.out _ Ht.out).2.2.2, HR.out.s3.cell 0 rfl, HR.out.s3.cell 1 rfl⟩ (fun hH => ?_)
        clear hK K
        try simp only [Act.put, List.setIfInBounds_toArray, List.set_cons_zero, List.set_cons_succ]
        refine takeH 6 (v := ?vlr6) rfl (by kernel_rfl) (by kernel_rfl) (by kernel_rfl) (fun _ _ _ h => h) hH rfl ?ylr6 ?rlr6
        case ylr6 => intro W hSw; go_simp; try with_reducible rfl
        try simp only [Act.put, List.setIfInBounds_toArray, List.set_cons_zero, List.set_cons_succ]
        refine takeH 7 (v := ?vlr7) rfl (by kernel_rfl) (by kernel_rfl) (by kernel_rfl) (fun _ _ _ h => h) hH rfl ?ylr7 ?rlr7
        case ylr7 => intro W hSw; go_simp; try with_reducible rfl
        try simp only [Act.put, List.setIfInBounds_toArray, List.set_cons_zero, List.set_cons_succ]
        refine takeH 8 (v := ?vlr8) rfl (by kernel_rfl) (by kernel_rfl) (by kernel_rfl) (fun _ _ _ h => h) hH rfl ?ylr8 ?rlr8
        case ylr8 => intro W hSw; go_simp; try with_reducible rfl
        try simp only [Act.put, List.setIfInBounds_toArray, List.set_cons_zero, List.set_cons_succ]
        refine callH 10 rfl (by kernel_rfl) rfl (fun K hK => ?_)
        have y0 := SX.out.frozen 0
        have y1 := SX.out.frozen 1
        have v0 := SX.out.cell 0 (v := .slice none 0 0) rfl
        have v1 := SX.out.cell 1 (v := .int .i64 0) rfl
        go_simp
        clear y0 y1 v0 v1
        skip
        have HR := Lib.hid ((HR.out.other hX1 HXO.out.1 HXO.out.2.1 HXO.out.2.2 0 (.slice ga L2.length gc)).other hX1 HXO.out.1 HXO.out.2.1 HXO.out.2.2 1 (.int .i64 (apF L m x)))
        have SX := Lib.hid ((SX.out.set 0 (.slice ga L2.length gc)).set 1 (.int .i64 (apF L m x)))
        have HO9 := Lib.hid ((HO9.out.set_other HNX.out 0 (.slice ga L2.length gc)).set_other HNX.out 1 (.int .i64 (apF L m x)))
        have Ht := Lib.hid (show Txs ((w7.setCell ⟨X, 0, none⟩ (.slice ga L2.length gc)).setCell ⟨X, 1, none⟩ (.int .i64 (apF L m x))) xs (.slice (some ⟨tb, toff, none⟩) xs.length vc) fp from HT0.out _ HR.out.bel)
        refine hK.out _ _ ⟨(HCk.out _ Ht.out).1, (HCk.out _ Ht.out).2.1, (HCk.out _ Ht.out).2.2.1, (HCk.out _ Ht.out).2.2.2, HR.out.s3.cell 0 rfl, HR.out.s3.cell 1 rfl⟩ (fun hH => ?_)
        clear hK K
        try simp only [Act.put, List.setIfInBounds_toArray, List.set_cons_zero, List.set_cons_succ]
        generalize ((w7.setCell ⟨X, 0, none⟩ (.slice ga L2.length gc)).setCell ⟨X, 1, none⟩ (.int .i64 (apF L m x))) = we at *
        refine callH 11 rfl (by kernel_rfl) rfl (fun K hK => ?_)
        go_simp
        refine hK.out _ _ ⟨(HCk.out _ Ht.out).1, (HCk.out _ Ht.out).2.1, (HCk.out _ Ht.out).2.2.1, (HCk.out _ Ht.out).2.2.2, HR.out.s3.cell 0 rfl, HR.out.s3.cell 1 rfl⟩ (fun hH => ?_)
        clear hK K
        try simp only [Act.put, List.setIfInBounds_toArray, List.set_cons_zero, List.set_cons_succ]
        refine wpAnyH_done (by kernel_rfl) ?_ _
        try simp only [Act.put]
        clear hH
        have y0 := HR.out.s3.frozen 0
        have y1 := HR.out.s3.frozen 1
        have v0 := HR.out.s3.cell 0 (v := .slice ua L.length uc) rfl
        have v1 := HR.out.s3.cell 1 (v := .int .i64 m) rfl
        have x0 := SX.out.cell 0 (v := .slice ga L2.length gc) rfl
        have x1 := SX.out.cell 1 (v := .int .i64 (apF L m x)) rfl
        have hR2 := HR.out.move (m2 := apF L m x) HO9.out HN9.out
        have hsz : w.heap.size + 2 ≤ ((we.setCell ⟨O, 0, none⟩ (.slice ga L2.length gc)).setCell ⟨O, 1, none⟩ (.int .i64 (apF L m x))).heap.size := by have h1 := hR2.s3.lt; have h2 := hR2.dO; omega
        have HR := Lib.hid hR2; clear hR2
        have hol : bs.length ≤ 1048576 := by have := Hol.out; omega
        go_wp2_with (at_builtin; refine wpList_push_b (w := ((we.setCell ⟨O, 0, none⟩ (.slice ga L2.length gc)).setCell ⟨O, 1, none⟩ (.int .i64 (apF L m x)))) TBo rfl (.tmp 30) (.tmp 32) rfl (w.heap.size + 2) (.slice ba bs.length bc) bs (okT L x) rfl HR.out.oks hol (by first | rfl | (simp [World.setCell]; rfl)) hsz ?_; intro v5 w5 hown5 hg5 hloc5)
        obtain ⟨ba5, bc5, rfl, _⟩ := hown5.slice
        have HR := Lib.hid (HR.out.push (by decide) hown5 hg5 hloc5)
        have Ht := Lib.hid (HT0.out _ HR.out.bel)
        clear hown5 hg5 hloc5 y0 y1 v0 v1 x0 x1
        go_wp2
        go_roundw
        case rel => exact ⟨k + 1, ga, gc, by omega, by go_num, by rw [Htk.out.1, Htk.out.2.1, Htk.out.2.2]; exact HR.out, Ht.out⟩
        case measure => simp [intOf]; omega
      go_simp
      refine (HA.out _ _ _ HR.out.own.at (own_src HR.out.own)).mono ?_
      rintro e w7 ⟨v9, rfl, ho9, hb9⟩
      have HR := Lib.hid (HR.out.below hb9)
      have Ht := Lib.hid (Ht.out.under hb9)
      generalize apL L x = L2 at *
      obtain ⟨ga, gc, rfl, _, _⟩ := ho9.ints
      have HO9 := Lib.hid (ho9.mono (show w.heap.size + 2 ≤ _ by have := HR.out.dO; omega))
      have HN9 := Lib.hid (show (Value.slice ga L2.length gc).ownBlock ≠ some O from fun e => by have := (ho9.lt _ e).1; omega)
      have hs9 := hb9.size
      clear ho9 hb9
      refine hK.out _ _ ⟨(HCk.out _ Ht.out).1, (HCk.out _ Ht.out).2.1, (HCk.out _ Ht.out).2.2.1, (HCk.out _ Ht.out).2.2.2, HR.out.s3.cell 0 rfl, HR.out.s3.cell 1 rfl⟩ (fun hH => ?_)
      clear hK K
      try simp only [Act.put, List.setIfInBounds_toArray, List.set_cons_zero, List.set_cons_succ]
      refine takeH 6 (v := ?vlr9) rfl (by kernel_rfl) (by kernel_rfl) (by kernel_rfl) (fun _ _ _ h => h) hH rfl ?ylr9 ?rlr9
      case ylr9 => intro W hSw; go_simp; try with_reducible rfl
      try simp only [Act.put, List.setIfInBounds_toArray, List.set_cons_zero, List.set_cons_succ]
      refine takeH 7 (v := ?vlr10) rfl (by kernel_rfl) (by kernel_rfl) (by kernel_rfl) (fun _ _ _ h => h) hH rfl ?ylr10 ?rlr10
      case ylr10 => intro W hSw; go_simp; try with_reducible rfl
      try simp only [Act.put, List.setIfInBounds_toArray, List.set_cons_zero, List.set_cons_succ]
      refine takeH 8 (v := ?vlr11) rfl (by kernel_rfl) (by kernel_rfl) (by kernel_rfl) (fun _ _ _ h => h) hH rfl ?ylr11 ?rlr11
      case ylr11 => intro W hSw; go_simp; try with_reducible rfl
      try simp only [Act.put, List.setIfInBounds_toArray, List.set_cons_zero, List.set_cons_succ]
      refine callH 9 rfl (by kernel_rfl) rfl (fun K hK => ?_)
      go_simp
      have hal : Below w7.heap.size w7 (w7.alloc (.cells #[.slice none 0 0, .int .i64 0] 25)) := (Below.refl _ _).alloc (Nat.le_refl _) _
      have SX := Lib.hid (Str.new w7 25 #[.slice none 0 0, .int .i64 0])
      have hX1 : w.heap.size + 2 ≤ w7.heap.size := by have := HR.out.dO; omega
      have HXO := Lib.hid (show w7.heap.size ≠ O ∧ (Value.slice ua L.length uc).ownBlock ≠ some w7.heap.size ∧ (Value.slice ba bs.length bc).ownBlock ≠ some w7.heap.size from ⟨by omega, fun e => by have := (HR.out.own.lt _ e).2; omega, fun e => by have := (HR.out.oks.lt _ e).2; omega⟩)
      have HNX := Lib.hid (show (Value.slice ga L2.length gc).ownBlock ≠ some w7.heap.size from fun e => by have := (HO9.out.lt _ e).2; omega)
      have HO9 := Lib.hid (HO9.out.below hal)
      have HR := Lib.hid (HR.out.below hal)
      have Ht := Lib.hid (Ht.out.under hal)
      have hX2 : w7.heap.size < (w7.alloc (.cells #[.slice none 0 0, .int .i64 0] 25)).heap.size := by simp
      clear hal
      refine hK.out _ _ ⟨(HCk.out _ Ht.out).1, (HCk.out _ Ht.out).2.1, (HCk.out _ Ht.out).2.2.1, (HCk.out _ Ht.out).2.2.2, HR.out.s3.cell 0 rfl, HR.out.s3.cell 1 rfl⟩ (fun hH => ?_)
      clear hK K
      try simp only [Act.put, List.setIfInBounds_toArray, List.set_cons_zero, List.set_cons_succ]
      generalize (w7.alloc (.cells #[.slice none 0 0, .int .i64 0] 25)) = wl at *
      generalize w7.heap.size = X at *
      refine callH 10 rfl (by kernel_rfl) rfl (fun K hK => ?_)
      have y0 := SX.out.frozen 0
      have y1 := SX.out.frozen 1
      have v0 := SX.out.cell 0 (v := .slice none 0 0) rfl
      have v1 := SX.out.cell 1 (v := .int .i64 0) rfl
      go_simp
      clear y0 y1 v0 v1
      skip
      have HR := Lib.hid ((HR.out.other hX1 HXO.out.1 HXO.out.2.1 HXO.out.2.2 0 (.slice ga L2.length gc)).other hX1 HXO.out.1 HXO.out.2.1 HXO.out.2.2 1 (.int .i64 (apF L m x)))
      have SX := Lib.hid ((SX.out.set 0 (.slice ga L2.length gc)).set 1 (.int .i64 (apF L m x)))
      have HO9 := Lib.hid ((HO9.out.set_other HNX.out 0 (.slice ga L2.length gc)).set_other HNX.out 1 (.int .i64 (apF L m x)))
      have Ht := Lib.hid (show Txs ((wl.setCell ⟨X, 0, none⟩ (.slice ga L2.length gc)).setCell ⟨X, 1, none⟩ (.int .i64 (apF L m x))) xs (.slice (some ⟨tb, toff, none⟩) xs.length vc) fp from HT0.out _ HR.out.bel)
      refine hK.out _ _ ⟨(HCk.out _ Ht.out).1, (HCk.out _ Ht.out).2.1, (HCk.out _ Ht.out).2.2.1, (HCk.out _ Ht.out).2.2.2, HR.out.s3.cell 0 rfl, HR.out.s3.cell 1 rfl⟩ (fun hH => ?_)
      clear hK K
      try simp only [Act.put, List.setIfInBounds_toArray, List.set_cons_zero, List.set_cons_succ]
      generalize ((wl.setCell ⟨X, 0, none⟩ (.slice ga L2.length gc)).setCell ⟨X, 1, none⟩ (.int .i64 (apF L m x))) = we at *
      refine callH 11 rfl (by kernel_rfl) rfl (fun K hK => ?_)
      go_simp
      refine hK.out _ _ ⟨(HCk.out _ Ht.out).1, (HCk.out _ Ht.out).2.1, (HCk.out _ Ht.out).2.2.1, (HCk.out _ Ht.out).2.2.2, HR.out.s3.cell 0 rfl, HR.out.s3.cell 1 rfl⟩ (fun hH => ?_)
      clear hK K
      try simp only [Act.put, List.setIfInBounds_toArray, List.set_cons_zero, List.set_cons_succ]
      refine wpAnyH_done (by kernel_rfl) ?_ _
      try simp only [Act.put]
      clear hH
      have y0 := HR.out.s3.frozen 0
      have y1 := HR.out.s3.frozen 1
      have v0 := HR.out.s3.cell 0 (v := .slice ua L.length uc) rfl
      have v1 := HR.out.s3.cell 1 (v := .int .i64 m) rfl
      have x0 := SX.out.cell 0 (v := .slice ga L2.length gc) rfl
      have x1 := SX.out.cell 1 (v := .int .i64 (apF L m x)) rfl
      have hR2 := HR.out.move (m2 := apF L m x) HO9.out HN9.out
      have hsz : w.heap.size + 2 ≤ ((we.setCell ⟨O, 0, none⟩ (.slice ga L2.length gc)).setCell ⟨O, 1, none⟩ (.int .i64 (apF L m x))).heap.size := by have h1 := hR2.s3.lt; have h2 := hR2.dO; omega
      have HR := Lib.hid hR2; clear hR2
      have hol : bs.length ≤ 1048576 := by have := Hol.out; omega
      go_wp2_with (at_builtin; refine wpList_push_b (w := ((we.setCell ⟨O, 0, none⟩ (.slice ga L2.length gc)).setCell ⟨O, 1, none⟩ (.int .i64 (apF L m x)))) TBo rfl (.tmp 30) (.tmp 32) rfl (w.heap.size + 2) (.slice ba bs.length bc) bs (okT L x) rfl HR.out.oks hol (by first | rfl | (simp [World.setCell]; rfl)) hsz ?_; intro v5 w5 hown5 hg5 hloc5)
      obtain ⟨ba5, bc5, rfl, _⟩ := hown5.slice
      have HR := Lib.hid (HR.out.push (by decide) hown5 hg5 hloc5)
      have Ht := Lib.hid (HT0.out _ HR.out.bel)
      clear hown5 hg5 hloc5 y0 y1 v0 v1 x0 x1
      go_wp2
      go_roundw
      case rel => exact ⟨k + 1, ga, gc, by omega, by go_num, by rw [Htk.out.1, Htk.out.2.1, Htk.out.2.2]; exact HR.out, Ht.out⟩
      case measure => simp [intOf]; omega
    case neg =>
      have e : xs.take k = xs := List.take_of_length_le (by omega)
      have hlt' : ¬ (k : Int) < (xs.length : Int) := by omega
      have hR := HR.out
      rw [e] at hR ⊢
      have HR := Lib.hid hR; clear hR Hol Hvk e
      generalize rnL l xs = L at *
      generalize rnF l n xs = m at *
      generalize rnO l xs = bs at *
      have y0 := HR.out.s2.frozen 0
      have y1 := HR.out.s2.frozen 1
      have q0 := HR.out.s2.cell 0 (v := .slice none 0 0) rfl
      have q1 := HR.out.s2.cell 1 (v := .int .i64 0) rfl
      have v0 := HR.out.s3.cell 0 (v := .slice ua L.length uc) rfl
      have v1 := HR.out.s3.cell 1 (v := .int .i64 m) rfl
      have hne : (Value.slice ua L.length uc).ownBlock ≠ some (w.heap.size + 1) := fun e => by have := (HR.out.own.lt _ e).1; omega
      have hnb : (Value.slice ba bs.length bc).ownBlock ≠ some (w.heap.size + 1) := fun e => by have := (HR.out.oks.lt _ e).1; omega
      have sF := (HR.out.s2.set 0 (.slice ua L.length uc)).set 1 (.int .i64 m)
      have e0 := sF.cell 0 (v := .slice ua L.length uc) rfl
      have e1 := sF.cell 1 (v := .int .i64 m) rfl
      have OF := Lib.hid (((HR.out.own.set_other hne 0 (.slice ua L.length uc)).set_other hne 1 (.int .i64 m)).mono (show w.heap.size ≤ _ by omega))
      have KF := Lib.hid (((HR.out.oks.set_other hnb 0 (.slice ua L.length uc)).set_other hnb 1 (.int .i64 m)).mono (show w.heap.size ≤ _ by omega))
      have BF := Lib.hid ((HR.out.bel.setCell (p := ⟨w.heap.size + 1, 0, none⟩) (by simp only; omega) (.slice ua L.length uc)).setCell (p := ⟨w.heap.size + 1, 1, none⟩) (by simp only; omega) (.int .i64 m))
      clear sF hne hnb
      go_wp2
      refine bodyPost_ret (v := .tuple #[.agg #[.slice ua L.length uc, .int .i64 m], .slice ba bs.length bc]) (by simp [results, Try.f35, go_sem, e0, e1]) rfl ?_
      exact Hpost.out _ _ _ OF.out KF.out BF.out

end Go.Proofs.Ytfnhafgjdnlhiaa

/- The program's tests of accounts, balances and transactions, each by a walk of its text; without conditions. -/
namespace Go.Proofs.Ytfnhafgjdnlhiaa
open Go.RowKit

theorem lg_isAccount (n : Int) (w : World) : Calls Try.prog 57 #[.int .i64 n] w fun e w' => e = .returned (.bool (decide (0 ≤ n ∧ n ≤ 5))) ∧ w = w' := by
  obtain ⟨z, hz⟩ : ∃ z, z = decide (0 ≤ n ∧ n ≤ 5) := ⟨_, rfl⟩
  rw [show (decide (0 ≤ n ∧ n ≤ 5)) = z from hz.symm]
  by_cases h : 0 ≤ n
  · have Hf := Lib.hid (show z = decide (n < 6) from hz.trans (decide_eq_decide.2 (by omega))); clear hz
    go_enter Try.func57, Try.ntmps57
    go_wp2
    go_ret
    exact ⟨ret_bool Hf.out.symm, rfl⟩
  · have Hf := Lib.hid (show z = false from hz.trans (decide_eq_false (by omega))); clear hz
    go_enter Try.func57, Try.ntmps57
    go_wp2
    go_ret
    exact ⟨ret_bool Hf.out.symm, rfl⟩

theorem lg_isBalance (n : Int) (w : World) : Calls Try.prog 60 #[.int .i64 n] w fun e w' => e = .returned (.bool (decide (0 ≤ n ∧ n ≤ 999))) ∧ w = w' := by
  obtain ⟨z, hz⟩ : ∃ z, z = decide (0 ≤ n ∧ n ≤ 999) := ⟨_, rfl⟩
  rw [show (decide (0 ≤ n ∧ n ≤ 999)) = z from hz.symm]
  by_cases h : 0 ≤ n
  · have Hf := Lib.hid (show z = decide (n ≤ 999) from hz.trans (decide_eq_decide.2 (by omega))); clear hz
    go_enter Try.func60, Try.ntmps60
    go_wp2
    go_ret
    exact ⟨ret_bool Hf.out.symm, rfl⟩
  · have Hf := Lib.hid (show z = false from hz.trans (decide_eq_false (by omega))); clear hz
    go_enter Try.func60, Try.ntmps60
    go_wp2
    go_ret
    exact ⟨ret_bool Hf.out.symm, rfl⟩

theorem lg_valid (x : Tx) (w : World) :
    Calls Try.prog 49 #[agT x] w fun e w' => e = .returned (.bool (txB x)) ∧ Below w.heap.size w w' := by
  obtain ⟨f, t, s, e⟩ := x
  have hb0 : Below w.heap.size w (w.alloc (.cells #[.int .i64 f, .int .i64 t, .int .i64 s, .int .i64 e] 41)) := (Below.refl _ _).alloc (Nat.le_refl _) _
  have s0 := Str.new w 41 #[.int .i64 f, .int .i64 t, .int .i64 s, .int .i64 e]
  have k0 := s0.cell 0 (v := .int .i64 f) rfl
  have k1 := s0.cell 1 (v := .int .i64 t) rfl
  have k2 := s0.cell 2 (v := .int .i64 s) rfl
  have k3 := s0.cell 3 (v := .int .i64 e) rfl
  have H0 := Lib.hid (fun W => lg_isAccount f W)
  have H1 := Lib.hid (fun W => lg_isAccount t W)
  have Hb0 := Lib.hid hb0; clear hb0 s0
  have Hres := Lib.hid (show txB ⟨f, t, s, e⟩ = (decide (0 ≤ f ∧ f ≤ 5) && (decide (0 ≤ t ∧ t ≤ 5) && (decide (f ≠ t) && (decide (1 ≤ s ∧ s ≤ 99) && decide (0 ≤ e ∧ e ≤ 9))))) from rfl)
  generalize decide (0 ≤ f ∧ f ≤ 5) = xf at *
  generalize decide (0 ≤ t ∧ t ≤ 5) = xt at *
  unfold agT
  dsimp only
  go_enter Try.func49, Try.ntmps49
  go_wp2_with fail
  generalize w.alloc (.cells #[.int .i64 f, .int .i64 t, .int .i64 s, .int .i64 e] 41) = W0 at *
  refine (H0.out W0).mono ?_
  rintro e1 w1 ⟨rfl, rfl⟩
  cases xf with
  | false =>
    go_wp2
    go_ret
    exact ⟨ret_bool (by rw [Hres.out]; simp), Hb0.out⟩
  | true =>
  go_wp2_with fail
  refine (H1.out W0).mono ?_
  rintro e1 w1 ⟨rfl, rfl⟩
  cases xt with
  | false =>
    go_wp2
    go_ret
    exact ⟨ret_bool (by rw [Hres.out]; simp), Hb0.out⟩
  | true =>
  have HG := Lib.hid (fun (h : txB ⟨f, t, s, e⟩ = false) => h)
  by_cases hne : f = t
  case pos =>
    have hn1 : (f == t) = true := by rw [beq_iff_eq]; exact hne
    have hn2 : (f != t) = false := by rw [bne, hn1]; rfl
    have Hne := Lib.hid hne; clear hne
    go_wp2
    go_ret
    exact ⟨ret_bool (by rw [Hres.out, decide_eq_false (show ¬ (f ≠ t) from fun h => h Hne.out)]; rfl), Hb0.out⟩
  have hn1 : (f == t) = false := by rw [beq_eq_false_iff_ne]; exact hne
  have hn2 : (f != t) = true := by rw [bne, hn1]; rfl
  have Hres := Lib.hid (Hres.out.trans (by rw [decide_eq_true (show f ≠ t from hne)]))
  have Hne := Lib.hid hne; clear hne
  by_cases hc0 : 1 ≤ s
  case neg =>
    have Hn := Lib.hid hc0
    go_wp2
    go_ret
    exact ⟨ret_bool (by have hn := Hn.out; rw [Hres.out]; simp; omega), Hb0.out⟩
  have Hc0 := Lib.hid hc0
  by_cases hc1 : s ≤ 99
  case neg =>
    have Hn := Lib.hid hc1
    go_wp2
    go_ret
    exact ⟨ret_bool (by have hn := Hn.out; rw [Hres.out]; simp; omega), Hb0.out⟩
  have Hc1 := Lib.hid hc1
  by_cases hc2 : 0 ≤ e
  case neg =>
    have Hn := Lib.hid hc2
    go_wp2
    go_ret
    exact ⟨ret_bool (by have hn := Hn.out; rw [Hres.out]; simp; omega), Hb0.out⟩
  have Hc2 := Lib.hid hc2
  go_wp2
  go_ret
  exact ⟨ret_bool (by have h0 := Hc0.out; have h1 := Hc1.out; have h2 := Hc2.out; rw [Hres.out, decide_eq_true (show 1 ≤ s ∧ s ≤ 99 from ⟨h0, h1⟩)]; simp only [Bool.true_and]; exact decide_eq_decide.2 (by omega)), Hb0.out⟩

end Go.Proofs.Ytfnhafgjdnlhiaa

/- The reference's total of a ledger, by a walk of its text; condition: the list is shorter than 2^40. -/
namespace Go.Proofs.Ytfnhafgjdnlhiaa
open Go.RowKit

/-- The total of a ledger, or -1. -/
def totZ (l : List Int) (n : Int) : Int := if ldB l n then l.sum + n else -1
theorem sum_take_succ {l : List Int} {k : Nat} (hk : k < l.length) : (l.take (k + 1)).sum = (l.take k).sum + l[k] := by
  rw [List.take_succ_eq_append_getElem hk, List.sum_append]; simp
theorem sum_take_bd {l : List Int} (h : ∀ b ∈ l, 0 ≤ b ∧ b ≤ 999) : ∀ k, k ≤ l.length → 0 ≤ (l.take k).sum ∧ (l.take k).sum ≤ 999 * k
  | 0, _ => by simp
  | k + 1, hk => by
    have h1 := sum_take_bd h k (by omega)
    have h2 := h _ (List.getElem_mem (show k < l.length by omega))
    rw [sum_take_succ (by omega)]; omega

end Go.Proofs.Ytfnhafgjdnlhiaa

/- The program's ledger in memory, whose first six cells are the embedded balances, and the functions on balances, each by a walk of its text; conditions: the ledger is valid, and so is the transaction. -/
namespace Go.Proofs.Ytfnhafgjdnlhiaa
open Go.RowKit

def gd (l : List Int) (i : Nat) : Int := l.getD i 0
theorem gd_at {l : List Int} {i : Nat} (h : i < l.length) : gd l i = l[i] := by unfold gd; simp [List.getD, List.getElem?_eq_getElem h]
theorem gd_bal (l : List Int) (i : Nat) : bal l i = gd l i := by unfold bal gd; simp
def c6 (l : List Int) : Array Value := #[.int .i64 (gd l 0), .int .i64 (gd l 1), .int .i64 (gd l 2), .int .i64 (gd l 3), .int .i64 (gd l 4), .int .i64 (gd l 5)]
def c7 (l : List Int) (n : Int) : Array Value := #[.int .i64 (gd l 0), .int .i64 (gd l 1), .int .i64 (gd l 2), .int .i64 (gd l 3), .int .i64 (gd l 4), .int .i64 (gd l 5), .int .i64 n]
theorem c7_at (l : List Int) (n : Int) {i : Nat} (h : i < 6) : (c7 l n)[i]? = some (.int .i64 (gd l i)) := by
  match i, h with
  | 0, _ => rfl
  | 1, _ => rfl
  | 2, _ => rfl
  | 3, _ => rfl
  | 4, _ => rfl
  | 5, _ => rfl
theorem c6_at (l : List Int) {i : Nat} (h : i < 6) : (c6 l)[i]? = some (.int .i64 (gd l i)) := by
  match i, h with
  | 0, _ => rfl
  | 1, _ => rfl
  | 2, _ => rfl
  | 3, _ => rfl
  | 4, _ => rfl
  | 5, _ => rfl
theorem six {l : List Int} (h : l.length = 6) : ∃ a b c d e f, l = [a, b, c, d, e, f] := by
  match l, h with
  | [a, b, c, d, e, f], _ => exact ⟨a, b, c, d, e, f, rfl⟩
theorem c7_set {l : List Int} (h : l.length = 6) (n : Int) {i : Nat} (hi : i < 6) (z : Int) : (c7 l n).setIfInBounds i (.int .i64 z) = c7 (l.set i z) n := by
  obtain ⟨a, b, c, d, e, f, rfl⟩ := six h
  match i, hi with
  | 0, _ => rfl
  | 1, _ => rfl
  | 2, _ => rfl
  | 3, _ => rfl
  | 4, _ => rfl
  | 5, _ => rfl
theorem c6_take {l : List Int} (h : l.length = 6) {i : Nat} (hi : i < 6) : (c6 (l.take i)).setIfInBounds i (.int .i64 (gd l i)) = c6 (l.take (i + 1)) := by
  obtain ⟨a, b, c, d, e, f, rfl⟩ := six h
  match i, hi with
  | 0, _ => rfl
  | 1, _ => rfl
  | 2, _ => rfl
  | 3, _ => rfl
  | 4, _ => rfl
  | 5, _ => rfl
/-- The balances are those of a ledger. -/
def okB (l : List Int) : Bool := l.all balB && decide (l.length = 6)
theorem okB_ld (l : List Int) (n : Int) : ldB l n = (okB l && decide (0 ≤ n ∧ n ≤ 5994)) := by unfold ldB okB; rw [Bool.and_assoc]

/-- What balancesOf answers. -/
def BoP (w : World) (l : List Int) (e : Ending) (w' : World) : Prop := ((okB l = true ∧ e = .returned (.tuple #[.agg (c6 l), .bool true])) ∨ (okB l = false ∧ e = .returned (.tuple #[.agg #[.int .i64 0, .int .i64 0, .int .i64 0, .int .i64 0, .int .i64 0, .int .i64 0], .bool false]))) ∧ Below w.heap.size w w'
set_option maxHeartbeats 4000000 in
theorem lg_balancesOf (a : Option Addr) (cap : Nat) (l : List Int) (w : World) (hbig : l.length ≤ 1099511627776) (hl : IntsAt w a l) :
    Calls Try.prog 56 #[.slice a l.length cap] w (BoP w l) := by
  have hb0 : Below w.heap.size w ((w.alloc (.cells #[.int .i64 0, .int .i64 0, .int .i64 0, .int .i64 0, .int .i64 0, .int .i64 0] 67)).alloc (.cells #[.int .i64 0, .int .i64 0, .int .i64 0, .int .i64 0, .int .i64 0, .int .i64 0] 67)) := ((Below.refl _ _).alloc (Nat.le_refl _) _).alloc (by simp only [World.size_alloc]; omega) _
  have s1 := (Str.new w 67 #[.int .i64 0, .int .i64 0, .int .i64 0, .int .i64 0, .int .i64 0, .int .i64 0]).alloc (.cells #[.int .i64 0, .int .i64 0, .int .i64 0, .int .i64 0, .int .i64 0, .int .i64 0] 67)
  have s2 := Str.new (w.alloc (.cells #[.int .i64 0, .int .i64 0, .int .i64 0, .int .i64 0, .int .i64 0, .int .i64 0] 67)) 67 #[.int .i64 0, .int .i64 0, .int .i64 0, .int .i64 0, .int .i64 0, .int .i64 0]
  simp only [World.size_alloc] at s2
  have S1 := Lib.hid s1; have S2 := Lib.hid s2; have Hb := Lib.hid hb0; clear s1 s2 hb0
  have hz : ((w.alloc (.cells #[.int .i64 0, .int .i64 0, .int .i64 0, .int .i64 0, .int .i64 0, .int .i64 0] 67)).alloc (.cells #[.int .i64 0, .int .i64 0, .int .i64 0, .int .i64 0, .int .i64 0, .int .i64 0] 67)).heap.size = w.heap.size + 2 := by simp
  have hyes : ∀ e w', okB l = true → e = .returned (.tuple #[.agg (c6 l), .bool true]) → Below w.heap.size w w' → BoP w l e w' := fun e w' h1 h2 h3 => ⟨.inl ⟨h1, h2⟩, h3⟩
  have hno : ∀ e w', okB l = false → e = .returned (.tuple #[.agg #[.int .i64 0, .int .i64 0, .int .i64 0, .int .i64 0, .int .i64 0, .int .i64 0], .bool false]) → Below w.heap.size w w' → BoP w l e w' := fun e w' h1 h2 h3 => ⟨.inr ⟨h1, h2⟩, h3⟩
  have Hyes := Lib.hid hyes; have Hno := Lib.hid hno; clear hyes hno
  generalize BoP w l = POST at *
  go_enter Try.func56, Try.ntmps56
  by_cases h6 : l.length = 6
  case neg =>
    have hn1 : ((l.length : Int) == 6) = false := by rw [beq_eq_false_iff_ne]; omega
    have hn2 : ((l.length : Int) != 6) = true := by rw [bne, hn1]; rfl
    have Hok := Lib.hid (show okB l = false by unfold okB; rw [decide_eq_false h6, Bool.and_false])
    clear h6 hl
    go_wp2
    refine bodyPost_ret (v := .tuple #[.agg #[.int .i64 0, .int .i64 0, .int .i64 0, .int .i64 0, .int .i64 0, .int .i64 0], .bool false]) (by simp [results, Try.f56, go_sem]) rfl ?_
    exact Hno.out _ _ Hok.out rfl Hb.out
  have hn1 : ((l.length : Int) == 6) = true := by rw [beq_iff_eq]; omega
  have hn2 : ((l.length : Int) != 6) = false := by rw [bne, hn1]; rfl
  have H6 := Lib.hid h6
  have hle6 : l.length ≤ 6 := by omega
  rcases hl with rfl | ⟨b, off, rfl, hbw, hc⟩
  · exact absurd h6 (by simp)
  clear h6 hbig
  have Hc := Lib.hid (fun j (h : j < l.length) => (Hb.out.cell (p := ⟨b, off + j, none⟩) hbw).trans (hc j h)); clear hc
  go_wp2
  generalize ((w.alloc (.cells #[.int .i64 0, .int .i64 0, .int .i64 0, .int .i64 0, .int .i64 0, .int .i64 0] 67)).alloc (.cells #[.int .i64 0, .int .i64 0, .int .i64 0, .int .i64 0, .int .i64 0, .int .i64 0] 67)) = W0 at *
  go_loopw [13] (fun i wr => ∃ k : Nat, k ≤ l.length ∧ i = .int .i64 k ∧ Pre balB l k ∧ Str wr w.heap.size 67 #[.int .i64 0, .int .i64 0, .int .i64 0, .int .i64 0, .int .i64 0, .int .i64 0] ∧ Str wr (w.heap.size + 1) 67 (c6 (l.take k)) ∧ Below w.heap.size w wr ∧ ∀ j (h : j < l.length), wr.cell? ⟨b, off + j, none⟩ = some (.int .i64 l[j])) (fun i _ => l.length - (intOf i).toNat)
  case atStart => exact ⟨0, by omega, rfl, pre_zero _ _, S1.out, S2.out, Hb.out, Hc.out⟩
  case round =>
    clear S1 S2 Hb Hc hz
    obtain ⟨k, hk, rfl, hp, hs1, hs2, hb, hc⟩ := hrel
    have Hp := Lib.hid hp; have S1 := Lib.hid hs1; have S2 := Lib.hid hs2; have Hb := Lib.hid hb; have Hc := Lib.hid hc; clear hp hs1 hs2 hb hc
    by_cases hlt : k < l.length
    case pos =>
      have hcell := Hc.out k hlt
      have hlt' : (k : Int) < (l.length : Int) := by omega
      have hk6 : k < 6 := by omega
      have hk6' : (k : Int) < 6 := by omega
      have HV := Lib.hid (fun W => lg_isBalance l[k] W)
      have Hst := Lib.hid (show (c6 (l.take k)).setIfInBounds k (.int .i64 l[k]) = c6 (l.take (k + 1)) by rw [← gd_at hlt]; exact c6_take H6.out hk6)
      have Hpv := Lib.hid (fun h => pre_step (p := balB) Hp.out hlt h)
      have Hbad := Lib.hid (fun (h : balB l[k] = false) => (show okB l = false by unfold okB; rw [pre_not hlt h]; rfl))
      have y9 := S2.out.frozen k
      have q9 := S2.out.cell k (c6_at (l.take k) hk6)
      have HB := Lib.hid (show balB l[k] = decide (0 ≤ l[k] ∧ l[k] ≤ 999) from rfl)
      generalize decide (0 ≤ l[k] ∧ l[k] ≤ 999) = bb at *
      generalize balB l[k] = b2 at *
      obtain rfl := HB.out
      generalize l[k] = xk at *
      go_wp2_with fail
      refine (HV.out _).mono ?_
      rintro e w2 ⟨rfl, rfl⟩
      cases b2 with
      | false =>
        have Hok := Lib.hid (Hbad.out rfl)
        clear Hbad
        have y0 := S1.out.frozen 0
        have q0 := S1.out.cell 0 (v := .int .i64 0) rfl
        have y1 := S1.out.frozen 1
        have q1 := S1.out.cell 1 (v := .int .i64 0) rfl
        have y2 := S1.out.frozen 2
        have q2 := S1.out.cell 2 (v := .int .i64 0) rfl
        have y3 := S1.out.frozen 3
        have q3 := S1.out.cell 3 (v := .int .i64 0) rfl
        have y4 := S1.out.frozen 4
        have q4 := S1.out.cell 4 (v := .int .i64 0) rfl
        have y5 := S1.out.frozen 5
        have q5 := S1.out.cell 5 (v := .int .i64 0) rfl
        have sF := ((((((S1.out.set 0 (.int .i64 0)).set 1 (.int .i64 0)).set 2 (.int .i64 0)).set 3 (.int .i64 0)).set 4 (.int .i64 0)).set 5 (.int .i64 0))
        have bF := ((((((Hb.out.setCell (p := ⟨w.heap.size, 0, none⟩) (by simp only; omega) (.int .i64 0)).setCell (p := ⟨w.heap.size, 1, none⟩) (by simp only; omega) (.int .i64 0)).setCell (p := ⟨w.heap.size, 2, none⟩) (by simp only; omega) (.int .i64 0)).setCell (p := ⟨w.heap.size, 3, none⟩) (by simp only; omega) (.int .i64 0)).setCell (p := ⟨w.heap.size, 4, none⟩) (by simp only; omega) (.int .i64 0)).setCell (p := ⟨w.heap.size, 5, none⟩) (by simp only; omega) (.int .i64 0))
        have e0 := sF.cell 0 (v := .int .i64 0) rfl
        have e1 := sF.cell 1 (v := .int .i64 0) rfl
        have e2 := sF.cell 2 (v := .int .i64 0) rfl
        have e3 := sF.cell 3 (v := .int .i64 0) rfl
        have e4 := sF.cell 4 (v := .int .i64 0) rfl
        have e5 := sF.cell 5 (v := .int .i64 0) rfl
        have BF := Lib.hid bF; clear bF sF
        go_wp2
        refine bodyPost_ret (v := .tuple #[.agg #[.int .i64 0, .int .i64 0, .int .i64 0, .int .i64 0, .int .i64 0, .int .i64 0], .bool false]) (by simp [results, Try.f56, go_sem, e0, e1, e2, e3, e4, e5]) rfl ?_
        exact Hno.out _ _ Hok.out rfl BF.out
      | true =>
        have Hpt := Lib.hid (Hpv.out rfl)
        go_wp2
        go_roundw
        case rel =>
          refine ⟨k + 1, by omega, by go_num, Hpt.out, S1.out.other (by omega) _ _, ?_, Hb.out.setCell (p := ⟨w.heap.size + 1, k, none⟩) (by simp only; omega) _, fun j hj => ?_⟩
          · rw [← Hst.out]; exact S2.out.set k _
          · have h9 := Hc.out j hj
            exact (World.cell?_setCell_other _ _ _ _ (by simp only [ne_eq, Addr.mk.injEq]; omega)).trans h9
        case measure => simp [intOf]; omega
    case neg =>
      have hk6 : l.take k = l := List.take_of_length_le (by omega)
      have hlt' : ¬ (k : Int) < (l.length : Int) := by omega
      have s2 := S2.out
      rw [hk6] at s2
      have S2 := Lib.hid s2; clear s2 hk6
      have Hok := Lib.hid (show okB l = true by unfold okB; rw [pre_all Hp.out (by omega), decide_eq_true H6.out]; rfl)
      have y0 := S1.out.frozen 0
      have q0 := S1.out.cell 0 (v := .int .i64 0) rfl
      have b0 := S2.out.cell 0 (v := .int .i64 (gd l 0)) rfl
      have y1 := S1.out.frozen 1
      have q1 := S1.out.cell 1 (v := .int .i64 0) rfl
      have b1 := S2.out.cell 1 (v := .int .i64 (gd l 1)) rfl
      have y2 := S1.out.frozen 2
      have q2 := S1.out.cell 2 (v := .int .i64 0) rfl
      have b2 := S2.out.cell 2 (v := .int .i64 (gd l 2)) rfl
      have y3 := S1.out.frozen 3
      have q3 := S1.out.cell 3 (v := .int .i64 0) rfl
      have b3 := S2.out.cell 3 (v := .int .i64 (gd l 3)) rfl
      have y4 := S1.out.frozen 4
      have q4 := S1.out.cell 4 (v := .int .i64 0) rfl
      have b4 := S2.out.cell 4 (v := .int .i64 (gd l 4)) rfl
      have y5 := S1.out.frozen 5
      have q5 := S1.out.cell 5 (v := .int .i64 0) rfl
      have b5 := S2.out.cell 5 (v := .int .i64 (gd l 5)) rfl
      have sF := ((((((S1.out.set 0 (.int .i64 (gd l 0))).set 1 (.int .i64 (gd l 1))).set 2 (.int .i64 (gd l 2))).set 3 (.int .i64 (gd l 3))).set 4 (.int .i64 (gd l 4))).set 5 (.int .i64 (gd l 5)))
      have bF := ((((((Hb.out.setCell (p := ⟨w.heap.size, 0, none⟩) (by simp only; omega) (.int .i64 (gd l 0))).setCell (p := ⟨w.heap.size, 1, none⟩) (by simp only; omega) (.int .i64 (gd l 1))).setCell (p := ⟨w.heap.size, 2, none⟩) (by simp only; omega) (.int .i64 (gd l 2))).setCell (p := ⟨w.heap.size, 3, none⟩) (by simp only; omega) (.int .i64 (gd l 3))).setCell (p := ⟨w.heap.size, 4, none⟩) (by simp only; omega) (.int .i64 (gd l 4))).setCell (p := ⟨w.heap.size, 5, none⟩) (by simp only; omega) (.int .i64 (gd l 5)))
      have e0 := sF.cell 0 (v := .int .i64 (gd l 0)) rfl
      have e1 := sF.cell 1 (v := .int .i64 (gd l 1)) rfl
      have e2 := sF.cell 2 (v := .int .i64 (gd l 2)) rfl
      have e3 := sF.cell 3 (v := .int .i64 (gd l 3)) rfl
      have e4 := sF.cell 4 (v := .int .i64 (gd l 4)) rfl
      have e5 := sF.cell 5 (v := .int .i64 (gd l 5)) rfl
      have BF := Lib.hid bF; clear bF sF
      go_wp2
      refine bodyPost_ret (v := .tuple #[.agg (c6 l), .bool true]) (by simp [results, Try.f56, go_sem, e0, e1, e2, e3, e4, e5, c6]) rfl ?_
      exact Hyes.out _ _ Hok.out rfl BF.out

end Go.Proofs.Ytfnhafgjdnlhiaa

/- The program's functions on the balances that a ledger embeds (sum, allows, move), each by a walk of its text; conditions: the ledger and the transaction are valid. -/
namespace Go.Proofs.Ytfnhafgjdnlhiaa
open Go.RowKit

theorem lg_drewN {B : Nat} {w W : World} (h : Below B w W) (k : Nat) : Below B w (W.drewN k) := ⟨h.os, h.tape, h.output, h.size, h.block⟩
/-- Block B is the program's ledger of these balances and fees. -/
abbrev Lg (T : TypeId) (W : World) (B : Nat) (l : List Int) (n : Int) : Prop := Str W B T (c7 l n)
theorem Lg.at {T : TypeId} {W : World} {B : Nat} {l : List Int} {n : Int} (h : Lg T W B l n) {i : Nat} (hi : i < 6) : W.cell? ⟨B, i, none⟩ = some (.int .i64 (gd l i)) := Str.cell h i (c7_at l n hi)
theorem Lg.fees {T : TypeId} {W : World} {B : Nat} {l : List Int} {n : Int} (h : Lg T W B l n) : W.cell? ⟨B, 6, none⟩ = some (.int .i64 n) := Str.cell h 6 rfl
theorem Lg.setb {T : TypeId} {W : World} {B : Nat} {l : List Int} {n : Int} (h : Lg T W B l n) (h6 : l.length = 6) {i : Nat} (hi : i < 6) (z : Int) : Lg T (W.setCell ⟨B, i, none⟩ (.int .i64 z)) B (l.set i z) n := by
  have := Str.set h i (.int .i64 z)
  rw [c7_set h6 n hi z] at this
  exact this
theorem Lg.setf {T : TypeId} {W : World} {B : Nat} {l : List Int} {n : Int} (h : Lg T W B l n) (z : Int) : Lg T (W.setCell ⟨B, 6, none⟩ (.int .i64 z)) B l z := Str.set h 6 (.int .i64 z)

set_option maxHeartbeats 1000000 in
theorem lg_sum (B : Nat) (l : List Int) (n : Int) (w : World) (hv : ldB l n = true) (hs : Lg 69 w B l n) :
    Calls Try.prog 38 #[.pointer (some ⟨B, 0, none⟩)] w fun e w' => e = .returned (.int .i64 l.sum) ∧ w = w' := by
  obtain ⟨hv1, hv2, hv3, hv4⟩ := ldB_iff.1 hv
  have Hbd := Lib.hid (sum_take_bd hv1)
  have Hv1 := Lib.hid hv1; clear hv1 hv
  have H6 := Lib.hid hv2; clear hv2
  have Hs := Lib.hid hs; clear hs
  go_enter Try.func38, Try.ntmps38
  go_wp2
  go_loop [3, 7] (fun s i => ∃ k : Nat, k ≤ 6 ∧ i = .int .i64 k ∧ s = .int .i64 (l.take k).sum) (fun _ i => 6 - (intOf i).toNat)
  case atStart => exact ⟨0, by omega, rfl, by simp⟩
  case round =>
    obtain ⟨k, hk, rfl, rfl⟩ := hrel
    by_cases hlt : k < 6
    · have hlt' : (k : Int) < 6 := by omega
      have hkl : k < l.length := by have := H6.out; omega
      have hcell := Hs.out.at hlt
      have h1 := Hbd.out k (by omega)
      have h2 := Hv1.out _ (List.getElem_mem hkl)
      have Hz := Lib.hid (sum_take_succ hkl)
      rw [gd_at hkl] at hcell
      generalize (l.take k).sum = S at *
      generalize l[k] = x at *
      clear hkl
      have hw : IntKind.i64.wrap (S + x) = S + x := IntWalk.i64_in _ (by omega)
      go_wp2
      go_round
      case rel => exact ⟨k + 1, by omega, by go_num, by rw [Hz.out]⟩
      case measure => simp [intOf]; omega
    · have hlt' : ¬ (k : Int) < 6 := by omega
      have Ht := Lib.hid (show (l.take k).sum = l.sum by rw [List.take_of_length_le (by have := H6.out; omega)])
      generalize (l.take k).sum = S at *
      go_wp2
      go_ret
      exact ⟨ret_int Ht.out, rfl⟩

set_option maxHeartbeats 2000000 in
theorem lg_allows (B : Nat) (l : List Int) (n : Int) (x : Tx) (w : World) (hv : ldB l n = true) (hx : txB x = true) (hs : Lg 69 w B l n) :
    Calls Try.prog 50 #[.pointer (some ⟨B, 0, none⟩), agT x] w fun e w' => e = .returned (.bool (okT l x)) ∧ Below w.heap.size w w' := by
  obtain ⟨hv1, hv2, hv3, hv4⟩ := ldB_iff.1 hv
  obtain ⟨hx1, hx2, hx3, hx4, hx5⟩ := txB_iff.1 hx
  have Hv := Lib.hid hv; have Hx := Lib.hid hx; clear hv hx
  obtain ⟨f, t, s, ee⟩ := x
  dsimp only at *
  obtain ⟨i, rfl⟩ : ∃ i : Nat, f = i := ⟨f.toNat, by omega⟩
  obtain ⟨j, rfl⟩ : ∃ j : Nat, t = j := ⟨t.toNat, by omega⟩
  have hi6 : i < 6 := by omega
  have hj6 : j < 6 := by omega
  have hi6' : (i : Int) < 6 := by omega
  have hj6' : (j : Int) < 6 := by omega
  have hij : i ≠ j := by omega
  have hbi := bal_bd (i := (i : Int)) Hv.out
  have hbj := bal_bd (i := (j : Int)) Hv.out
  rw [gd_bal] at hbi hbj
  have H6 := Lib.hid hv2; have Hx3 := Lib.hid hx3; clear hv1 hv2 hx3
  have Hok := Lib.hid (show okT l ⟨i, j, s, ee⟩ = (decide (s + ee ≤ gd l i) && decide (gd l j + s ≤ 999)) from by unfold okT; rw [Hx.out, gd_bal, gd_bal]; rfl)
  have hb0 : Below w.heap.size w (w.alloc (.cells #[.int .i64 i, .int .i64 j, .int .i64 s, .int .i64 ee] 41)) := (Below.refl _ _).alloc (Nat.le_refl _) _
  have s0 := Str.new w 41 #[.int .i64 i, .int .i64 j, .int .i64 s, .int .i64 ee]
  have s9 : Lg 69 (w.alloc (.cells #[.int .i64 i, .int .i64 j, .int .i64 s, .int .i64 ee] 41)) B l n := Str.alloc hs _
  have x0 := s0.cell 0 (v := .int .i64 i) rfl
  have x1 := s0.cell 1 (v := .int .i64 j) rfl
  have x2 := s0.cell 2 (v := .int .i64 s) rfl
  have x3 := s0.cell 3 (v := .int .i64 ee) rfl
  have ci := s9.at hi6
  have cj := s9.at hj6
  have Hb := Lib.hid hb0; clear hb0 s0 s9 hs
  generalize gd l i = bi at *
  generalize gd l j = bj at *
  have w1' : IntKind.i64.wrap (s + ee) = s + ee := IntWalk.i64_in _ (by omega)
  have w2' : IntKind.i64.wrap (bj + s) = bj + s := IntWalk.i64_in _ (by omega)
  unfold agT
  dsimp only
  go_enter Try.func50, Try.ntmps50
  go_wp2
  generalize (w.alloc (.cells #[.int .i64 i, .int .i64 j, .int .i64 s, .int .i64 ee] 41)) = W0 at *
  by_cases h1 : s + ee ≤ bi
  · have d1 : decide (s + ee ≤ bi) = true := decide_eq_true h1
    have Hok := Lib.hid (Hok.out.trans (by rw [d1, Bool.true_and]))
    go_quiet (fail)
    go_wp2
    go_ret
    exact ⟨ret_bool Hok.out.symm, lg_drewN Hb.out _⟩
  · have d1 : decide (s + ee ≤ bi) = false := decide_eq_false h1
    have Hok := Lib.hid (Hok.out.trans (by rw [d1, Bool.false_and]))
    go_quiet (fail)
    go_wp2
    go_ret
    exact ⟨ret_bool Hok.out.symm, lg_drewN Hb.out _⟩

theorem lg_drew {w W : World} {B : Nat} (h : w.grownBy W (some B)) : w.grownBy W.drew (some B) := grownBy_trans h ⟨rfl, rfl, rfl, Nat.le_refl _, fun _ _ _ => rfl⟩
set_option maxHeartbeats 4000000 in
theorem lg_move (B : Nat) (l : List Int) (n : Int) (x : Tx) (w : World) (hv : ldB l n = true) (hx : okT l x = true) (hs : Lg 69 w B l n) :
    Calls Try.prog 51 #[.pointer (some ⟨B, 0, none⟩), agT x] w fun e w' => e = .returned (.tuple #[]) ∧ Lg 69 w' B (apL l x) n ∧ w.grownBy w' (some B) := by
  have hok := hx
  obtain ⟨hx, hlow, hhigh⟩ := okT_iff.1 hok
  have Hok := Lib.hid hok; clear hok
  obtain ⟨hv1, hv2, hv3, hv4⟩ := ldB_iff.1 hv
  obtain ⟨hx1, hx2, hx3, hx4, hx5⟩ := txB_iff.1 hx
  have Hv := Lib.hid hv; have Hx := Lib.hid hx; clear hv hx
  obtain ⟨f, t, s, ee⟩ := x
  dsimp only at *
  obtain ⟨i, rfl⟩ : ∃ i : Nat, f = i := ⟨f.toNat, by omega⟩
  obtain ⟨j, rfl⟩ : ∃ j : Nat, t = j := ⟨t.toNat, by omega⟩
  have hi6 : i < 6 := by omega
  have hj6 : j < 6 := by omega
  have hi6' : (i : Int) < 6 := by omega
  have hj6' : (j : Int) < 6 := by omega
  have hij : i ≠ j := by omega
  have hbi := bal_bd (i := (i : Int)) Hv.out
  have hbj := bal_bd (i := (j : Int)) Hv.out
  rw [gd_bal] at hbi hbj
  rw [gd_bal] at hlow hhigh
  have H6 := Lib.hid hv2; have Hx3 := Lib.hid hx3; clear hv1 hv2 hx3
  have Hap := Lib.hid (show (l.set i (gd l i - (s + ee))).set j (gd l j + s) = apL l ⟨i, j, s, ee⟩ from by rw [(ap_yes (n := n) Hok.out).1, gd_bal, gd_bal]; simp only [Int.toNat_natCast]; congr 2; omega)
  have Hgj := Lib.hid (show gd (l.set i (gd l i - (s + ee))) j = gd l j from by rw [gd_at (l := l.set i (gd l i - (s + ee))) (by rw [List.length_set, H6.out]; exact hj6), List.getElem_set_ne hij, gd_at (l := l) (i := j) (by rw [H6.out]; exact hj6)])
  have hg0 := World.grownBy_alloc w (.cells #[.int .i64 i, .int .i64 j, .int .i64 s, .int .i64 ee] 41) (some B)
  have s0 := Str.new w 41 #[.int .i64 i, .int .i64 j, .int .i64 s, .int .i64 ee]
  have s9 : Lg 69 (w.alloc (.cells #[.int .i64 i, .int .i64 j, .int .i64 s, .int .i64 ee] 41)) B l n := Str.alloc hs _
  have hBw := hs.lt
  have Hg := Lib.hid hg0; have S0 := Lib.hid s0; have S9 := Lib.hid s9; clear hg0 s0 s9 hs
  obtain ⟨bi, hbie⟩ : ∃ z, z = gd l i := ⟨_, rfl⟩
  obtain ⟨bj, hbje⟩ : ∃ z, z = gd l j := ⟨_, rfl⟩
  rw [← hbie] at hbi hlow Hap Hgj
  rw [← hbje] at hbj hhigh Hap Hgj
  have Hbi := Lib.hid hbie; have Hbj := Lib.hid hbje; clear hbie hbje
  have w1' : IntKind.i64.wrap (s + ee) = s + ee := IntWalk.i64_in _ (by omega)
  have w2' : IntKind.i64.wrap (bj + s) = bj + s := IntWalk.i64_in _ (by omega)
  have w3' : IntKind.i64.wrap (bi - (s + ee)) = bi - (s + ee) := IntWalk.i64_in _ (by omega)
  unfold agT
  dsimp only
  go_enter Try.func51, Try.ntmps51
  go_wp2_with fail
  generalize (w.alloc (.cells #[.int .i64 i, .int .i64 j, .int .i64 s, .int .i64 ee] 41)) = W0 at *
  have hBne : w.heap.size ≠ B := by omega
  have c9 := Lib.hid (show W0.cell? ⟨B, i, none⟩ = some (.int .i64 bi) from by rw [Hbi.out]; exact S9.out.at hi6)
  refine wp_region_L 14 (fun w' => w'.cell? ⟨w.heap.size, 0, none⟩ = some (.int .i64 i) ∧ w'.cell? ⟨w.heap.size, 1, none⟩ = some (.int .i64 j) ∧ w'.cell? ⟨w.heap.size, 2, none⟩ = some (.int .i64 s) ∧ w'.cell? ⟨w.heap.size, 3, none⟩ = some (.int .i64 ee) ∧ w'.cell? ⟨B, i, none⟩ = some (.int .i64 bi)) (by kernel_rfl) ⟨S0.out.cell 0 (v := .int .i64 i) rfl, S0.out.cell 1 (v := .int .i64 j) rfl, S0.out.cell 2 (v := .int .i64 s) rfl, S0.out.cell 3 (v := .int .i64 ee) rfl, c9.out⟩ (fun hH => ?_)
  have S0 := Lib.hid (show Str W0.drew w.heap.size 41 #[.int .i64 i, .int .i64 j, .int .i64 s, .int .i64 ee] from S0.out)
  have S9 := Lib.hid (show Lg 69 W0.drew B (l) n from S9.out)
  have Hg := Lib.hid (lg_drew Hg.out)
  have c9 := Lib.hid (show W0.drew.cell? ⟨B, i, none⟩ = some (.int .i64 bi) from c9.out)
  generalize W0.drew = wd at *
  refine takeL 0 (v := ?vmv1) rfl (by kernel_rfl) (by kernel_rfl) (by kernel_rfl) (by kernel_rfl) (by kernel_rfl) (fun _ _ _ h => h) hH rfl ?ymv1 ?rmv1
  case ymv1 => intro W hSw; go_simp; try with_reducible rfl
  try simp only [Act.put, List.setIfInBounds_toArray, List.set_cons_zero, List.set_cons_succ]
  refine takeL 1 (v := ?vmv2) rfl (by kernel_rfl) (by kernel_rfl) (by kernel_rfl) (by kernel_rfl) (by kernel_rfl) (fun _ _ _ h => h) hH rfl ?ymv2 ?rmv2
  case ymv2 => intro W hSw; go_simp; try with_reducible rfl
  try simp only [Act.put, List.setIfInBounds_toArray, List.set_cons_zero, List.set_cons_succ]
  refine takeL 2 (v := ?vmv3) rfl (by kernel_rfl) (by kernel_rfl) (by kernel_rfl) (by kernel_rfl) (by kernel_rfl) (fun _ _ _ h => h) hH rfl ?ymv3 ?rmv3
  case ymv3 => intro W hSw; go_simp; try with_reducible rfl
  try simp only [Act.put, List.setIfInBounds_toArray, List.set_cons_zero, List.set_cons_succ]
  refine takeL 3 (v := ?vmv4) rfl (by kernel_rfl) (by kernel_rfl) (by kernel_rfl) (by kernel_rfl) (by kernel_rfl) (fun _ _ _ h => h) hH rfl ?ymv4 ?rmv4
  case ymv4 => intro W hSw; go_simp; try with_reducible rfl
  try simp only [Act.put, List.setIfInBounds_toArray, List.set_cons_zero, List.set_cons_succ]
  refine takeL 4 (v := ?vmv5) rfl (by kernel_rfl) (by kernel_rfl) (by kernel_rfl) (by kernel_rfl) (by kernel_rfl) (fun _ _ _ h => h) hH rfl ?ymv5 ?rmv5
  case ymv5 => intro W hSw; go_simp; try with_reducible rfl
  try simp only [Act.put, List.setIfInBounds_toArray, List.set_cons_zero, List.set_cons_succ]
  refine takeL 5 (v := ?vmv6) rfl (by kernel_rfl) (by kernel_rfl) (by kernel_rfl) (by kernel_rfl) (by kernel_rfl) (fun _ _ _ h => h) hH rfl ?ymv6 ?rmv6
  case ymv6 => intro W hSw; go_simp; try with_reducible rfl
  try simp only [Act.put, List.setIfInBounds_toArray, List.set_cons_zero, List.set_cons_succ]
  refine takeL 6 (v := ?vmv7) rfl (by kernel_rfl) (by kernel_rfl) (by kernel_rfl) (by kernel_rfl) (by kernel_rfl) (fun _ _ _ h => h) hH rfl ?ymv7 ?rmv7
  case ymv7 => intro W hSw; go_simp; try with_reducible rfl
  try simp only [Act.put, List.setIfInBounds_toArray, List.set_cons_zero, List.set_cons_succ]
  refine takeL 7 (v := ?vmv8) rfl (by kernel_rfl) (by kernel_rfl) (by kernel_rfl) (by kernel_rfl) (by kernel_rfl) (fun _ _ _ h => h) hH rfl ?ymv8 ?rmv8
  case ymv8 => intro W hSw; go_simp; try with_reducible rfl
  try simp only [Act.put, List.setIfInBounds_toArray, List.set_cons_zero, List.set_cons_succ]
  refine takeL 8 (v := ?vmv9) rfl (by kernel_rfl) (by kernel_rfl) (by kernel_rfl) (by kernel_rfl) (by kernel_rfl) (fun _ _ _ h => h) hH rfl ?ymv9 ?rmv9
  case ymv9 => intro W hSw; go_simp; try with_reducible rfl
  try simp only [Act.put, List.setIfInBounds_toArray, List.set_cons_zero, List.set_cons_succ]
  refine takeL 9 (v := ?vmv10) rfl (by kernel_rfl) (by kernel_rfl) (by kernel_rfl) (by kernel_rfl) (by kernel_rfl) (fun _ _ _ h => h) hH rfl ?ymv10 ?rmv10
  case ymv10 => intro W hSw; go_simp; try with_reducible rfl
  try simp only [Act.put, List.setIfInBounds_toArray, List.set_cons_zero, List.set_cons_succ]
  refine takeL 10 (v := .int .i64 (s + ee)) rfl (by kernel_rfl) (by kernel_rfl) (by kernel_rfl) (by kernel_rfl) (by kernel_rfl) (fun _ _ _ h => h) hH rfl ?ymv11 ?rmv11
  case ymv11 => intro W hSw; go_simp; first | done | (simp [w1'])
  try simp only [Act.put, List.setIfInBounds_toArray, List.set_cons_zero, List.set_cons_succ]
  refine takeL 11 (v := .int .i64 (bi - (s + ee))) rfl (by kernel_rfl) (by kernel_rfl) (by kernel_rfl) (by kernel_rfl) (by kernel_rfl) (fun _ _ _ h => h) hH rfl ?ymv12 ?rmv12
  case ymv12 => intro W hSw; go_simp; first | done | (simp [w3'])
  try simp only [Act.put, List.setIfInBounds_toArray, List.set_cons_zero, List.set_cons_succ]
  refine callL 12 rfl (by kernel_rfl) rfl (fun K hK => ?_)
  go_simp
  refine hK.out _ _ ⟨S0.out.cell 0 (v := .int .i64 i) rfl, S0.out.cell 1 (v := .int .i64 j) rfl, S0.out.cell 2 (v := .int .i64 s) rfl, S0.out.cell 3 (v := .int .i64 ee) rfl, c9.out⟩ (fun hH => ?_)
  clear hK K
  try simp only [Act.put, List.setIfInBounds_toArray, List.set_cons_zero, List.set_cons_succ]
  refine takeL 13 (v := ?vmv13) rfl (by kernel_rfl) (by kernel_rfl) (by kernel_rfl) (by kernel_rfl) (by kernel_rfl) (fun _ _ _ h => h) hH rfl ?ymv13 ?rmv13
  case ymv13 => intro W hSw; go_simp; try with_reducible rfl
  try simp only [Act.put, List.setIfInBounds_toArray, List.set_cons_zero, List.set_cons_succ]
  refine lastL rfl (by kernel_rfl) (by kernel_rfl) (by kernel_rfl) rfl (fun K hK => ?_)
  have y9 := S9.out.frozen i
  have q9 := c9.out
  go_simp
  clear y9 q9
  have S0 := Lib.hid (S0.out.other (B' := B) (by omega) i (.int .i64 (bi - (s + ee))))
  have S9 := Lib.hid (S9.out.setb (by first | exact H6.out | (rw [List.length_set]; exact H6.out)) hi6 (bi - (s + ee)))
  have Hg := Lib.hid (grownBy_trans Hg.out (grownBy_set wd B i (.int .i64 (bi - (s + ee)))))
  refine hK.out _ _ ?_
  clear hK K hH c9
  try simp only [Act.put]
  generalize (wd.setCell ⟨B, i, none⟩ (.int .i64 (bi - (s + ee)))) = W5 at *
  go_wp2_with fail
  have c9 := Lib.hid (show W5.cell? ⟨B, j, none⟩ = some (.int .i64 bj) from by rw [← Hgj.out]; exact S9.out.at hj6)
  refine wp_region_L 11 (fun w' => w'.cell? ⟨w.heap.size, 0, none⟩ = some (.int .i64 i) ∧ w'.cell? ⟨w.heap.size, 1, none⟩ = some (.int .i64 j) ∧ w'.cell? ⟨w.heap.size, 2, none⟩ = some (.int .i64 s) ∧ w'.cell? ⟨w.heap.size, 3, none⟩ = some (.int .i64 ee) ∧ w'.cell? ⟨B, j, none⟩ = some (.int .i64 bj)) (by kernel_rfl) ⟨S0.out.cell 0 (v := .int .i64 i) rfl, S0.out.cell 1 (v := .int .i64 j) rfl, S0.out.cell 2 (v := .int .i64 s) rfl, S0.out.cell 3 (v := .int .i64 ee) rfl, c9.out⟩ (fun hH => ?_)
  have S0 := Lib.hid (show Str W5.drew w.heap.size 41 #[.int .i64 i, .int .i64 j, .int .i64 s, .int .i64 ee] from S0.out)
  have S9 := Lib.hid (show Lg 69 W5.drew B (l.set i (bi - (s + ee))) n from S9.out)
  have Hg := Lib.hid (lg_drew Hg.out)
  have c9 := Lib.hid (show W5.drew.cell? ⟨B, j, none⟩ = some (.int .i64 bj) from c9.out)
  generalize W5.drew = wd at *
  refine takeL 0 (v := ?vmv14) rfl (by kernel_rfl) (by kernel_rfl) (by kernel_rfl) (by kernel_rfl) (by kernel_rfl) (fun _ _ _ h => h) hH rfl ?ymv14 ?rmv14
  case ymv14 => intro W hSw; go_simp; try with_reducible rfl
  try simp only [Act.put, List.setIfInBounds_toArray, List.set_cons_zero, List.set_cons_succ]
  refine takeL 1 (v := ?vmv15) rfl (by kernel_rfl) (by kernel_rfl) (by kernel_rfl) (by kernel_rfl) (by kernel_rfl) (fun _ _ _ h => h) hH rfl ?ymv15 ?rmv15
  case ymv15 => intro W hSw; go_simp; try with_reducible rfl
  try simp only [Act.put, List.setIfInBounds_toArray, List.set_cons_zero, List.set_cons_succ]
  refine takeL 2 (v := ?vmv16) rfl (by kernel_rfl) (by kernel_rfl) (by kernel_rfl) (by kernel_rfl) (by kernel_rfl) (fun _ _ _ h => h) hH rfl ?ymv16 ?rmv16
  case ymv16 => intro W hSw; go_simp; try with_reducible rfl
  try simp only [Act.put, List.setIfInBounds_toArray, List.set_cons_zero, List.set_cons_succ]
  refine takeL 3 (v := ?vmv17) rfl (by kernel_rfl) (by kernel_rfl) (by kernel_rfl) (by kernel_rfl) (by kernel_rfl) (fun _ _ _ h => h) hH rfl ?ymv17 ?rmv17
  case ymv17 => intro W hSw; go_simp; try with_reducible rfl
  try simp only [Act.put, List.setIfInBounds_toArray, List.set_cons_zero, List.set_cons_succ]
  refine takeL 4 (v := ?vmv18) rfl (by kernel_rfl) (by kernel_rfl) (by kernel_rfl) (by kernel_rfl) (by kernel_rfl) (fun _ _ _ h => h) hH rfl ?ymv18 ?rmv18
  case ymv18 => intro W hSw; go_simp; try with_reducible rfl
  try simp only [Act.put, List.setIfInBounds_toArray, List.set_cons_zero, List.set_cons_succ]
  refine takeL 5 (v := ?vmv19) rfl (by kernel_rfl) (by kernel_rfl) (by kernel_rfl) (by kernel_rfl) (by kernel_rfl) (fun _ _ _ h => h) hH rfl ?ymv19 ?rmv19
  case ymv19 => intro W hSw; go_simp; try with_reducible rfl
  try simp only [Act.put, List.setIfInBounds_toArray, List.set_cons_zero, List.set_cons_succ]
  refine takeL 6 (v := ?vmv20) rfl (by kernel_rfl) (by kernel_rfl) (by kernel_rfl) (by kernel_rfl) (by kernel_rfl) (fun _ _ _ h => h) hH rfl ?ymv20 ?rmv20
  case ymv20 => intro W hSw; go_simp; try with_reducible rfl
  try simp only [Act.put, List.setIfInBounds_toArray, List.set_cons_zero, List.set_cons_succ]
  refine takeL 7 (v := ?vmv21) rfl (by kernel_rfl) (by kernel_rfl) (by kernel_rfl) (by kernel_rfl) (by kernel_rfl) (fun _ _ _ h => h) hH rfl ?ymv21 ?rmv21
  case ymv21 => intro W hSw; go_simp; try with_reducible rfl
  try simp only [Act.put, List.setIfInBounds_toArray, List.set_cons_zero, List.set_cons_succ]
  refine takeL 8 (v := .int .i64 (bj + s)) rfl (by kernel_rfl) (by kernel_rfl) (by kernel_rfl) (by kernel_rfl) (by kernel_rfl) (fun _ _ _ h => h) hH rfl ?ymv22 ?rmv22
  case ymv22 => intro W hSw; go_simp; first | done | (simp [w2'])
  try simp only [Act.put, List.setIfInBounds_toArray, List.set_cons_zero, List.set_cons_succ]
  refine callL 9 rfl (by kernel_rfl) rfl (fun K hK => ?_)
  go_simp
  refine hK.out _ _ ⟨S0.out.cell 0 (v := .int .i64 i) rfl, S0.out.cell 1 (v := .int .i64 j) rfl, S0.out.cell 2 (v := .int .i64 s) rfl, S0.out.cell 3 (v := .int .i64 ee) rfl, c9.out⟩ (fun hH => ?_)
  clear hK K
  try simp only [Act.put, List.setIfInBounds_toArray, List.set_cons_zero, List.set_cons_succ]
  refine takeL 10 (v := ?vmv23) rfl (by kernel_rfl) (by kernel_rfl) (by kernel_rfl) (by kernel_rfl) (by kernel_rfl) (fun _ _ _ h => h) hH rfl ?ymv23 ?rmv23
  case ymv23 => intro W hSw; go_simp; try with_reducible rfl
  try simp only [Act.put, List.setIfInBounds_toArray, List.set_cons_zero, List.set_cons_succ]
  refine lastL rfl (by kernel_rfl) (by kernel_rfl) (by kernel_rfl) rfl (fun K hK => ?_)
  have y9 := S9.out.frozen j
  have q9 := c9.out
  go_simp
  clear y9 q9
  have S0 := Lib.hid (S0.out.other (B' := B) (by omega) j (.int .i64 (bj + s)))
  have S9 := Lib.hid (S9.out.setb (by first | exact H6.out | (rw [List.length_set]; exact H6.out)) hj6 (bj + s))
  have Hg := Lib.hid (grownBy_trans Hg.out (grownBy_set wd B j (.int .i64 (bj + s))))
  refine hK.out _ _ ?_
  clear hK K hH c9
  try simp only [Act.put]
  generalize (wd.setCell ⟨B, j, none⟩ (.int .i64 (bj + s))) = W6 at *
  go_wp2
  refine bodyPost_end (results_none rfl _ _ _) rfl ?_
  have h9 := S9.out
  rw [Hap.out] at h9
  exact ⟨rfl, h9, Hg.out⟩

end Go.Proofs.Ytfnhafgjdnlhiaa

/- The library's test whether two lists of ints are the same, and its copy of a list of ints, by walks of their texts; conditions: the lists have fewer than 2^40 elements. -/
namespace Go.Proofs.Ytfnhafgjdnlhiaa
open Go.RowKit

def EqTo (xs ys : List Int) (k : Nat) : Prop := ∀ j (h : j < xs.length) (h' : j < ys.length), j < k → xs[j] = ys[j]
theorem eqTo_step {xs ys : List Int} {k : Nat} (h : EqTo xs ys k) (hk : k < xs.length) (hk' : k < ys.length) (e : xs[k] = ys[k]) : EqTo xs ys (k + 1) := by
  intro j hj hj' hjk
  by_cases ej : j = k
  · subst ej; exact e
  · exact h j hj hj' (by omega)
theorem eqTo_all {xs ys : List Int} {k : Nat} (h : EqTo xs ys k) (hk : xs.length ≤ k) (hl : xs.length = ys.length) : xs = ys :=
  List.ext_getElem hl fun j h1 h2 => h j h1 h2 (by omega)

theorem lib_Clone (hT : IntT Try.prog 23 3) (pa : Option Addr) (pc : Nat) (ps : List Int) (w : World) (hbp : ps.length ≤ 1099511627776) (hs : SrcAt w pa pc ps) (hi : IntsAt w pa ps) :
    Calls Try.prog 52 #[.slice pa ps.length pc] w fun e w' => ∃ v, e = .returned v ∧ Own 3 w' w.heap.size v ps ∧ Below w.heap.size w w' := by
  have hq : ∀ (w : World) (a : Option Addr) (n c n' c' : Nat), (binOp .eql 23 (.slice a n c) (.slice none n' c')).run Try.prog w = .ok (.bool a.isNone) w := fun w a n c n' c' => Lib.run_eql_slice_nil w _ _ a n c n' c' Try.underlying23
  cases pa with
  | none =>
    have hp0 : ps = [] := by
      rcases hi with h | ⟨b, off, e, _⟩
      · exact h
      · cases e
    subst hp0
    clear hs hi
    go_enter Try.func52, Try.ntmps52
    go_wp2
    go_ret
    exact ⟨_, rfl, Own.nil _ _ _, Below.refl _ _⟩
  | some ad =>
    have hb2 : Below w.heap.size w (w.alloc (.cells #[] 3)) := (Below.refl _ _).alloc (Nat.le_refl _) _
    have ho := own_empty 3 w (Nat.le_refl _)
    have hsrc : SrcAt (w.alloc (.cells #[] 3)) (some ad) pc ps := by
      rcases hs with h | ⟨ad', e, hc⟩
      · exact .inl h
      · cases e
        refine .inr ⟨ad, rfl, fun j hj => ?_⟩
        obtain ⟨b, off, e, hb, _⟩ := hi.cell (by omega)
        cases e
        have := hc j hj
        rw [addr_add'] at this ⊢
        exact (hb2.cell (p := ⟨b, off + j, none⟩) hb).trans this
    have hzs : (w.alloc (.cells #[] 3)).heap.size = w.heap.size + 1 := by simp
    have Ho := Lib.hid ho; clear ho
    have Hsrc := Lib.hid hsrc; clear hsrc
    have Hb2 := Lib.hid hb2; clear hb2 hs hi
    go_enter Try.func52, Try.ntmps52
    go_wp2_with (at_builtin; refine wpList_appI hT rfl _ _ rfl w.heap.size (.slice (some ⟨w.heap.size, 0, none⟩) 0 0) [] ps _ _ rfl Ho.out rfl Hsrc.out (by simp; omega) (by rw [hzs]; omega) ?_; intro v5 w5 hown hg5; (rw [List.nil_append] at hown))
    go_ret
    exact ⟨_, rfl, hown, Hb2.out.grown hg5 (by omega) (fun g e => by cases e; exact Nat.le_refl _)⟩

end Go.Proofs.Ytfnhafgjdnlhiaa

/- The program's ledger made of an argument, its space for fees, the execution of a transaction, and the answer's copy, each by a walk of its text; conditions: the ledger is valid where it says so. -/
namespace Go.Proofs.Ytfnhafgjdnlhiaa
open Go.RowKit

set_option maxHeartbeats 2000000 in
theorem lg_ledgerOf (a : Option Addr) (cap : Nat) (l : List Int) (n : Int) (w : World) (hbig : l.length ≤ 1099511627776) (hl : IntsAt w a l) (hv : ldB l n = true) :
    Calls Try.prog 37 #[.agg #[.slice a l.length cap, .int .i64 n]] w fun e w' => ∃ B, e = .returned (.tuple #[.pointer (some ⟨B, 0, none⟩), .bool true]) ∧ w.heap.size ≤ B ∧ B < w'.heap.size ∧ Lg 69 w' B l n ∧ Below w.heap.size w w' := by
  obtain ⟨-, -, hn0, hn1⟩ := ldB_iff.1 hv
  have hb0 : Below w.heap.size w (w.alloc (.cells #[.slice a l.length cap, .int .i64 n] 25)) := (Below.refl _ _).alloc (Nat.le_refl _) _
  have s1 := Str.new w 25 #[.slice a l.length cap, .int .i64 n]
  have hl0 := hl.below hb0
  have hz : (w.alloc (.cells #[.slice a l.length cap, .int .i64 n] 25)).heap.size = w.heap.size + 1 := by simp
  have k0 := s1.cell 0 (v := .slice a l.length cap) rfl
  have k1 := s1.cell 1 (v := .int .i64 n) rfl
  have S1 := Lib.hid s1; have Hb := Lib.hid hb0; have Hl := Lib.hid hl0; clear s1 hb0 hl0 hl
  have HB := Lib.hid (fun W (h : IntsAt W a l) => lg_balancesOf a cap l W hbig h)
  unfold BoP c6 at HB
  obtain ⟨g0, h0⟩ : ∃ z, z = gd l 0 := ⟨_, rfl⟩
  obtain ⟨g1, h1⟩ : ∃ z, z = gd l 1 := ⟨_, rfl⟩
  obtain ⟨g2, h2⟩ : ∃ z, z = gd l 2 := ⟨_, rfl⟩
  obtain ⟨g3, h3⟩ : ∃ z, z = gd l 3 := ⟨_, rfl⟩
  obtain ⟨g4, h4⟩ : ∃ z, z = gd l 4 := ⟨_, rfl⟩
  obtain ⟨g5, h5⟩ : ∃ z, z = gd l 5 := ⟨_, rfl⟩
  have Hc7 := Lib.hid (show c7 l n = #[.int .i64 g0, .int .i64 g1, .int .i64 g2, .int .i64 g3, .int .i64 g4, .int .i64 g5, .int .i64 n] from by unfold c7; rw [h0, h1, h2, h3, h4, h5])
  rw [← h0, ← h1, ← h2, ← h3, ← h4, ← h5] at HB
  clear h0 h1 h2 h3 h4 h5
  have hld := okB_ld l n
  rw [hv] at hld
  have Hld := Lib.hid hld; clear hld hv
  go_enter Try.func37, Try.ntmps37
  go_wp2_with fail
  generalize (w.alloc (.cells #[.slice a l.length cap, .int .i64 n] 25)) = W0 at *
  refine (HB.out _ Hl.out).mono ?_
  rintro e w1 ⟨⟨h, rfl⟩ | ⟨h, rfl⟩, hb1⟩
  case inr =>
    have h9 := Hld.out
    rw [h] at h9
    cases h9
  clear h Hld
  have hal : Below w1.heap.size w1 (w1.alloc (.cells #[.int .i64 g0, .int .i64 g1, .int .i64 g2, .int .i64 g3, .int .i64 g4, .int .i64 g5] 67)) := (Below.refl _ _).alloc (Nat.le_refl _) _
  have Hb := Lib.hid (below_step (below_step Hb.out Hb.out.size hb1) (Nat.le_trans Hb.out.size hb1.size) hal)
  have S1 := Lib.hid (show Str (w1.alloc (.cells #[.int .i64 g0, .int .i64 g1, .int .i64 g2, .int .i64 g3, .int .i64 g4, .int .i64 g5] 67)) w.heap.size 25 #[.slice a l.length cap, .int .i64 n] from Str.alloc ((hb1.block _ S1.out.lt).trans S1.out) _)
  have S2 := Lib.hid (Str.new w1 67 #[.int .i64 g0, .int .i64 g1, .int .i64 g2, .int .i64 g3, .int .i64 g4, .int .i64 g5])
  clear hal hb1 k0 k1
  have k1 := S1.out.cell 1 (v := .int .i64 n) rfl
  have b0 := S2.out.cell 0 (v := .int .i64 g0) rfl
  have b1 := S2.out.cell 1 (v := .int .i64 g1) rfl
  have b2 := S2.out.cell 2 (v := .int .i64 g2) rfl
  have b3 := S2.out.cell 3 (v := .int .i64 g3) rfl
  have b4 := S2.out.cell 4 (v := .int .i64 g4) rfl
  have b5 := S2.out.cell 5 (v := .int .i64 g5) rfl
  have hex : w.heap.size ≤ w1.heap.size + 1 := by have := Hb.out.size; simp only [World.size_alloc] at this; omega
  have d1 : decide (n < 0) = false := decide_eq_false (by omega)
  have d2 : decide (5994 < n) = false := decide_eq_false (by omega)
  clear S1
  have sN := Str.new (w1.alloc (.cells #[.int .i64 g0, .int .i64 g1, .int .i64 g2, .int .i64 g3, .int .i64 g4, .int .i64 g5] 67)) 69 #[.int .i64 g0, .int .i64 g1, .int .i64 g2, .int .i64 g3, .int .i64 g4, .int .i64 g5, .int .i64 n]
  have bN : Below w.heap.size w ((w1.alloc (.cells #[.int .i64 g0, .int .i64 g1, .int .i64 g2, .int .i64 g3, .int .i64 g4, .int .i64 g5] 67)).alloc (.cells #[.int .i64 g0, .int .i64 g1, .int .i64 g2, .int .i64 g3, .int .i64 g4, .int .i64 g5, .int .i64 n] 69)) := Hb.out.alloc (by simp only [World.size_alloc]; omega) _
  simp only [World.size_alloc] at sN
  have hN : w1.heap.size + 1 < ((w1.alloc (.cells #[.int .i64 g0, .int .i64 g1, .int .i64 g2, .int .i64 g3, .int .i64 g4, .int .i64 g5] 67)).alloc (.cells #[.int .i64 g0, .int .i64 g1, .int .i64 g2, .int .i64 g3, .int .i64 g4, .int .i64 g5, .int .i64 n] 69)).heap.size := sN.lt
  have SN := Lib.hid sN; have BN := Lib.hid bN; have HN := Lib.hid hN; have HX := Lib.hid hex; clear sN bN hN hex
  go_wp2
  refine bodyPost_ret (results_tmp2 rfl _ _ _) rfl ?_
  have h9 := SN.out
  exact ⟨w1.heap.size + 1, rfl, HX.out, HN.out, by show Str _ _ _ (c7 l n); rw [Hc7.out]; exact h9, BN.out⟩

set_option maxHeartbeats 2000000 in
theorem lg_ledgerOf_no (a : Option Addr) (cap : Nat) (l : List Int) (n : Int) (w : World) (hbig : l.length ≤ 1099511627776) (hl : IntsAt w a l) (hv : ldB l n = false) :
    Calls Try.prog 37 #[.agg #[.slice a l.length cap, .int .i64 n]] w fun e w' => e = .returned (.tuple #[.pointer none, .bool false]) ∧ Below w.heap.size w w' := by
  have hb0 : Below w.heap.size w (w.alloc (.cells #[.slice a l.length cap, .int .i64 n] 25)) := (Below.refl _ _).alloc (Nat.le_refl _) _
  have s1 := Str.new w 25 #[.slice a l.length cap, .int .i64 n]
  have hl0 := hl.below hb0
  have hz : (w.alloc (.cells #[.slice a l.length cap, .int .i64 n] 25)).heap.size = w.heap.size + 1 := by simp
  have k0 := s1.cell 0 (v := .slice a l.length cap) rfl
  have k1 := s1.cell 1 (v := .int .i64 n) rfl
  have S1 := Lib.hid s1; have Hb := Lib.hid hb0; have Hl := Lib.hid hl0; clear s1 hb0 hl0 hl
  have HB := Lib.hid (fun W (h : IntsAt W a l) => lg_balancesOf a cap l W hbig h)
  unfold BoP c6 at HB
  obtain ⟨g0, h0⟩ : ∃ z, z = gd l 0 := ⟨_, rfl⟩
  obtain ⟨g1, h1⟩ : ∃ z, z = gd l 1 := ⟨_, rfl⟩
  obtain ⟨g2, h2⟩ : ∃ z, z = gd l 2 := ⟨_, rfl⟩
  obtain ⟨g3, h3⟩ : ∃ z, z = gd l 3 := ⟨_, rfl⟩
  obtain ⟨g4, h4⟩ : ∃ z, z = gd l 4 := ⟨_, rfl⟩
  obtain ⟨g5, h5⟩ : ∃ z, z = gd l 5 := ⟨_, rfl⟩
  have Hc7 := Lib.hid (show c7 l n = #[.int .i64 g0, .int .i64 g1, .int .i64 g2, .int .i64 g3, .int .i64 g4, .int .i64 g5, .int .i64 n] from by unfold c7; rw [h0, h1, h2, h3, h4, h5])
  rw [← h0, ← h1, ← h2, ← h3, ← h4, ← h5] at HB
  clear h0 h1 h2 h3 h4 h5
  have hld := okB_ld l n
  rw [hv] at hld
  have Hld := Lib.hid hld; clear hld hv
  go_enter Try.func37, Try.ntmps37
  go_wp2_with fail
  generalize (w.alloc (.cells #[.slice a l.length cap, .int .i64 n] 25)) = W0 at *
  refine (HB.out _ Hl.out).mono ?_
  rintro e w1 ⟨⟨h, rfl⟩ | ⟨h, rfl⟩, hb1⟩
  case inr =>
    clear h Hld
    have hal : Below w1.heap.size w1 (w1.alloc (.cells #[.int .i64 0, .int .i64 0, .int .i64 0, .int .i64 0, .int .i64 0, .int .i64 0] 67)) := (Below.refl _ _).alloc (Nat.le_refl _) _
    have Hb := Lib.hid (below_step (below_step Hb.out Hb.out.size hb1) (Nat.le_trans Hb.out.size hb1.size) hal)
    have S1 := Lib.hid (show Str (w1.alloc (.cells #[.int .i64 0, .int .i64 0, .int .i64 0, .int .i64 0, .int .i64 0, .int .i64 0] 67)) w.heap.size 25 #[.slice a l.length cap, .int .i64 n] from Str.alloc ((hb1.block _ S1.out.lt).trans S1.out) _)
    have S2 := Lib.hid (Str.new w1 67 #[.int .i64 0, .int .i64 0, .int .i64 0, .int .i64 0, .int .i64 0, .int .i64 0])
    clear hal hb1 k0 k1
    have k1 := S1.out.cell 1 (v := .int .i64 n) rfl
    clear S1 S2
    go_wp2
    refine bodyPost_ret (results_tmp2 rfl _ _ _) rfl ?_
    exact ⟨rfl, Hb.out⟩
  have h9 := Hld.out
  rw [h] at h9
  have hn : ¬ (0 ≤ n ∧ n ≤ 5994) := by
    intro h; rw [decide_eq_true h] at h9; cases h9
  clear h h9 Hld
  have hal : Below w1.heap.size w1 (w1.alloc (.cells #[.int .i64 g0, .int .i64 g1, .int .i64 g2, .int .i64 g3, .int .i64 g4, .int .i64 g5] 67)) := (Below.refl _ _).alloc (Nat.le_refl _) _
  have Hb := Lib.hid (below_step (below_step Hb.out Hb.out.size hb1) (Nat.le_trans Hb.out.size hb1.size) hal)
  have S1 := Lib.hid (show Str (w1.alloc (.cells #[.int .i64 g0, .int .i64 g1, .int .i64 g2, .int .i64 g3, .int .i64 g4, .int .i64 g5] 67)) w.heap.size 25 #[.slice a l.length cap, .int .i64 n] from Str.alloc ((hb1.block _ S1.out.lt).trans S1.out) _)
  have S2 := Lib.hid (Str.new w1 67 #[.int .i64 g0, .int .i64 g1, .int .i64 g2, .int .i64 g3, .int .i64 g4, .int .i64 g5])
  clear hal hb1 k0 k1
  have k1 := S1.out.cell 1 (v := .int .i64 n) rfl
  clear S1 S2
  by_cases h0 : n < 0
  · have d1 : decide (n < 0) = true := decide_eq_true h0
    go_wp2
    refine bodyPost_ret (results_tmp2 rfl _ _ _) rfl ?_
    exact ⟨rfl, Hb.out⟩
  · have d1 : decide (n < 0) = false := decide_eq_false h0
    have d2 : decide (5994 < n) = true := decide_eq_true (by omega)
    have d3 : 5994 < n := by omega
    clear hn
    go_wp2
    refine bodyPost_ret (results_tmp2 rfl _ _ _) rfl ?_
    exact ⟨rfl, Hb.out⟩

theorem lg_hasSpace (B : Nat) (l : List Int) (n m : Int) (w : World) (hn : 0 ≤ n ∧ n ≤ 5994) (hm : 0 ≤ m ∧ m ≤ 100) (hs : Lg 69 w B l n) :
    Calls Try.prog 39 #[.pointer (some ⟨B, 0, none⟩), .int .i64 m] w fun e w' => e = .returned (.bool (decide (n ≤ 5994 - 9 * m))) ∧ w = w' := by
  have c6 := hs.fees
  clear hs
  have hw1 : IntKind.i64.wrap (9 * m) = 9 * m := IntWalk.i64_in _ (by omega)
  have hw2 : IntKind.i64.wrap (n + 9 * m) = n + 9 * m := IntWalk.i64_in _ (by omega)
  have Hd := Lib.hid (show decide (n ≤ 5994 - 9 * m) = decide (n + 9 * m ≤ 5994) from decide_eq_decide.2 (by omega))
  generalize decide (n ≤ 5994 - 9 * m) = bb at *
  clear hn hm
  go_enter Try.func39, Try.ntmps39
  go_wp2
  go_ret
  exact ⟨ret_bool Hd.out.symm, rfl⟩

theorem lg_weak {w W : World} (h : Below w.heap.size w W) (B : Nat) : w.grownBy W (some B) := ⟨h.os, h.tape, h.output, h.size, fun k hk _ => h.block k hk⟩
set_option maxHeartbeats 4000000 in
theorem lg_execute (B : Nat) (l : List Int) (n : Int) (x : Tx) (w : World) (hv : ldB l n = true) (hs : Lg 69 w B l n) :
    Calls Try.prog 32 #[.pointer (some ⟨B, 0, none⟩), agT x] w fun e w' => e = .returned (.bool (okT l x)) ∧ Lg 69 w' B (apL l x) (apF l n x) ∧ w.grownBy w' (some B) := by
  obtain ⟨hv1, hv2, hn0, hn1⟩ := ldB_iff.1 hv
  have Hv := Lib.hid hv; clear hv hv1 hv2
  have hg0 := World.grownBy_alloc w (.cells #[.int .i64 x.f, .int .i64 x.t, .int .i64 x.s, .int .i64 x.e] 41) (some B)
  have s0 := Str.new w 41 #[.int .i64 x.f, .int .i64 x.t, .int .i64 x.s, .int .i64 x.e]
  have s9 : Lg 69 (w.alloc (.cells #[.int .i64 x.f, .int .i64 x.t, .int .i64 x.s, .int .i64 x.e] 41)) B l n := Str.alloc hs _
  have hBw := hs.lt
  have hBne : w.heap.size ≠ B := by omega
  have Hg := Lib.hid hg0; have S0 := Lib.hid s0; have S9 := Lib.hid s9; clear hg0 s0 s9 hs
  have HT := Lib.hid (fun W => lg_valid x W)
  have HA := Lib.hid (fun W (h : txB x = true) (hs : Lg 69 W B l n) => lg_allows B l n x W Hv.out h hs)
  have HM := Lib.hid (fun W (h : okT l x = true) (hs : Lg 69 W B l n) => lg_move B l n x W Hv.out h hs)
  unfold agT at HT HA HM ⊢
  go_enter Try.func32, Try.ntmps32
  go_wp2_with fail
  generalize (w.alloc (.cells #[.int .i64 x.f, .int .i64 x.t, .int .i64 x.s, .int .i64 x.e] 41)) = W0 at *
  refine wp_region_held_drew (S := fun w' => w'.cell? ⟨w.heap.size, 0, none⟩ = some (.int .i64 x.f) ∧ w'.cell? ⟨w.heap.size, 1, none⟩ = some (.int .i64 x.t) ∧ w'.cell? ⟨w.heap.size, 2, none⟩ = some (.int .i64 x.s) ∧ w'.cell? ⟨w.heap.size, 3, none⟩ = some (.int .i64 x.e)) (by kernel_rfl) ⟨S0.out.cell 0 (v := .int .i64 x.f) rfl, S0.out.cell 1 (v := .int .i64 x.t) rfl, S0.out.cell 2 (v := .int .i64 x.s) rfl, S0.out.cell 3 (v := .int .i64 x.e) rfl⟩ (fun hH => ?_)
  have S0 := Lib.hid (show Str W0.drew w.heap.size 41 #[.int .i64 x.f, .int .i64 x.t, .int .i64 x.s, .int .i64 x.e] from S0.out)
  have Hg := Lib.hid (lg_drew Hg.out)
  have S9 := Lib.hid (show Lg 69 W0.drew B l n from S9.out)
  generalize W0.drew = wd at *
  have hbt : txB x = true ∨ txB x = false := by cases txB x <;> simp
  have hbo : okT l x = true ∨ okT l x = false := by cases okT l x <;> simp
  refine takeH 0 (v := ?vex1) rfl (by kernel_rfl) (by kernel_rfl) (by kernel_rfl) (fun _ _ _ h => h) hH rfl ?yex1 ?rex1
  case yex1 => intro W hSw; go_simp; try with_reducible rfl
  try simp only [Act.put, List.setIfInBounds_toArray, List.set_cons_zero, List.set_cons_succ]
  rcases hbt with hbt | hbt
  case inr =>
    have h9 := HT.out
    rw [hbt] at h9
    have HT := Lib.hid h9; clear h9
    have Hno := Lib.hid (show okT l x = false by unfold okT; rw [hbt]; rfl)
    clear hbt hbo HA HM
    refine callH 1 rfl (by kernel_rfl) rfl (fun K hK => ?_)
    go_simp
    refine (HT.out _).mono ?_
    rintro e w5 ⟨rfl, hb⟩
    have S0 := Lib.hid (show Str w5 w.heap.size 41 #[.int .i64 x.f, .int .i64 x.t, .int .i64 x.s, .int .i64 x.e] from (hb.block _ S0.out.lt).trans S0.out)
    have S9 := Lib.hid (show Lg 69 w5 B l n from (hb.block _ S9.out.lt).trans S9.out)
    have Hg := Lib.hid (grownBy_trans Hg.out (lg_weak hb B))
    clear hb
    refine hK.out _ _ ⟨S0.out.cell 0 (v := .int .i64 x.f) rfl, S0.out.cell 1 (v := .int .i64 x.t) rfl, S0.out.cell 2 (v := .int .i64 x.s) rfl, S0.out.cell 3 (v := .int .i64 x.e) rfl⟩ (fun hH => ?_)
    clear hK K
    try simp only [Act.put, List.setIfInBounds_toArray, List.set_cons_zero, List.set_cons_succ]
    refine takeH 2 (v := ?vex2) rfl (by kernel_rfl) (by kernel_rfl) (by kernel_rfl) (fun _ _ _ h => h) hH rfl ?yex2 ?rex2
    case yex2 => intro W hSw; go_simp; try with_reducible rfl
    try simp only [Act.put, List.setIfInBounds_toArray, List.set_cons_zero, List.set_cons_succ]
    refine takeH 3 (v := ?vex3) rfl (by kernel_rfl) (by kernel_rfl) (by kernel_rfl) (fun _ _ _ h => h) hH rfl ?yex3 ?rex3
    case yex3 => intro W hSw; go_simp; try with_reducible rfl
    try simp only [Act.put, List.setIfInBounds_toArray, List.set_cons_zero, List.set_cons_succ]
    refine skipH 4 rfl (by kernel_rfl) (by kernel_rfl) (by kernel_rfl) (fun _ _ _ h => h) hH rfl ?_
    try simp only [Act.put, List.setIfInBounds_toArray, List.set_cons_zero, List.set_cons_succ]
    refine skipH 5 rfl (by kernel_rfl) (by kernel_rfl) (by kernel_rfl) (fun _ _ _ h => h) hH rfl ?_
    try simp only [Act.put, List.setIfInBounds_toArray, List.set_cons_zero, List.set_cons_succ]
    refine skipH 6 rfl (by kernel_rfl) (by kernel_rfl) (by kernel_rfl) (fun _ _ _ h => h) hH rfl ?_
    try simp only [Act.put, List.setIfInBounds_toArray, List.set_cons_zero, List.set_cons_succ]
    refine skipH 7 rfl (by kernel_rfl) (by kernel_rfl) (by kernel_rfl) (fun _ _ _ h => h) hH rfl ?_
    try simp only [Act.put, List.setIfInBounds_toArray, List.set_cons_zero, List.set_cons_succ]
    refine skipH 8 rfl (by kernel_rfl) (by kernel_rfl) (by kernel_rfl) (fun _ _ _ h => h) hH rfl ?_
    try simp only [Act.put, List.setIfInBounds_toArray, List.set_cons_zero, List.set_cons_succ]
    refine skipH 9 rfl (by kernel_rfl) (by kernel_rfl) (by kernel_rfl) (fun _ _ _ h => h) hH rfl ?_
    try simp only [Act.put, List.setIfInBounds_toArray, List.set_cons_zero, List.set_cons_succ]
    refine takeH 10 (v := ?vex4) rfl (by kernel_rfl) (by kernel_rfl) (by kernel_rfl) (fun _ _ _ h => h) hH rfl ?yex4 ?rex4
    case yex4 => intro W hSw; go_simp; try with_reducible rfl
    try simp only [Act.put, List.setIfInBounds_toArray, List.set_cons_zero, List.set_cons_succ]
    refine wpAnyH_done (by kernel_rfl) ?_ _
    try simp only [Act.put]
    clear hH
    have S9 := Lib.hid (show Lg 69 w5 B (apL l x) (apF l n x) from by rw [(ap_no (n := n) Hno.out).1, (ap_no (l := l) (n := n) Hno.out).2]; exact S9.out)
    go_wp2
    go_ret
    exact ⟨ret_bool Hno.out.symm, S9.out, Hg.out⟩
  have h9 := HT.out
  rw [hbt] at h9
  have HT := Lib.hid h9; clear h9
  have Hbt := Lib.hid hbt; clear hbt
  refine callH 1 rfl (by kernel_rfl) rfl (fun K hK => ?_)
  go_simp
  refine (HT.out _).mono ?_
  rintro e w4 ⟨rfl, hb⟩
  have S0 := Lib.hid (show Str w4 w.heap.size 41 #[.int .i64 x.f, .int .i64 x.t, .int .i64 x.s, .int .i64 x.e] from (hb.block _ S0.out.lt).trans S0.out)
  have S9 := Lib.hid (show Lg 69 w4 B l n from (hb.block _ S9.out.lt).trans S9.out)
  have Hg := Lib.hid (grownBy_trans Hg.out (lg_weak hb B))
  clear hb
  refine hK.out _ _ ⟨S0.out.cell 0 (v := .int .i64 x.f) rfl, S0.out.cell 1 (v := .int .i64 x.t) rfl, S0.out.cell 2 (v := .int .i64 x.s) rfl, S0.out.cell 3 (v := .int .i64 x.e) rfl⟩ (fun hH => ?_)
  clear hK K
  try simp only [Act.put, List.setIfInBounds_toArray, List.set_cons_zero, List.set_cons_succ]
  refine takeH 2 (v := ?vex5) rfl (by kernel_rfl) (by kernel_rfl) (by kernel_rfl) (fun _ _ _ h => h) hH rfl ?yex5 ?rex5
  case yex5 => intro W hSw; go_simp; try with_reducible rfl
  try simp only [Act.put, List.setIfInBounds_toArray, List.set_cons_zero, List.set_cons_succ]
  refine takeH 3 (v := ?vex6) rfl (by kernel_rfl) (by kernel_rfl) (by kernel_rfl) (fun _ _ _ h => h) hH rfl ?yex6 ?rex6
  case yex6 => intro W hSw; go_simp; try with_reducible rfl
  try simp only [Act.put, List.setIfInBounds_toArray, List.set_cons_zero, List.set_cons_succ]
  refine takeH 4 (v := ?vex7) rfl (by kernel_rfl) (by kernel_rfl) (by kernel_rfl) (fun _ _ _ h => h) hH rfl ?yex7 ?rex7
  case yex7 => intro W hSw; go_simp; try with_reducible rfl
  try simp only [Act.put, List.setIfInBounds_toArray, List.set_cons_zero, List.set_cons_succ]
  refine takeH 5 (v := ?vex8) rfl (by kernel_rfl) (by kernel_rfl) (by kernel_rfl) (fun _ _ _ h => h) hH rfl ?yex8 ?rex8
  case yex8 => intro W hSw; go_simp; try with_reducible rfl
  try simp only [Act.put, List.setIfInBounds_toArray, List.set_cons_zero, List.set_cons_succ]
  refine takeH 6 (v := ?vex9) rfl (by kernel_rfl) (by kernel_rfl) (by kernel_rfl) (fun _ _ _ h => h) hH rfl ?yex9 ?rex9
  case yex9 => intro W hSw; go_simp; try with_reducible rfl
  try simp only [Act.put, List.setIfInBounds_toArray, List.set_cons_zero, List.set_cons_succ]
  refine takeH 7 (v := ?vex10) rfl (by kernel_rfl) (by kernel_rfl) (by kernel_rfl) (fun _ _ _ h => h) hH rfl ?yex10 ?rex10
  case yex10 => intro W hSw; go_simp; try with_reducible rfl
  try simp only [Act.put, List.setIfInBounds_toArray, List.set_cons_zero, List.set_cons_succ]
  rcases hbo with hbo | hbo
  case inr =>
    have h9 := fun W => HA.out W Hbt.out
    rw [hbo] at h9
    have HA := Lib.hid h9; clear h9
    have Hno := Lib.hid hbo
    clear hbo HM
    refine callH 8 rfl (by kernel_rfl) rfl (fun K hK => ?_)
    go_simp
    refine (HA.out _ S9.out).mono ?_
    rintro e w5 ⟨rfl, hb⟩
    have S0 := Lib.hid (show Str w5 w.heap.size 41 #[.int .i64 x.f, .int .i64 x.t, .int .i64 x.s, .int .i64 x.e] from (hb.block _ S0.out.lt).trans S0.out)
    have S9 := Lib.hid (show Lg 69 w5 B l n from (hb.block _ S9.out.lt).trans S9.out)
    have Hg := Lib.hid (grownBy_trans Hg.out (lg_weak hb B))
    clear hb
    refine hK.out _ _ ⟨S0.out.cell 0 (v := .int .i64 x.f) rfl, S0.out.cell 1 (v := .int .i64 x.t) rfl, S0.out.cell 2 (v := .int .i64 x.s) rfl, S0.out.cell 3 (v := .int .i64 x.e) rfl⟩ (fun hH => ?_)
    clear hK K
    try simp only [Act.put, List.setIfInBounds_toArray, List.set_cons_zero, List.set_cons_succ]
    refine takeH 9 (v := ?vex11) rfl (by kernel_rfl) (by kernel_rfl) (by kernel_rfl) (fun _ _ _ h => h) hH rfl ?yex11 ?rex11
    case yex11 => intro W hSw; go_simp; try with_reducible rfl
    try simp only [Act.put, List.setIfInBounds_toArray, List.set_cons_zero, List.set_cons_succ]
    refine takeH 10 (v := ?vex12) rfl (by kernel_rfl) (by kernel_rfl) (by kernel_rfl) (fun _ _ _ h => h) hH rfl ?yex12 ?rex12
    case yex12 => intro W hSw; go_simp; try with_reducible rfl
    try simp only [Act.put, List.setIfInBounds_toArray, List.set_cons_zero, List.set_cons_succ]
    refine wpAnyH_done (by kernel_rfl) ?_ _
    try simp only [Act.put]
    clear hH
    have S9 := Lib.hid (show Lg 69 w5 B (apL l x) (apF l n x) from by rw [(ap_no (n := n) Hno.out).1, (ap_no (l := l) (n := n) Hno.out).2]; exact S9.out)
    go_wp2
    go_ret
    exact ⟨ret_bool Hno.out.symm, S9.out, Hg.out⟩
  have h9 := fun W => HA.out W Hbt.out
  rw [hbo] at h9
  have HA := Lib.hid h9; clear h9
  have Hyes := Lib.hid hbo
  clear hbo
  refine callH 8 rfl (by kernel_rfl) rfl (fun K hK => ?_)
  go_simp
  refine (HA.out _ S9.out).mono ?_
  rintro e w5 ⟨rfl, hb⟩
  have S0 := Lib.hid (show Str w5 w.heap.size 41 #[.int .i64 x.f, .int .i64 x.t, .int .i64 x.s, .int .i64 x.e] from (hb.block _ S0.out.lt).trans S0.out)
  have S9 := Lib.hid (show Lg 69 w5 B l n from (hb.block _ S9.out.lt).trans S9.out)
  have Hg := Lib.hid (grownBy_trans Hg.out (lg_weak hb B))
  clear hb
  refine hK.out _ _ ⟨S0.out.cell 0 (v := .int .i64 x.f) rfl, S0.out.cell 1 (v := .int .i64 x.t) rfl, S0.out.cell 2 (v := .int .i64 x.s) rfl, S0.out.cell 3 (v := .int .i64 x.e) rfl⟩ (fun hH => ?_)
  clear hK K
  try simp only [Act.put, List.setIfInBounds_toArray, List.set_cons_zero, List.set_cons_succ]
  refine takeH 9 (v := ?vex13) rfl (by kernel_rfl) (by kernel_rfl) (by kernel_rfl) (fun _ _ _ h => h) hH rfl ?yex13 ?rex13
  case yex13 => intro W hSw; go_simp; try with_reducible rfl
  try simp only [Act.put, List.setIfInBounds_toArray, List.set_cons_zero, List.set_cons_succ]
  refine takeH 10 (v := ?vex14) rfl (by kernel_rfl) (by kernel_rfl) (by kernel_rfl) (fun _ _ _ h => h) hH rfl ?yex14 ?rex14
  case yex14 => intro W hSw; go_simp; try with_reducible rfl
  try simp only [Act.put, List.setIfInBounds_toArray, List.set_cons_zero, List.set_cons_succ]
  refine wpAnyH_done (by kernel_rfl) ?_ _
  try simp only [Act.put]
  clear hH
  go_wp2_with fail
  refine wp_region_held_drew (S := fun w' => w'.cell? ⟨w.heap.size, 0, none⟩ = some (.int .i64 x.f) ∧ w'.cell? ⟨w.heap.size, 1, none⟩ = some (.int .i64 x.t) ∧ w'.cell? ⟨w.heap.size, 2, none⟩ = some (.int .i64 x.s) ∧ w'.cell? ⟨w.heap.size, 3, none⟩ = some (.int .i64 x.e)) (by kernel_rfl) ⟨S0.out.cell 0 (v := .int .i64 x.f) rfl, S0.out.cell 1 (v := .int .i64 x.t) rfl, S0.out.cell 2 (v := .int .i64 x.s) rfl, S0.out.cell 3 (v := .int .i64 x.e) rfl⟩ (fun hH => ?_)
  have S0 := Lib.hid (show Str w5.drew w.heap.size 41 #[.int .i64 x.f, .int .i64 x.t, .int .i64 x.s, .int .i64 x.e] from S0.out)
  have Hg := Lib.hid (lg_drew Hg.out)
  have S9 := Lib.hid (show Lg 69 w5.drew B l n from S9.out)
  generalize w5.drew = w6 at *
  refine takeH 0 (v := ?vex15) rfl (by kernel_rfl) (by kernel_rfl) (by kernel_rfl) (fun _ _ _ h => h) hH rfl ?yex15 ?rex15
  case yex15 => intro W hSw; go_simp; try with_reducible rfl
  try simp only [Act.put, List.setIfInBounds_toArray, List.set_cons_zero, List.set_cons_succ]
  refine takeH 1 (v := ?vex16) rfl (by kernel_rfl) (by kernel_rfl) (by kernel_rfl) (fun _ _ _ h => h) hH rfl ?yex16 ?rex16
  case yex16 => intro W hSw; go_simp; try with_reducible rfl
  try simp only [Act.put, List.setIfInBounds_toArray, List.set_cons_zero, List.set_cons_succ]
  refine takeH 2 (v := ?vex17) rfl (by kernel_rfl) (by kernel_rfl) (by kernel_rfl) (fun _ _ _ h => h) hH rfl ?yex17 ?rex17
  case yex17 => intro W hSw; go_simp; try with_reducible rfl
  try simp only [Act.put, List.setIfInBounds_toArray, List.set_cons_zero, List.set_cons_succ]
  refine takeH 3 (v := ?vex18) rfl (by kernel_rfl) (by kernel_rfl) (by kernel_rfl) (fun _ _ _ h => h) hH rfl ?yex18 ?rex18
  case yex18 => intro W hSw; go_simp; try with_reducible rfl
  try simp only [Act.put, List.setIfInBounds_toArray, List.set_cons_zero, List.set_cons_succ]
  refine callH 4 rfl (by kernel_rfl) rfl (fun K hK => ?_)
  go_simp
  refine (HM.out _ Hyes.out S9.out).mono ?_
  rintro e w7 ⟨rfl, s9, hg⟩
  have S0 := Lib.hid (show Str w7 w.heap.size 41 #[.int .i64 x.f, .int .i64 x.t, .int .i64 x.s, .int .i64 x.e] from S0.out.kept hg (by simp; omega))
  have S9 := Lib.hid s9
  have Hg := Lib.hid (grownBy_trans Hg.out hg)
  clear hg s9
  refine hK.out _ _ ⟨S0.out.cell 0 (v := .int .i64 x.f) rfl, S0.out.cell 1 (v := .int .i64 x.t) rfl, S0.out.cell 2 (v := .int .i64 x.s) rfl, S0.out.cell 3 (v := .int .i64 x.e) rfl⟩ (fun hH => ?_)
  clear hK K
  try simp only [Act.put, List.setIfInBounds_toArray, List.set_cons_zero, List.set_cons_succ]
  refine wpAnyH_done (by kernel_rfl) ?_ _
  try simp only [Act.put]
  clear hH
  have hx9 := (txB_iff.1 Hbt.out).2.2.2.2
  have hw9 : IntKind.i64.wrap (n + x.e) = n + x.e := IntWalk.i64_in _ (by omega)
  clear hx9
  go_wp2_with fail
  refine wp_region_L 9 (fun w' => w'.cell? ⟨w.heap.size, 0, none⟩ = some (.int .i64 x.f) ∧ w'.cell? ⟨w.heap.size, 1, none⟩ = some (.int .i64 x.t) ∧ w'.cell? ⟨w.heap.size, 2, none⟩ = some (.int .i64 x.s) ∧ w'.cell? ⟨w.heap.size, 3, none⟩ = some (.int .i64 x.e) ∧ w'.cell? ⟨B, 6, none⟩ = some (.int .i64 n)) (by kernel_rfl) ⟨S0.out.cell 0 (v := .int .i64 x.f) rfl, S0.out.cell 1 (v := .int .i64 x.t) rfl, S0.out.cell 2 (v := .int .i64 x.s) rfl, S0.out.cell 3 (v := .int .i64 x.e) rfl, S9.out.fees⟩ (fun hH => ?_)
  have S0 := Lib.hid (show Str w7.drew w.heap.size 41 #[.int .i64 x.f, .int .i64 x.t, .int .i64 x.s, .int .i64 x.e] from S0.out)
  have Hg := Lib.hid (lg_drew Hg.out)
  have S9 := Lib.hid (show Lg 69 w7.drew B (apL l x) n from S9.out)
  generalize w7.drew = w8 at *
  refine takeL 0 (v := ?vex19) rfl (by kernel_rfl) (by kernel_rfl) (by kernel_rfl) (by kernel_rfl) (by kernel_rfl) (fun _ _ _ h => h) hH rfl ?yex19 ?rex19
  case yex19 => intro W hSw; go_simp; try with_reducible rfl
  try simp only [Act.put, List.setIfInBounds_toArray, List.set_cons_zero, List.set_cons_succ]
  refine takeL 1 (v := ?vex20) rfl (by kernel_rfl) (by kernel_rfl) (by kernel_rfl) (by kernel_rfl) (by kernel_rfl) (fun _ _ _ h => h) hH rfl ?yex20 ?rex20
  case yex20 => intro W hSw; go_simp; try with_reducible rfl
  try simp only [Act.put, List.setIfInBounds_toArray, List.set_cons_zero, List.set_cons_succ]
  refine takeL 2 (v := ?vex21) rfl (by kernel_rfl) (by kernel_rfl) (by kernel_rfl) (by kernel_rfl) (by kernel_rfl) (fun _ _ _ h => h) hH rfl ?yex21 ?rex21
  case yex21 => intro W hSw; go_simp; try with_reducible rfl
  try simp only [Act.put, List.setIfInBounds_toArray, List.set_cons_zero, List.set_cons_succ]
  refine takeL 3 (v := ?vex22) rfl (by kernel_rfl) (by kernel_rfl) (by kernel_rfl) (by kernel_rfl) (by kernel_rfl) (fun _ _ _ h => h) hH rfl ?yex22 ?rex22
  case yex22 => intro W hSw; go_simp; try with_reducible rfl
  try simp only [Act.put, List.setIfInBounds_toArray, List.set_cons_zero, List.set_cons_succ]
  refine takeL 4 (v := ?vex23) rfl (by kernel_rfl) (by kernel_rfl) (by kernel_rfl) (by kernel_rfl) (by kernel_rfl) (fun _ _ _ h => h) hH rfl ?yex23 ?rex23
  case yex23 => intro W hSw; go_simp; try with_reducible rfl
  try simp only [Act.put, List.setIfInBounds_toArray, List.set_cons_zero, List.set_cons_succ]
  refine takeL 5 (v := ?vex24) rfl (by kernel_rfl) (by kernel_rfl) (by kernel_rfl) (by kernel_rfl) (by kernel_rfl) (fun _ _ _ h => h) hH rfl ?yex24 ?rex24
  case yex24 => intro W hSw; go_simp; try with_reducible rfl
  try simp only [Act.put, List.setIfInBounds_toArray, List.set_cons_zero, List.set_cons_succ]
  refine takeL 6 (v := .int .i64 (n + x.e)) rfl (by kernel_rfl) (by kernel_rfl) (by kernel_rfl) (by kernel_rfl) (by kernel_rfl) (fun _ _ _ h => h) hH rfl ?yex25 ?rex25
  case yex25 => intro W hSw; go_simp; first | done | (simp [hw9])
  try simp only [Act.put, List.setIfInBounds_toArray, List.set_cons_zero, List.set_cons_succ]
  refine callL 7 rfl (by kernel_rfl) rfl (fun K hK => ?_)
  go_simp
  refine hK.out _ _ ⟨S0.out.cell 0 (v := .int .i64 x.f) rfl, S0.out.cell 1 (v := .int .i64 x.t) rfl, S0.out.cell 2 (v := .int .i64 x.s) rfl, S0.out.cell 3 (v := .int .i64 x.e) rfl, S9.out.fees⟩ (fun hH => ?_)
  clear hK K
  try simp only [Act.put, List.setIfInBounds_toArray, List.set_cons_zero, List.set_cons_succ]
  refine takeL 8 (v := ?vex26) rfl (by kernel_rfl) (by kernel_rfl) (by kernel_rfl) (by kernel_rfl) (by kernel_rfl) (fun _ _ _ h => h) hH rfl ?yex26 ?rex26
  case yex26 => intro W hSw; go_simp; try with_reducible rfl
  try simp only [Act.put, List.setIfInBounds_toArray, List.set_cons_zero, List.set_cons_succ]
  refine lastL rfl (by kernel_rfl) (by kernel_rfl) (by kernel_rfl) rfl (fun K hK => ?_)
  have y9 := S9.out.frozen 6
  have q9 := S9.out.fees
  go_simp
  clear y9 q9
  have S9 := Lib.hid (S9.out.setf (n + x.e))
  have Hg := Lib.hid (grownBy_trans Hg.out (grownBy_set w8 B 6 (.int .i64 (n + x.e))))
  refine hK.out _ _ ?_
  clear hK K hH
  try simp only [Act.put]
  generalize (w8.setCell ⟨B, 6, none⟩ (.int .i64 (n + x.e))) = W9 at *
  have S9 := Lib.hid (show Lg 69 W9 B (apL l x) (apF l n x) from by rw [(ap_yes (l := l) (n := n) Hyes.out).2]; exact S9.out)
  go_wp2
  go_ret
  exact ⟨ret_bool Hyes.out.symm, S9.out, Hg.out⟩

set_option maxHeartbeats 2000000 in
theorem lg_copied (B : Nat) (l : List Int) (n : Int) (w : World) (h6 : l.length = 6) (hs : Lg 69 w B l n) :
    Calls Try.prog 33 #[.pointer (some ⟨B, 0, none⟩)] w fun e w' => ∃ v, e = .returned (.agg #[v, .int .i64 n]) ∧ Own 3 w' w.heap.size v l ∧ Below w.heap.size w w' := by
  have hb0 : Below w.heap.size w (w.alloc (.cells #[.slice none 0 0, .int .i64 0] 25)) := (Below.refl _ _).alloc (Nat.le_refl _) _
  have s1 := Str.new w 25 #[.slice none 0 0, .int .i64 0]
  have s9 : Lg 69 (w.alloc (.cells #[.slice none 0 0, .int .i64 0] 25)) B l n := Str.alloc hs _
  have hz : (w.alloc (.cells #[.slice none 0 0, .int .i64 0] 25)).heap.size = w.heap.size + 1 := by simp
  have hBw := hs.lt
  have hBne : w.heap.size ≠ B := by omega
  have S1 := Lib.hid s1; have S9 := Lib.hid s9; have Hb := Lib.hid hb0; have H6 := Lib.hid h6; clear s1 s9 hb0 hs
  have hC := fun W (h : Lg 69 W B l n) => lib_Clone TIl (some ⟨B, 0, none⟩) 6 l W (by omega) (.inr ⟨_, rfl, fun j hj => by rw [addr_add, ← gd_at hj]; exact h.at (by omega)⟩) (.inr ⟨B, 0, rfl, h.lt, fun j hj => by rw [Nat.zero_add, ← gd_at hj]; exact h.at (by omega)⟩)
  rw [h6] at hC
  have HC := Lib.hid hC; clear hC h6
  go_enter Try.func33, Try.ntmps33
  go_wp2_with fail
  generalize (w.alloc (.cells #[.slice none 0 0, .int .i64 0] 25)) = W0 at *
  refine wp_region_held_drew (S := fun w' => w'.cell? ⟨B, 6, none⟩ = some (.int .i64 n)) (by kernel_rfl) S9.out.fees (fun hH => ?_)
  have S1 := Lib.hid (show Str W0.drew w.heap.size 25 #[.slice none 0 0, .int .i64 0] from S1.out)
  have S9 := Lib.hid (show Lg 69 W0.drew B l n from S9.out)
  have Hb := Lib.hid Hb.out.drew
  have hzd : W0.drew.heap.size = w.heap.size + 1 := hz
  generalize W0.drew = wd at *
  refine takeH 0 (v := ?vcp1) rfl (by kernel_rfl) (by kernel_rfl) (by kernel_rfl) (fun _ _ _ h => h) hH rfl ?ycp1 ?rcp1
  case ycp1 => intro W hSw; go_simp; try with_reducible rfl
  try simp only [Act.put, List.setIfInBounds_toArray, List.set_cons_zero, List.set_cons_succ]
  refine takeH 1 (v := ?vcp2) rfl (by kernel_rfl) (by kernel_rfl) (by kernel_rfl) (fun _ _ _ h => h) hH rfl ?ycp2 ?rcp2
  case ycp2 => intro W hSw; go_simp; try with_reducible rfl
  try simp only [Act.put, List.setIfInBounds_toArray, List.set_cons_zero, List.set_cons_succ]
  refine takeH 2 (v := ?vcp3) rfl (by kernel_rfl) (by kernel_rfl) (by kernel_rfl) (fun _ _ _ h => h) hH rfl ?ycp3 ?rcp3
  case ycp3 => intro W hSw; go_simp; try with_reducible rfl
  try simp only [Act.put, List.setIfInBounds_toArray, List.set_cons_zero, List.set_cons_succ]
  refine takeH 3 (v := ?vcp4) rfl (by kernel_rfl) (by kernel_rfl) (by kernel_rfl) (fun _ _ _ h => h) hH rfl ?ycp4 ?rcp4
  case ycp4 => intro W hSw; go_simp; try with_reducible rfl
  try simp only [Act.put, List.setIfInBounds_toArray, List.set_cons_zero, List.set_cons_succ]
  refine takeH 5 (v := ?vcp5) rfl (by kernel_rfl) (by kernel_rfl) (by kernel_rfl) (fun _ _ _ h => h) hH rfl ?ycp5 ?rcp5
  case ycp5 => intro W hSw; go_simp; try with_reducible rfl
  try simp only [Act.put, List.setIfInBounds_toArray, List.set_cons_zero, List.set_cons_succ]
  refine takeH 6 (v := ?vcp6) rfl (by kernel_rfl) (by kernel_rfl) (by kernel_rfl) (fun _ _ _ h => h) hH rfl ?ycp6 ?rcp6
  case ycp6 => intro W hSw; go_simp; try with_reducible rfl
  try simp only [Act.put, List.setIfInBounds_toArray, List.set_cons_zero, List.set_cons_succ]
  refine takeH 7 (v := ?vcp7) rfl (by kernel_rfl) (by kernel_rfl) (by kernel_rfl) (fun _ _ _ h => h) hH rfl ?ycp7 ?rcp7
  case ycp7 => intro W hSw; go_simp; try with_reducible rfl
  try simp only [Act.put, List.setIfInBounds_toArray, List.set_cons_zero, List.set_cons_succ]
  refine takeH 8 (v := ?vcp8) rfl (by kernel_rfl) (by kernel_rfl) (by kernel_rfl) (fun _ _ _ h => h) hH rfl ?ycp8 ?rcp8
  case ycp8 => intro W hSw; go_simp; try with_reducible rfl
  try simp only [Act.put, List.setIfInBounds_toArray, List.set_cons_zero, List.set_cons_succ]
  refine callH 4 rfl (by kernel_rfl) rfl (fun K hK => ?_)
  go_simp
  refine (HC.out _ S9.out).mono ?_
  rintro e w5 ⟨v, rfl, ho, hb⟩
  have S1 := Lib.hid (show Str w5 w.heap.size 25 #[.slice none 0 0, .int .i64 0] from (hb.block _ S1.out.lt).trans S1.out)
  have S9 := Lib.hid (show Lg 69 w5 B l n from (hb.block _ S9.out.lt).trans S9.out)
  have Hb := Lib.hid (below_step Hb.out Hb.out.size hb)
  have OL := Lib.hid ho
  obtain ⟨va, vc, rfl, _, _⟩ := ho.ints
  skip
  clear hb ho
  refine hK.out _ _ S9.out.fees (fun hH => ?_)
  clear hK K
  try simp only [Act.put, List.setIfInBounds_toArray, List.set_cons_zero, List.set_cons_succ]
  refine takeH 9 (v := ?vcp9) rfl (by kernel_rfl) (by kernel_rfl) (by kernel_rfl) (fun _ _ _ h => h) hH rfl ?ycp9 ?rcp9
  case ycp9 => intro W hSw; go_simp; try with_reducible rfl
  try simp only [Act.put, List.setIfInBounds_toArray, List.set_cons_zero, List.set_cons_succ]
  refine callH 10 rfl (by kernel_rfl) rfl (fun K hK => ?_)
  have y0 := S1.out.frozen 0
  have y1 := S1.out.frozen 1
  have v0 := S1.out.cell 0 (v := .slice none 0 0) rfl
  have v1 := S1.out.cell 1 (v := .int .i64 0) rfl
  go_simp
  clear y0 y1 v0 v1
  have hne : (Value.slice va l.length vc).ownBlock ≠ some w.heap.size := fun e => by have := (OL.out.lt _ e).1; omega
  have SF := Lib.hid ((S1.out.set 0 (.slice va l.length vc)).set 1 (.int .i64 n))
  have S9 := Lib.hid ((S9.out.other (B' := w.heap.size) (by omega) 0 (.slice va l.length vc)).other (B' := w.heap.size) (by omega) 1 (.int .i64 n))
  have OL := Lib.hid ((OL.out.set_other hne 0 (.slice va l.length vc)).set_other hne 1 (.int .i64 n))
  have Hb := Lib.hid ((Hb.out.setCell (p := ⟨w.heap.size, 0, none⟩) (Nat.le_refl _) (.slice va l.length vc)).setCell (p := ⟨w.heap.size, 1, none⟩) (Nat.le_refl _) (.int .i64 n))
  refine hK.out _ _ (Str.cell S9.out 6 rfl) (fun hH => ?_)
  clear hK K hne
  try simp only [Act.put, List.setIfInBounds_toArray, List.set_cons_zero, List.set_cons_succ]
  generalize ((w5.setCell ⟨w.heap.size, 0, none⟩ (.slice va l.length vc)).setCell ⟨w.heap.size, 1, none⟩ (.int .i64 n)) = we at *
  refine wpAnyH_done (by kernel_rfl) ?_ _
  try simp only [Act.put]
  clear hH
  have e0 := SF.out.cell 0 (v := .slice va l.length vc) rfl
  have e1 := SF.out.cell 1 (v := .int .i64 n) rfl
  go_wp2
  refine bodyPost_ret (v := .agg #[.slice va l.length vc, .int .i64 n]) (by simp [results, Try.f33, go_sem, e0, e1]) rfl ?_
  exact ⟨_, rfl, OL.out.mono (by omega), Hb.out⟩

end Go.Proofs.Ytfnhafgjdnlhiaa

/- The reference's LedgerTotal, by a walk of its text; condition: the list is shorter than 2^40. -/
namespace Go.Proofs.Ytfnhafgjdnlhiaa
open Go.RowKit

end Go.Proofs.Ytfnhafgjdnlhiaa

/- LedgerValid, LedgerTotal and LedgerApply of the program, and LedgerApply of the reference, each by a walk of its text; condition: the list is shorter than 2^40. -/
namespace Go.Proofs.Ytfnhafgjdnlhiaa
open Go.RowKit

def laL (l : List Int) (n : Int) (x : Tx) : List Int := if roomB l n 1 then apL l x else []
def laF (l : List Int) (n : Int) (x : Tx) : Int := if roomB l n 1 then apF l n x else 0
def laO (l : List Int) (n : Int) (x : Tx) : Bool := roomB l n 1 && okT l x
theorem la_no {l : List Int} {n : Int} {x : Tx} (h : roomB l n 1 = false) : laL l n x = [] ∧ laF l n x = 0 ∧ laO l n x = false := by unfold laL laF laO; rw [h]; exact ⟨rfl, rfl, rfl⟩
theorem la_yes {l : List Int} {n : Int} {x : Tx} (h : roomB l n 1 = true) : laL l n x = apL l x ∧ laF l n x = apF l n x ∧ laO l n x = okT l x := by unfold laL laF laO; rw [h]; exact ⟨rfl, rfl, rfl⟩
theorem room_iff {l : List Int} {n m : Int} : roomB l n m = true ↔ ldB l n = true ∧ n ≤ 5994 - 9 * m := by unfold roomB; rw [Bool.and_eq_true, decide_eq_true_eq]
theorem la_len {l : List Int} {n : Int} {x : Tx} (h : l.length ≤ 6) : (laL l n x).length ≤ 6 := by
  unfold laL; split
  · rw [ap_len]; exact h
  · simp
theorem la_len6 (l : List Int) (n : Int) (x : Tx) : (laL l n x).length ≤ 6 := by
  unfold laL; split
  · rename_i h
    rw [ap_len, (ldB_iff.1 (room_iff.1 h).1).2.1]; exact Nat.le_refl 6
  · simp
theorem la_room {l : List Int} {n : Int} {x : Tx} (h : laO l n x = true) : roomB l n 1 = true := by unfold laO at h; rw [Bool.and_eq_true] at h; exact h.1
theorem la_true {l : List Int} {n : Int} {x : Tx} (h : laO l n x = true) : ldB l n = true ∧ okT l x = true ∧ laL l n x = apL l x ∧ laF l n x = n + x.e := by
  have hr := la_room h
  obtain ⟨h1, h2, h3⟩ := la_yes (x := x) hr
  have ho : okT l x = true := by rw [← h3]; exact h
  exact ⟨(room_iff.1 hr).1, ho, h1, by rw [h2]; exact (ap_yes ho).2⟩
theorem la_back {l G : List Int} {n F f t s : Int} (hr : roomB l n 1 = true) (hok : okT l ⟨f, t, s, 0⟩ = true) (hG : G = apL l ⟨f, t, s, 0⟩) (hF : F = laF l n ⟨f, t, s, 0⟩) :
    laL G F ⟨t, f, s, 0⟩ = l ∧ laF G F ⟨t, f, s, 0⟩ = n ∧ laO G F ⟨t, f, s, 0⟩ = true := by
  obtain ⟨hv, hn⟩ := room_iff.1 hr
  rw [(la_yes hr).2.1] at hF
  obtain ⟨q1, q2, q3⟩ := ap_back hv hok rfl
  have hFn : F = n := by rw [hF, (ap_yes hok).2]; simp
  have hr2 : roomB G F 1 = true := room_iff.2 ⟨by rw [hG, hF]; exact ap_valid _ hv (by omega), by omega⟩
  obtain ⟨h1, h2, h3⟩ := la_yes (x := ⟨t, f, s, 0⟩) hr2
  rw [h1, h2, h3, hG, hF]
  exact ⟨q2, q3, q1⟩
/-- What LedgerApply answers. -/
def LaP (E : TypeId) (w : World) (l : List Int) (n : Int) (x : Tx) (e : Ending) (w' : World) : Prop := ∃ v, e = .returned (.tuple #[.agg #[v, .int .i64 (laF l n x)], .bool (laO l n x)]) ∧ Own E w' w.heap.size v (laL l n x) ∧ Below w.heap.size w w'
theorem LaP.no {E : TypeId} {w w' : World} {l : List Int} {n : Int} {x : Tx} {e : Ending} (h : roomB l n 1 = false) (he : e = .returned (.tuple #[.agg #[.slice none 0 0, .int .i64 0], .bool false])) (hb : Below w.heap.size w w') : LaP E w l n x e w' := by
  obtain ⟨h1, h2, h3⟩ := la_no (x := x) h
  unfold LaP; rw [h1, h2, h3]
  exact ⟨_, he, Own.nil _ _ _, hb⟩
theorem LaP.yes {E : TypeId} {w w' : World} {l : List Int} {n : Int} {x : Tx} {e : Ending} {v : Value} (h : roomB l n 1 = true) (he : e = .returned (.tuple #[.agg #[v, .int .i64 (apF l n x)], .bool (okT l x)])) (ho : Own E w' w.heap.size v (apL l x)) (hb : Below w.heap.size w w') : LaP E w l n x e w' := by
  obtain ⟨h1, h2, h3⟩ := la_yes (x := x) h
  unfold LaP; rw [h1, h2, h3]
  exact ⟨_, he, ho, hb⟩

set_option maxHeartbeats 2000000 in
theorem impl_LedgerValid (a : Option Addr) (cap : Nat) (l : List Int) (n : Int) (w : World) (hbig : l.length ≤ 1099511627776) (hl : IntsAt w a l) :
    Calls Try.prog 14 #[.agg #[.slice a l.length cap, .int .i64 n]] w fun e w' => e = .returned (.bool (ldB l n)) ∧ Below w.heap.size w w' := by
  have hb0 : Below w.heap.size w (w.alloc (.cells #[.slice a l.length cap, .int .i64 n] 25)) := (Below.refl _ _).alloc (Nat.le_refl _) _
  have s1 := Str.new w 25 #[.slice a l.length cap, .int .i64 n]
  have hl0 := hl.below hb0
  have k0 := s1.cell 0 (v := .slice a l.length cap) rfl
  have k1 := s1.cell 1 (v := .int .i64 n) rfl
  have Hb := Lib.hid hb0; have Hl := Lib.hid hl0; clear s1 hb0 hl0 hl
  have hbv : ldB l n = true ∨ ldB l n = false := by cases ldB l n <;> simp
  rcases hbv with hbv | hbv
  case inr =>
    have HN := Lib.hid (fun W (h : IntsAt W a l) => lg_ledgerOf_no a cap l n W hbig h hbv)
    have Hr := Lib.hid hbv
    clear hbv
    go_enter Try.func14, Try.ntmps14
    go_wp2_with fail
    generalize (w.alloc (.cells #[.slice a l.length cap, .int .i64 n] 25)) = W0 at *
    refine (HN.out _ Hl.out).mono ?_
    rintro e w1 ⟨rfl, hb1⟩
    have Hb := Lib.hid (below_step Hb.out Hb.out.size hb1)
    clear hb1 k0 k1
    go_wp2
    go_ret
    exact ⟨by rw [Hr.out]; rfl, Hb.out⟩
  have HY := Lib.hid (fun W (h : IntsAt W a l) => lg_ledgerOf a cap l n W hbig h hbv)
  have Hr := Lib.hid hbv
  clear hbv
  go_enter Try.func14, Try.ntmps14
  go_wp2_with fail
  generalize (w.alloc (.cells #[.slice a l.length cap, .int .i64 n] 25)) = W0 at *
  refine (HY.out _ Hl.out).mono ?_
  rintro e w1 ⟨B, rfl, hB1, hB2, hs, hb1⟩
  have Hb := Lib.hid (below_step Hb.out Hb.out.size hb1)
  clear hb1 k0 k1 hs
  go_wp2
  go_ret
  exact ⟨by rw [Hr.out]; rfl, Hb.out⟩

set_option maxHeartbeats 2000000 in
theorem impl_LedgerTotal (a : Option Addr) (cap : Nat) (l : List Int) (n : Int) (w : World) (hbig : l.length ≤ 1099511627776) (hl : IntsAt w a l) :
    Calls Try.prog 13 #[.agg #[.slice a l.length cap, .int .i64 n]] w fun e w' => e = .returned (.int .i64 (totZ l n)) ∧ Below w.heap.size w w' := by
  have hb0 : Below w.heap.size w (w.alloc (.cells #[.slice a l.length cap, .int .i64 n] 25)) := (Below.refl _ _).alloc (Nat.le_refl _) _
  have s1 := Str.new w 25 #[.slice a l.length cap, .int .i64 n]
  have hl0 := hl.below hb0
  have k0 := s1.cell 0 (v := .slice a l.length cap) rfl
  have k1 := s1.cell 1 (v := .int .i64 n) rfl
  have Hb := Lib.hid hb0; have Hl := Lib.hid hl0; clear s1 hb0 hl0 hl
  have hbv : ldB l n = true ∨ ldB l n = false := by cases ldB l n <;> simp
  rcases hbv with hbv | hbv
  case inr =>
    have HN := Lib.hid (fun W (h : IntsAt W a l) => lg_ledgerOf_no a cap l n W hbig h hbv)
    have Hr := Lib.hid (show totZ l n = -1 by unfold totZ; rw [hbv]; rfl)
    clear hbv
    go_enter Try.func13, Try.ntmps13
    go_wp2_with fail
    generalize (w.alloc (.cells #[.slice a l.length cap, .int .i64 n] 25)) = W0 at *
    refine (HN.out _ Hl.out).mono ?_
    rintro e w1 ⟨rfl, hb1⟩
    have Hb := Lib.hid (below_step Hb.out Hb.out.size hb1)
    clear hb1 k0 k1
    go_wp2
    go_ret
    exact ⟨by rw [Hr.out]; rfl, Hb.out⟩
  have HY := Lib.hid (fun W (h : IntsAt W a l) => lg_ledgerOf a cap l n W hbig h hbv)
  have Hr := Lib.hid (show totZ l n = l.sum + n by unfold totZ; rw [hbv]; rfl)
  have HS := Lib.hid (fun W B (h : Lg 69 W B l n) => lg_sum B l n W hbv h)
  obtain ⟨hv1, hv2, hn0, hn1⟩ := ldB_iff.1 hbv
  have hsb := sum_take_bd hv1 l.length (Nat.le_refl _)
  rw [List.take_length, hv2] at hsb
  clear hbv hv1 hv2
  generalize l.sum = S at *
  have hwr : IntKind.i64.wrap (S + n) = S + n := IntWalk.i64_in _ (by omega)
  go_enter Try.func13, Try.ntmps13
  go_wp2_with fail
  generalize (w.alloc (.cells #[.slice a l.length cap, .int .i64 n] 25)) = W0 at *
  refine (HY.out _ Hl.out).mono ?_
  rintro e w1 ⟨B, rfl, hB1, hB2, hs, hb1⟩
  have Hb := Lib.hid (below_step Hb.out Hb.out.size hb1)
  have S9 := Lib.hid hs
  clear hb1 k0 k1 hs
  go_wp2_with fail
  refine wp_region_held_drew (S := fun w' => w'.cell? ⟨B, 6, none⟩ = some (.int .i64 n)) (by kernel_rfl) S9.out.fees (fun hH => ?_)
  have S9 := Lib.hid (show Lg 69 w1.drew B l n from S9.out)
  have Hb := Lib.hid Hb.out.drew
  generalize w1.drew = wd at *
  refine takeH 0 (v := ?vlv1) rfl (by kernel_rfl) (by kernel_rfl) (by kernel_rfl) (fun _ _ _ h => h) hH rfl ?ylv1 ?rlv1
  case ylv1 => intro W hSw; go_simp; try with_reducible rfl
  try simp only [Act.put, List.setIfInBounds_toArray, List.set_cons_zero, List.set_cons_succ]
  refine takeH 1 (v := ?vlv2) rfl (by kernel_rfl) (by kernel_rfl) (by kernel_rfl) (fun _ _ _ h => h) hH rfl ?ylv2 ?rlv2
  case ylv2 => intro W hSw; go_simp; try with_reducible rfl
  try simp only [Act.put, List.setIfInBounds_toArray, List.set_cons_zero, List.set_cons_succ]
  refine takeH 2 (v := ?vlv3) rfl (by kernel_rfl) (by kernel_rfl) (by kernel_rfl) (fun _ _ _ h => h) hH rfl ?ylv3 ?rlv3
  case ylv3 => intro W hSw; go_simp; try with_reducible rfl
  try simp only [Act.put, List.setIfInBounds_toArray, List.set_cons_zero, List.set_cons_succ]
  refine takeH 4 (v := ?vlv4) rfl (by kernel_rfl) (by kernel_rfl) (by kernel_rfl) (fun _ _ _ h => h) hH rfl ?ylv4 ?rlv4
  case ylv4 => intro W hSw; go_simp; try with_reducible rfl
  try simp only [Act.put, List.setIfInBounds_toArray, List.set_cons_zero, List.set_cons_succ]
  refine takeH 5 (v := ?vlv5) rfl (by kernel_rfl) (by kernel_rfl) (by kernel_rfl) (fun _ _ _ h => h) hH rfl ?ylv5 ?rlv5
  case ylv5 => intro W hSw; go_simp; try with_reducible rfl
  try simp only [Act.put, List.setIfInBounds_toArray, List.set_cons_zero, List.set_cons_succ]
  refine takeH 6 (v := ?vlv6) rfl (by kernel_rfl) (by kernel_rfl) (by kernel_rfl) (fun _ _ _ h => h) hH rfl ?ylv6 ?rlv6
  case ylv6 => intro W hSw; go_simp; try with_reducible rfl
  try simp only [Act.put, List.setIfInBounds_toArray, List.set_cons_zero, List.set_cons_succ]
  refine takeH 7 (v := ?vlv7) rfl (by kernel_rfl) (by kernel_rfl) (by kernel_rfl) (fun _ _ _ h => h) hH rfl ?ylv7 ?rlv7
  case ylv7 => intro W hSw; go_simp; try with_reducible rfl
  try simp only [Act.put, List.setIfInBounds_toArray, List.set_cons_zero, List.set_cons_succ]
  refine callH 3 rfl (by kernel_rfl) rfl (fun K hK => ?_)
  go_simp
  refine (HS.out _ _ S9.out).mono ?_
  rintro e w5 ⟨rfl, rfl⟩
  refine hK.out _ _ S9.out.fees (fun hH => ?_)
  clear hK K
  try simp only [Act.put, List.setIfInBounds_toArray, List.set_cons_zero, List.set_cons_succ]
  refine takeH 8 (v := .int .i64 (S + n)) rfl (by kernel_rfl) (by kernel_rfl) (by kernel_rfl) (fun _ _ _ h => h) hH rfl ?ylv8 ?rlv8
  case ylv8 => intro W hSw; go_simp; first | done | (simp [hwr])
  try simp only [Act.put, List.setIfInBounds_toArray, List.set_cons_zero, List.set_cons_succ]
  refine takeH 9 (v := ?vlv9) rfl (by kernel_rfl) (by kernel_rfl) (by kernel_rfl) (fun _ _ _ h => h) hH rfl ?ylv9 ?rlv9
  case ylv9 => intro W hSw; go_simp; try with_reducible rfl
  try simp only [Act.put, List.setIfInBounds_toArray, List.set_cons_zero, List.set_cons_succ]
  refine wpAnyH_done (by kernel_rfl) ?_ _
  try simp only [Act.put]
  clear hH
  go_wp2
  go_ret
  exact ⟨ret_int Hr.out.symm, Hb.out⟩

set_option maxHeartbeats 4000000 in
theorem impl_LedgerApply (a : Option Addr) (cap : Nat) (l : List Int) (n : Int) (x : Tx) (w : World) (hbig : l.length ≤ 1099511627776) (hl : IntsAt w a l) :
    Calls Try.prog 15 #[.agg #[.slice a l.length cap, .int .i64 n], agT x] w (LaP 3 w l n x) := by
  have hb0 : Below w.heap.size w (((w.alloc (.cells #[.slice a l.length cap, .int .i64 n] 25)).alloc (.cells #[.int .i64 x.f, .int .i64 x.t, .int .i64 x.s, .int .i64 x.e] 41)).alloc (.cells #[.slice none 0 0, .int .i64 0] 25)) := (((Below.refl _ _).alloc (Nat.le_refl _) _).alloc (by simp only [World.size_alloc]; omega) _).alloc (by simp only [World.size_alloc]; omega) _
  have s1 := ((Str.new w 25 #[.slice a l.length cap, .int .i64 n]).alloc (.cells #[.int .i64 x.f, .int .i64 x.t, .int .i64 x.s, .int .i64 x.e] 41)).alloc (.cells #[.slice none 0 0, .int .i64 0] 25)
  have s2 := (Str.new (w.alloc (.cells #[.slice a l.length cap, .int .i64 n] 25)) 41 #[.int .i64 x.f, .int .i64 x.t, .int .i64 x.s, .int .i64 x.e]).alloc (.cells #[.slice none 0 0, .int .i64 0] 25)
  have s3 := Str.new ((w.alloc (.cells #[.slice a l.length cap, .int .i64 n] 25)).alloc (.cells #[.int .i64 x.f, .int .i64 x.t, .int .i64 x.s, .int .i64 x.e] 41)) 25 #[.slice none 0 0, .int .i64 0]
  simp only [World.size_alloc] at s2 s3
  have hl0 := hl.below hb0
  have hz : (((w.alloc (.cells #[.slice a l.length cap, .int .i64 n] 25)).alloc (.cells #[.int .i64 x.f, .int .i64 x.t, .int .i64 x.s, .int .i64 x.e] 41)).alloc (.cells #[.slice none 0 0, .int .i64 0] 25)).heap.size = w.heap.size + 3 := by simp
  have k0 := s1.cell 0 (v := .slice a l.length cap) rfl
  have k1 := s1.cell 1 (v := .int .i64 n) rfl
  have S1 := Lib.hid s1; have S2 := Lib.hid s2; have S3 := Lib.hid s3; have Hb := Lib.hid hb0; have Hl := Lib.hid hl0; clear s1 s2 s3 hb0 hl0 hl
  have hno : ∀ e w', roomB l n 1 = false → e = .returned (.tuple #[.agg #[.slice none 0 0, .int .i64 0], .bool false]) → Below w.heap.size w w' → LaP 3 w l n x e w' := fun _ _ h he hb => LaP.no h he hb
  have hyes : ∀ e w' v, roomB l n 1 = true → e = .returned (.tuple #[.agg #[v, .int .i64 (apF l n x)], .bool (okT l x)]) → Own 3 w' w.heap.size v (apL l x) → Below w.heap.size w w' → LaP 3 w l n x e w' := fun _ _ _ h he ho hb => LaP.yes h he ho hb
  have Hno := Lib.hid hno; have Hyes := Lib.hid hyes; clear hno hyes
  generalize LaP 3 w l n x = POST at *
  unfold agT
  have hbv : ldB l n = true ∨ ldB l n = false := by cases ldB l n <;> simp
  rcases hbv with hbv | hbv
  case inr =>
    have HN := Lib.hid (fun W (h : IntsAt W a l) => lg_ledgerOf_no a cap l n W hbig h hbv)
    have Hr := Lib.hid (show roomB l n 1 = false by unfold roomB; rw [hbv]; rfl)
    clear hbv
    go_enter Try.func15, Try.ntmps15
    go_wp2_with fail
    generalize (((w.alloc (.cells #[.slice a l.length cap, .int .i64 n] 25)).alloc (.cells #[.int .i64 x.f, .int .i64 x.t, .int .i64 x.s, .int .i64 x.e] 41)).alloc (.cells #[.slice none 0 0, .int .i64 0] 25)) = W0 at *
    refine (HN.out _ Hl.out).mono ?_
    rintro e w1 ⟨rfl, hb1⟩
    have Hb := Lib.hid (below_step Hb.out Hb.out.size hb1)
    have S3 := Lib.hid (show Str w1 (w.heap.size + 2) 25 #[.slice none 0 0, .int .i64 0] from (hb1.block _ S3.out.lt).trans S3.out)
    clear hb1 k0 k1 S1 S2
    have y0 := S3.out.frozen 0
    have y1 := S3.out.frozen 1
    have v0 := S3.out.cell 0 (v := .slice none 0 0) rfl
    have v1 := S3.out.cell 1 (v := .int .i64 0) rfl
    have sF := (S3.out.set 0 (.slice none 0 0)).set 1 (.int .i64 0)
    have bF := (Hb.out.setCell (p := ⟨w.heap.size + 2, 0, none⟩) (by simp only; omega) (.slice none 0 0)).setCell (p := ⟨w.heap.size + 2, 1, none⟩) (by simp only; omega) (.int .i64 0)
    have e0 := sF.cell 0 (v := .slice none 0 0) rfl
    have e1 := sF.cell 1 (v := .int .i64 0) rfl
    have BF := Lib.hid bF; clear bF sF
    go_wp2
    refine bodyPost_ret (v := .tuple #[.agg #[.slice none 0 0, .int .i64 0], .bool false]) (by simp [results, Try.f15, go_sem, e0, e1]) rfl ?_
    exact Hno.out _ _ Hr.out rfl BF.out
  have HY := Lib.hid (fun W (h : IntsAt W a l) => lg_ledgerOf a cap l n W hbig h hbv)
  obtain ⟨-, h6, hn0, hn1⟩ := ldB_iff.1 hbv
  have H6 := Lib.hid h6; clear h6
  have HP := fun W B (h : Lg 69 W B l n) => lg_hasSpace B l n 1 W ⟨hn0, hn1⟩ (by omega) h
  have HE := Lib.hid (fun W B (h : Lg 69 W B l n) => lg_execute B l n x W hbv h)
  unfold agT at HE
  have Hv := Lib.hid hbv; clear hbv
  by_cases hsp : n ≤ 5985
  case neg =>
    have Hr := Lib.hid (show roomB l n 1 = false by unfold roomB; rw [decide_eq_false (show ¬ n ≤ 5994 - 9 * 1 by omega), Bool.and_false])
    rw [decide_eq_false (show ¬ n ≤ 5994 - 9 * 1 by omega)] at HP
    have HP := Lib.hid HP
    clear HE hsp
    go_enter Try.func15, Try.ntmps15
    go_wp2_with fail
    generalize (((w.alloc (.cells #[.slice a l.length cap, .int .i64 n] 25)).alloc (.cells #[.int .i64 x.f, .int .i64 x.t, .int .i64 x.s, .int .i64 x.e] 41)).alloc (.cells #[.slice none 0 0, .int .i64 0] 25)) = W0 at *
    refine (HY.out _ Hl.out).mono ?_
    rintro e w1 ⟨B, rfl, hB1, hB2, hs, hb1⟩
    have Hb := Lib.hid (below_step Hb.out Hb.out.size hb1)
    have S3 := Lib.hid (show Str w1 (w.heap.size + 2) 25 #[.slice none 0 0, .int .i64 0] from (hb1.block _ S3.out.lt).trans S3.out)
    have S9 := Lib.hid hs
    have hB3 : w.heap.size + 3 ≤ B := by omega
    clear hb1 k0 k1 hs
    clear S1 S2
    go_wp2_with fail
    refine (HP.out _ _ S9.out).mono ?_
    rintro e w2 ⟨rfl, rfl⟩
    have y0 := S3.out.frozen 0
    have y1 := S3.out.frozen 1
    have v0 := S3.out.cell 0 (v := .slice none 0 0) rfl
    have v1 := S3.out.cell 1 (v := .int .i64 0) rfl
    have sF := (S3.out.set 0 (.slice none 0 0)).set 1 (.int .i64 0)
    have bF := (Hb.out.setCell (p := ⟨w.heap.size + 2, 0, none⟩) (by simp only; omega) (.slice none 0 0)).setCell (p := ⟨w.heap.size + 2, 1, none⟩) (by simp only; omega) (.int .i64 0)
    have e0 := sF.cell 0 (v := .slice none 0 0) rfl
    have e1 := sF.cell 1 (v := .int .i64 0) rfl
    have BF := Lib.hid bF; clear bF sF
    go_wp2
    refine bodyPost_ret (v := .tuple #[.agg #[.slice none 0 0, .int .i64 0], .bool false]) (by simp [results, Try.f15, go_sem, e0, e1]) rfl ?_
    exact Hno.out _ _ Hr.out rfl BF.out
  have Hr := Lib.hid (show roomB l n 1 = true by unfold roomB; rw [Hv.out, decide_eq_true (show n ≤ 5994 - 9 * 1 by omega)]; rfl)
  rw [decide_eq_true (show n ≤ 5994 - 9 * 1 by omega)] at HP
  have HP := Lib.hid HP
  clear hsp
  have HC := Lib.hid (fun W B (h : Lg 69 W B (apL l x) (apF l n x)) => lg_copied B (apL l x) (apF l n x) W (by rw [ap_len]; exact H6.out) h)
  go_enter Try.func15, Try.ntmps15
  go_wp2_with fail
  generalize (((w.alloc (.cells #[.slice a l.length cap, .int .i64 n] 25)).alloc (.cells #[.int .i64 x.f, .int .i64 x.t, .int .i64 x.s, .int .i64 x.e] 41)).alloc (.cells #[.slice none 0 0, .int .i64 0] 25)) = W0 at *
  refine (HY.out _ Hl.out).mono ?_
  rintro e w1 ⟨B, rfl, hB1, hB2, hs, hb1⟩
  have Hb := Lib.hid (below_step Hb.out Hb.out.size hb1)
  have S2 := Lib.hid (show Str w1 (w.heap.size + 1) 41 #[.int .i64 x.f, .int .i64 x.t, .int .i64 x.s, .int .i64 x.e] from (hb1.block _ S2.out.lt).trans S2.out)
  have S3 := Lib.hid (show Str w1 (w.heap.size + 2) 25 #[.slice none 0 0, .int .i64 0] from (hb1.block _ S3.out.lt).trans S3.out)
  have S9 := Lib.hid hs
  have hB3 : w.heap.size + 3 ≤ B := by omega
  clear hb1 k0 k1 hs
  clear S1
  go_wp2_with fail
  refine (HP.out _ _ S9.out).mono ?_
  rintro e w2 ⟨rfl, rfl⟩
  have x0 := S2.out.cell 0 (v := .int .i64 x.f) rfl
  have x1 := S2.out.cell 1 (v := .int .i64 x.t) rfl
  have x2 := S2.out.cell 2 (v := .int .i64 x.s) rfl
  have x3 := S2.out.cell 3 (v := .int .i64 x.e) rfl
  go_wp2_with fail
  refine (HE.out _ _ S9.out).mono ?_
  rintro e w2 ⟨rfl, hs2, hg2⟩
  have S3 := Lib.hid (show Str w2 (w.heap.size + 2) 25 #[.slice none 0 0, .int .i64 0] from S3.out.kept hg2 (by simp; omega))
  have S9 := Lib.hid hs2
  have Hb := Lib.hid (Hb.out.grown hg2 Hb.out.size (fun g e => by cases e; omega))
  have hs2' := hg2.size
  clear hg2 hs2 x0 x1 x2 x3 S2
  go_wp2_with fail
  refine (HC.out _ _ S9.out).mono ?_
  rintro e w3 ⟨v, rfl, ho, hb3⟩
  obtain ⟨ua, uc, rfl, _, _⟩ := ho.ints
  have OL := Lib.hid ho
  have Hb := Lib.hid (below_step Hb.out Hb.out.size hb3)
  have S3 := Lib.hid (show Str w3 (w.heap.size + 2) 25 #[.slice none 0 0, .int .i64 0] from (hb3.block _ S3.out.lt).trans S3.out)
  clear hb3 ho S9
  have hne : (Value.slice ua (apL l x).length uc).ownBlock ≠ some (w.heap.size + 2) := fun e => by have := (OL.out.lt _ e).1; omega
  have y0 := S3.out.frozen 0
  have y1 := S3.out.frozen 1
  have v0 := S3.out.cell 0 (v := .slice none 0 0) rfl
  have v1 := S3.out.cell 1 (v := .int .i64 0) rfl
  have sF := (S3.out.set 0 (.slice ua (apL l x).length uc)).set 1 (.int .i64 (apF l n x))
  have oF := (OL.out.set_other hne 0 (.slice ua (apL l x).length uc)).set_other hne 1 (.int .i64 (apF l n x))
  have bF := (Hb.out.setCell (p := ⟨w.heap.size + 2, 0, none⟩) (by simp only; omega) (.slice ua (apL l x).length uc)).setCell (p := ⟨w.heap.size + 2, 1, none⟩) (by simp only; omega) (.int .i64 (apF l n x))
  have e0 := sF.cell 0 (v := .slice ua (apL l x).length uc) rfl
  have e1 := sF.cell 1 (v := .int .i64 (apF l n x)) rfl
  have OF := Lib.hid (oF.mono (show w.heap.size ≤ _ by omega)); have BF := Lib.hid bF; clear bF sF oF hne
  go_wp2
  refine bodyPost_ret (v := .tuple #[.agg #[.slice ua (apL l x).length uc, .int .i64 (apF l n x)], .bool (okT l x)]) (by simp [results, Try.f15, go_sem, e0, e1]) rfl ?_
  exact Hyes.out _ _ _ Hr.out rfl OF.out BF.out

end Go.Proofs.Ytfnhafgjdnlhiaa

/- What LedgerRun answers; the reference's LedgerRun, by a walk of its text; condition: the lists are shorter than 2^40. -/
namespace Go.Proofs.Ytfnhafgjdnlhiaa
open Go.RowKit

def ruB (l : List Int) (n : Int) (xs : List Tx) : Bool := roomB l n 16 && decide (xs.length ≤ 16)
def ruL (l : List Int) (n : Int) (xs : List Tx) : List Int := if ruB l n xs then rnL l xs else []
def ruF (l : List Int) (n : Int) (xs : List Tx) : Int := if ruB l n xs then rnF l n xs else 0
def ruO (l : List Int) (n : Int) (xs : List Tx) : List Bool := if ruB l n xs then rnO l xs else []
theorem ru_no {l : List Int} {n : Int} {xs : List Tx} (h : ruB l n xs = false) : ruL l n xs = [] ∧ ruF l n xs = 0 ∧ ruO l n xs = [] := by unfold ruL ruF ruO; rw [h]; exact ⟨rfl, rfl, rfl⟩
theorem ru_yes {l : List Int} {n : Int} {xs : List Tx} (h : ruB l n xs = true) : ruL l n xs = rnL l xs ∧ ruF l n xs = rnF l n xs ∧ ruO l n xs = rnO l xs := by unfold ruL ruF ruO; rw [h]; exact ⟨rfl, rfl, rfl⟩
theorem ru_iff {l : List Int} {n : Int} {xs : List Tx} : ruB l n xs = true ↔ ldB l n = true ∧ n ≤ 5850 ∧ xs.length ≤ 16 := by unfold ruB; rw [Bool.and_eq_true, room_iff, decide_eq_true_eq]; exact ⟨fun ⟨⟨h1, h2⟩, h3⟩ => ⟨h1, by omega, h3⟩, fun ⟨h1, h2, h3⟩ => ⟨⟨h1, by omega⟩, h3⟩⟩
/-- What LedgerRun answers. -/
def RuP (E Eb : TypeId) (w : World) (l : List Int) (n : Int) (xs : List Tx) (e : Ending) (w' : World) : Prop := ∃ v u, e = .returned (.tuple #[.agg #[v, .int .i64 (ruF l n xs)], u]) ∧ Own E w' w.heap.size v (ruL l n xs) ∧ OwnB Eb w' w.heap.size u (ruO l n xs) ∧ Below w.heap.size w w'
theorem RuP.no {E Eb : TypeId} {w w' : World} {l : List Int} {n : Int} {xs : List Tx} {u : Value} (h : ruB l n xs = false) (ho : OwnB Eb w' w.heap.size u []) (hb : Below w.heap.size w w') : RuP E Eb w l n xs (.returned (.tuple #[.agg #[.slice none 0 0, .int .i64 0], u])) w' := by
  obtain ⟨h1, h2, h3⟩ := ru_no h
  unfold RuP; rw [h1, h2, h3]
  exact ⟨_, u, rfl, Own.nil _ _ _, ho, hb⟩
theorem RuP.yes {E Eb : TypeId} {w w' : World} {l : List Int} {n : Int} {xs : List Tx} {v u : Value} (h : ruB l n xs = true) (hv : Own E w' w.heap.size v (rnL l xs)) (ho : OwnB Eb w' w.heap.size u (rnO l xs)) (hb : Below w.heap.size w w') : RuP E Eb w l n xs (.returned (.tuple #[.agg #[v, .int .i64 (rnF l n xs)], u])) w' := by
  obtain ⟨h1, h2, h3⟩ := ru_yes h
  unfold RuP; rw [h1, h2, h3]
  exact ⟨v, u, rfl, hv, ho, hb⟩

set_option maxHeartbeats 4000000 in
theorem spec_LedgerRun (a : Option Addr) (cap : Nat) (l : List Int) (n : Int) (xs : List Tx) (v : Value) (fp : List Nat) (w : World) (hbig : l.length ≤ 1099511627776) (hx : xs.length ≤ 1099511627776) (hi : IntsAt w a l) (hsrc : SrcAt w a cap l) (ht : Txs w xs v fp) :
    Calls Try.prog 10 #[.agg #[.slice a l.length cap, .int .i64 n], v] w (RuP 3 4 w l n xs) := by
  have hno : ∀ (u : Value) (w' : World), ruB l n xs = false → OwnB 4 w' w.heap.size u [] → Below w.heap.size w w' → RuP 3 4 w l n xs (.returned (.tuple #[.agg #[.slice none 0 0, .int .i64 0], u])) w' := fun _ _ h h1 h2 => RuP.no h h1 h2
  have hyes : ∀ (v u : Value) (w' : World), ruB l n xs = true → Own 3 w' w.heap.size v (rnL l xs) → OwnB 4 w' w.heap.size u (rnO l xs) → Below w.heap.size w w' → RuP 3 4 w l n xs (.returned (.tuple #[.agg #[v, .int .i64 (rnF l n xs)], u])) w' := fun _ _ _ h h0 h1 h2 => RuP.yes h h0 h1 h2
  have Hno := Lib.hid hno; have Hyes := Lib.hid hyes; clear hno hyes
  generalize RuP 3 4 w l n xs = POST at *
  obtain ⟨va, vc, rfl, hvc⟩ := ht.slice
  have hb0 : Below w.heap.size w ((w.alloc (.cells #[.slice a l.length cap, .int .i64 n] 25)).alloc (.cells #[.slice none 0 0, .int .i64 0] 25)) := ((Below.refl _ _).alloc (Nat.le_refl _) _).alloc (by simp only [World.size_alloc]; omega) _
  have s1 := (Str.new w 25 #[.slice a l.length cap, .int .i64 n]).alloc (.cells #[.slice none 0 0, .int .i64 0] 25)
  have s2 := Str.new (w.alloc (.cells #[.slice a l.length cap, .int .i64 n] 25)) 25 #[.slice none 0 0, .int .i64 0]
  simp only [World.size_alloc] at s2
  have hz : ((w.alloc (.cells #[.slice a l.length cap, .int .i64 n] 25)).alloc (.cells #[.slice none 0 0, .int .i64 0] 25)).heap.size = w.heap.size + 2 := by simp
  have k0 := s1.cell 0 (v := .slice a l.length cap) rfl
  have k1 := s1.cell 1 (v := .int .i64 n) rfl
  have HT0 := Lib.hid (fun W (hb : Below w.heap.size w W) => Txs.under ht hb); have S1 := Lib.hid s1; have S2 := Lib.hid s2; have Hi := Lib.hid (hi.below hb0); have Hb := Lib.hid hb0; have Hsrc := Lib.hid (hsrc.lies hi hb0)
  clear s1 s2 hi ht hb0 hsrc
  have hR := fun W (h : IntsAt W a l) => spec_l31Room a cap l n 16 W hbig h (by omega)
  have hbr : roomB l n 16 = true ∨ roomB l n 16 = false := by cases roomB l n 16 <;> simp
  go_enter Try.func10, Try.ntmps10
  rcases hbr with hbr | hbr
  case inr =>
    have Hr := Lib.hid (show ruB l n xs = false by unfold ruB; rw [hbr]; rfl)
    rw [hbr] at hR
    clear hbr S1 Hsrc
    have HR := Lib.hid hR; clear hR
    go_wp2_with fail
    generalize ((w.alloc (.cells #[.slice a l.length cap, .int .i64 n] 25)).alloc (.cells #[.slice none 0 0, .int .i64 0] 25)) = W0 at *
    refine (HR.out _ Hi.out).mono ?_
    rintro e w1 ⟨rfl, hb1⟩
    have hs1 := hb1.size
    have Hb := Lib.hid (below_step Hb.out Hb.out.size hb1)
    have S2 := Lib.hid (show Str w1 (w.heap.size + 1) 25 #[.slice none 0 0, .int .i64 0] from (hb1.block _ S2.out.lt).trans S2.out)
    clear hb1 k0 k1
    have hal : Below w1.heap.size w1 (w1.alloc (.cells #[] 4)) := (Below.refl _ _).alloc (Nat.le_refl _) _
    have hbb := ownB_empty 4 w1 (B := w.heap.size + 2) (by omega)
    have Hb := Lib.hid (below_step Hb.out Hb.out.size hal)
    have S2 := Lib.hid (show Str (w1.alloc (.cells #[] 4)) (w.heap.size + 1) 25 #[.slice none 0 0, .int .i64 0] from S2.out.alloc _)
    have KB := Lib.hid hbb; clear hbb hal
    have y0 := S2.out.frozen 0
    have y1 := S2.out.frozen 1
    have q0 := S2.out.cell 0 (v := .slice none 0 0) rfl
    have q1 := S2.out.cell 1 (v := .int .i64 0) rfl
    have sF := (S2.out.set 0 (.slice none 0 0)).set 1 (.int .i64 0)
    have e0 := sF.cell 0 (v := .slice none 0 0) rfl
    have e1 := sF.cell 1 (v := .int .i64 0) rfl
    have hnb : (Value.slice (some ⟨w1.heap.size, 0, none⟩) 0 0).ownBlock ≠ some (w.heap.size + 1) := fun e => by have := (KB.out.lt _ e).1; omega
    have KF := Lib.hid (((KB.out.set_other hnb 0 (.slice none 0 0)).set_other hnb 1 (.int .i64 0)).mono (show w.heap.size ≤ _ by omega))
    have BF := Lib.hid ((Hb.out.setCell (p := ⟨w.heap.size + 1, 0, none⟩) (by simp only; omega) (.slice none 0 0)).setCell (p := ⟨w.heap.size + 1, 1, none⟩) (by simp only; omega) (.int .i64 0))
    clear sF hnb
    go_wp2
    refine bodyPost_ret (v := .tuple #[.agg #[.slice none 0 0, .int .i64 0], .slice (some ⟨w1.heap.size, 0, none⟩) 0 0]) (by simp [results, Try.f10, go_sem, e0, e1]) rfl ?_
    exact Hno.out _ _ Hr.out KF.out BF.out
  rw [hbr] at hR
  by_cases hx16 : xs.length ≤ 16
  case neg =>
    have Hr := Lib.hid (show ruB l n xs = false by unfold ruB; rw [decide_eq_false hx16, Bool.and_false])
    have hd : decide (16 < (xs.length : Int)) = true := decide_eq_true (by omega)
    have hd2 : (16 : Int) < (xs.length : Int) := by omega
    clear hbr S1 Hsrc hx16
    have HR := Lib.hid hR; clear hR
    go_wp2_with fail
    generalize ((w.alloc (.cells #[.slice a l.length cap, .int .i64 n] 25)).alloc (.cells #[.slice none 0 0, .int .i64 0] 25)) = W0 at *
    refine (HR.out _ Hi.out).mono ?_
    rintro e w1 ⟨rfl, hb1⟩
    have hs1 := hb1.size
    have Hb := Lib.hid (below_step Hb.out Hb.out.size hb1)
    have S2 := Lib.hid (show Str w1 (w.heap.size + 1) 25 #[.slice none 0 0, .int .i64 0] from (hb1.block _ S2.out.lt).trans S2.out)
    clear hb1 k0 k1
    have hal : Below w1.heap.size w1 (w1.alloc (.cells #[] 4)) := (Below.refl _ _).alloc (Nat.le_refl _) _
    have hbb := ownB_empty 4 w1 (B := w.heap.size + 2) (by omega)
    have Hb := Lib.hid (below_step Hb.out Hb.out.size hal)
    have S2 := Lib.hid (show Str (w1.alloc (.cells #[] 4)) (w.heap.size + 1) 25 #[.slice none 0 0, .int .i64 0] from S2.out.alloc _)
    have KB := Lib.hid hbb; clear hbb hal
    have y0 := S2.out.frozen 0
    have y1 := S2.out.frozen 1
    have q0 := S2.out.cell 0 (v := .slice none 0 0) rfl
    have q1 := S2.out.cell 1 (v := .int .i64 0) rfl
    have sF := (S2.out.set 0 (.slice none 0 0)).set 1 (.int .i64 0)
    have e0 := sF.cell 0 (v := .slice none 0 0) rfl
    have e1 := sF.cell 1 (v := .int .i64 0) rfl
    have hnb : (Value.slice (some ⟨w1.heap.size, 0, none⟩) 0 0).ownBlock ≠ some (w.heap.size + 1) := fun e => by have := (KB.out.lt _ e).1; omega
    have KF := Lib.hid (((KB.out.set_other hnb 0 (.slice none 0 0)).set_other hnb 1 (.int .i64 0)).mono (show w.heap.size ≤ _ by omega))
    have BF := Lib.hid ((Hb.out.setCell (p := ⟨w.heap.size + 1, 0, none⟩) (by simp only; omega) (.slice none 0 0)).setCell (p := ⟨w.heap.size + 1, 1, none⟩) (by simp only; omega) (.int .i64 0))
    clear sF hnb
    go_wp2
    refine bodyPost_ret (v := .tuple #[.agg #[.slice none 0 0, .int .i64 0], .slice (some ⟨w1.heap.size, 0, none⟩) 0 0]) (by simp [results, Try.f10, go_sem, e0, e1]) rfl ?_
    exact Hno.out _ _ Hr.out KF.out BF.out
  have Hr := Lib.hid (show ruB l n xs = true by unfold ruB; rw [hbr, decide_eq_true hx16]; rfl)
  have hd : decide (16 < (xs.length : Int)) = false := decide_eq_false (by omega)
  have hd2 : ¬ (16 : Int) < (xs.length : Int) := by omega
  obtain ⟨hv, hn⟩ := room_iff.1 hbr
  have HA := Lib.hid (fun W (h : IntsAt W a l) (h2 : SrcAt W a cap l) (h3 : Txs W xs (.slice va xs.length vc) fp) => spec_l31Run a cap l n xs (.slice va xs.length vc) fp W hv hx16 (by omega) h h2 h3)
  unfold RnP at HA
  clear hbr hv hn hx16
  have HR := Lib.hid hR; clear hR
  go_wp2_with fail
  generalize ((w.alloc (.cells #[.slice a l.length cap, .int .i64 n] 25)).alloc (.cells #[.slice none 0 0, .int .i64 0] 25)) = W0 at *
  refine (HR.out _ Hi.out).mono ?_
  rintro e w1 ⟨rfl, hb1⟩
  have hs1 := hb1.size
  have Hb := Lib.hid (below_step Hb.out Hb.out.size hb1)
  have S2 := Lib.hid (show Str w1 (w.heap.size + 1) 25 #[.slice none 0 0, .int .i64 0] from (hb1.block _ S2.out.lt).trans S2.out)
  have S1 := Lib.hid (show Str w1 w.heap.size 25 #[.slice a l.length cap, .int .i64 n] from (hb1.block _ S1.out.lt).trans S1.out)
  have Hsrc := Lib.hid (Hsrc.out.lies Hi.out hb1)
  have Hi := Lib.hid (Hi.out.below hb1)
  have Ht := Lib.hid (HT0.out _ Hb.out)
  clear hb1 k0 k1
  have k0 := S1.out.cell 0 (v := .slice a l.length cap) rfl
  have k1 := S1.out.cell 1 (v := .int .i64 n) rfl
  go_wp2_with fail
  refine (HA.out _ Hi.out Hsrc.out Ht.out).mono ?_
  rintro e w2 ⟨v9, u9, rfl, ho, hk, hb2⟩
  obtain ⟨ua, uc, rfl, _, _⟩ := ho.ints
  obtain ⟨ba, bc, rfl, _⟩ := hk.slice
  have OL := Lib.hid ho; have KL := Lib.hid hk
  have Hb := Lib.hid (below_step Hb.out Hb.out.size hb2)
  have S2 := Lib.hid (show Str w2 (w.heap.size + 1) 25 #[.slice none 0 0, .int .i64 0] from (hb2.block _ S2.out.lt).trans S2.out)
  clear hb2 ho hk k0 k1 S1
  generalize hL : rnL l xs = L at *
  generalize hF : rnF l n xs = m at *
  generalize hO : rnO l xs = bs at *
  skip
  have y0 := S2.out.frozen 0
  have y1 := S2.out.frozen 1
  have q0 := S2.out.cell 0 (v := .slice none 0 0) rfl
  have q1 := S2.out.cell 1 (v := .int .i64 0) rfl
  have hne : (Value.slice ua L.length uc).ownBlock ≠ some (w.heap.size + 1) := fun e => by have := (OL.out.lt _ e).1; omega
  have hnb : (Value.slice ba bs.length bc).ownBlock ≠ some (w.heap.size + 1) := fun e => by have := (KL.out.lt _ e).1; omega
  have sF := (S2.out.set 0 (.slice ua L.length uc)).set 1 (.int .i64 m)
  have e0 := sF.cell 0 (v := .slice ua L.length uc) rfl
  have e1 := sF.cell 1 (v := .int .i64 m) rfl
  have OF := Lib.hid (((OL.out.set_other hne 0 (.slice ua L.length uc)).set_other hne 1 (.int .i64 m)).mono (show w.heap.size ≤ _ by omega))
  have KF := Lib.hid (((KL.out.set_other hnb 0 (.slice ua L.length uc)).set_other hnb 1 (.int .i64 m)).mono (show w.heap.size ≤ _ by omega))
  have BF := Lib.hid ((Hb.out.setCell (p := ⟨w.heap.size + 1, 0, none⟩) (by simp only; omega) (.slice ua L.length uc)).setCell (p := ⟨w.heap.size + 1, 1, none⟩) (by simp only; omega) (.int .i64 m))
  clear sF hne hnb
  go_wp2
  refine bodyPost_ret (v := .tuple #[.agg #[.slice ua L.length uc, .int .i64 m], .slice ba bs.length bc]) (by simp [results, Try.f10, go_sem, e0, e1]) rfl ?_
  exact Hyes.out _ _ _ Hr.out OF.out KF.out BF.out

end Go.Proofs.Ytfnhafgjdnlhiaa

/- The program's LedgerRun, by a walk of its text; condition: the lists are shorter than 2^40. -/
namespace Go.Proofs.Ytfnhafgjdnlhiaa
open Go.RowKit

/-- While transactions are executed: the answer's ledger, the program's ledger (block B) with its balances L and fees m, the outcomes bs. -/
structure Riw (TL LT Eb : TypeId) (w : World) (B : Nat) (L : List Int) (m : Int) (ub : Value) (bs : List Bool) (W : World) : Prop where
  s2 : Str W (w.heap.size + 1) TL #[.slice none 0 0, .int .i64 0]
  lg : Lg LT W B L m
  oks : OwnB Eb W (w.heap.size + 2) ub bs
  nB : ub.ownBlock ≠ some B
  dB : w.heap.size + 2 ≤ B
  bel : Below w.heap.size w W
section
variable {TL LT Eb : TypeId} {w : World} {B : Nat} {L : List Int} {m : Int} {ub : Value} {bs : List Bool} {W W' : World}
theorem Riw.below (h : Riw TL LT Eb w B L m ub bs W) (hb : Below W.heap.size W W') : Riw TL LT Eb w B L m ub bs W' :=
  ⟨(hb.block _ h.s2.lt).trans h.s2, (hb.block _ h.lg.lt).trans h.lg, h.oks.below hb, h.nB, h.dB, below_step h.bel h.bel.size hb⟩
/-- A transaction is executed. -/
theorem Riw.exec (h : Riw TL LT Eb w B L m ub bs W) {L2 : List Int} {m2 : Int} (hs : Lg LT W' B L2 m2) (hg : W.grownBy W' (some B)) : Riw TL LT Eb w B L2 m2 ub bs W' := by
  have hB := h.dB
  exact ⟨h.s2.kept hg (by simp; omega), hs, h.oks.kept hg (.inr h.nB), h.nB, h.dB, h.bel.grown hg h.bel.size (fun g e => by cases e; omega)⟩
/-- An outcome is appended. -/
theorem Riw.push (h : Riw TL LT Eb w B L m ub bs W) {u2 : Value} {bs2 : List Bool} (ho : OwnB Eb W' (w.heap.size + 2) u2 bs2) (hg : W.grownBy W' ub.ownBlock) (hat : u2.ownBlock = ub.ownBlock ∨ ∃ g, u2.ownBlock = some g ∧ W.heap.size ≤ g) : Riw TL LT Eb w B L m u2 bs2 W' := by
  have hB := h.dB; have hl := h.lg.lt
  refine ⟨h.s2.kept hg (fun e => by have := (h.oks.lt _ e.symm).1; omega), Str.kept h.lg hg (fun e => h.nB e.symm), ho, ?_, hB, h.bel.grown hg h.bel.size (fun g e => by have := (h.oks.lt g e).1; omega)⟩
  rcases hat with e | ⟨g, e, h2⟩
  · rw [e]; exact h.nB
  · rw [e]; simp; omega
end

/-- What ledgerForRun answers. -/
def FrP (LT : TypeId) (w : World) (l : List Int) (n : Int) (xs : List Tx) (e : Ending) (w' : World) : Prop := Below w.heap.size w w' ∧
  ((ruB l n xs = false ∧ e = .returned (.tuple #[.pointer none, .bool false])) ∨ (ruB l n xs = true ∧ ∃ B, e = .returned (.tuple #[.pointer (some ⟨B, 0, none⟩), .bool true]) ∧ w.heap.size ≤ B ∧ B < w'.heap.size ∧ Lg LT w' B l n))
set_option maxHeartbeats 4000000 in
theorem lg_forRun (a : Option Addr) (cap : Nat) (l : List Int) (n : Int) (xs : List Tx) (va : Option Addr) (vc : Nat) (w : World) (hbig : l.length ≤ 1099511627776) (hx : xs.length ≤ 1099511627776) (hi : IntsAt w a l) :
    Calls Try.prog 31 #[.agg #[.slice a l.length cap, .int .i64 n], .slice va xs.length vc] w (FrP 69 w l n xs) := by
  have hno : ∀ (w' : World), ruB l n xs = false → Below w.heap.size w w' → FrP 69 w l n xs (.returned (.tuple #[.pointer none, .bool false])) w' := fun _ h h1 => ⟨h1, .inl ⟨h, rfl⟩⟩
  have hyes : ∀ (B : Nat) (w' : World), ruB l n xs = true → w.heap.size ≤ B → B < w'.heap.size → Lg 69 w' B l n → Below w.heap.size w w' → FrP 69 w l n xs (.returned (.tuple #[.pointer (some ⟨B, 0, none⟩), .bool true])) w' := fun B _ h h1 h2 h3 h4 => ⟨h4, .inr ⟨h, B, rfl, h1, h2, h3⟩⟩
  have Hno := Lib.hid hno; have Hyes := Lib.hid hyes; clear hno hyes
  generalize FrP 69 w l n xs = POST at *
  have hb0 : Below w.heap.size w (w.alloc (.cells #[.slice a l.length cap, .int .i64 n] 25)) := (Below.refl _ _).alloc (Nat.le_refl _) _
  have s1 := Str.new w 25 #[.slice a l.length cap, .int .i64 n]
  have k0 := s1.cell 0 (v := .slice a l.length cap) rfl
  have k1 := s1.cell 1 (v := .int .i64 n) rfl
  have Hi := Lib.hid (hi.below hb0); have Hb := Lib.hid hb0
  clear s1 hi hb0
  have hbv : ldB l n = true ∨ ldB l n = false := by cases ldB l n <;> simp
  go_enter Try.func31, Try.ntmps31
  rcases hbv with hbv | hbv
  case inr =>
    have HN := Lib.hid (fun W (h : IntsAt W a l) => lg_ledgerOf_no a cap l n W hbig h hbv)
    have Hr := Lib.hid (show ruB l n xs = false by unfold ruB roomB; rw [hbv]; rfl)
    clear hbv
    go_wp2_with fail
    generalize (w.alloc (.cells #[.slice a l.length cap, .int .i64 n] 25)) = W0 at *
    refine (HN.out _ Hi.out).mono ?_
    rintro e w1 ⟨rfl, hb1⟩
    have Hb := Lib.hid (below_step Hb.out Hb.out.size hb1)
    clear hb1 k0 k1
    go_wp2
    exact Hno.out _ Hr.out Hb.out
  have HY := Lib.hid (fun W (h : IntsAt W a l) => lg_ledgerOf a cap l n W hbig h hbv)
  obtain ⟨-, h6, hn0, hn1⟩ := ldB_iff.1 hbv
  have HP := fun W B (h : Lg 69 W B l n) => lg_hasSpace B l n 16 W ⟨hn0, hn1⟩ (by omega) h
  have Hv := Lib.hid hbv; clear hbv h6
  go_wp2_with fail
  generalize (w.alloc (.cells #[.slice a l.length cap, .int .i64 n] 25)) = W0 at *
  refine (HY.out _ Hi.out).mono ?_
  rintro e w1 ⟨B, rfl, hB1, hB2, hs, hb1⟩
  have hs0 := Hb.out.size
  have Hb := Lib.hid (below_step Hb.out Hb.out.size hb1)
  have S9 := Lib.hid hs
  clear hb1 k0 k1 hs
  by_cases hsp : n ≤ 5850
  case neg =>
    have Hr := Lib.hid (show ruB l n xs = false by unfold ruB roomB; rw [decide_eq_false (show ¬ n ≤ 5994 - 9 * 16 by omega), Bool.and_false]; rfl)
    rw [decide_eq_false (show ¬ n ≤ 5994 - 9 * 16 by omega)] at HP
    have HP := Lib.hid HP
    clear hsp
    go_wp2_with fail
    refine (HP.out _ _ S9.out).mono ?_
    rintro e w2 ⟨rfl, rfl⟩
    go_wp2
    exact Hno.out _ Hr.out Hb.out
  rw [decide_eq_true (show n ≤ 5994 - 9 * 16 by omega)] at HP
  have HP := Lib.hid HP
  by_cases hx16 : xs.length ≤ 16
  case neg =>
    have Hr := Lib.hid (show ruB l n xs = false by unfold ruB; rw [decide_eq_false hx16, Bool.and_false])
    have hd : decide (16 < (xs.length : Int)) = true := decide_eq_true (by omega)
    have hd2 : (16 : Int) < (xs.length : Int) := by omega
    clear hx16 hsp
    go_wp2_with fail
    refine (HP.out _ _ S9.out).mono ?_
    rintro e w2 ⟨rfl, rfl⟩
    go_wp2
    exact Hno.out _ Hr.out Hb.out
  have Hr := Lib.hid (show ruB l n xs = true from ru_iff.2 ⟨Hv.out, hsp, hx16⟩)
  have hd : decide (16 < (xs.length : Int)) = false := decide_eq_false (by omega)
  have hd2 : ¬ (16 : Int) < (xs.length : Int) := by omega
  clear hx16 hsp
  go_wp2_with fail
  refine (HP.out _ _ S9.out).mono ?_
  rintro e w2 ⟨rfl, rfl⟩
  go_wp2
  exact Hyes.out B _ Hr.out (by omega) hB2 S9.out Hb.out

set_option maxHeartbeats 8000000 in
theorem impl_LedgerRun (a : Option Addr) (cap : Nat) (l : List Int) (n : Int) (xs : List Tx) (v : Value) (fp : List Nat) (w : World) (hbig : l.length ≤ 1099511627776) (hx : xs.length ≤ 1099511627776) (hi : IntsAt w a l) (ht : Txs w xs v fp) :
    Calls Try.prog 9 #[.agg #[.slice a l.length cap, .int .i64 n], v] w (RuP 3 4 w l n xs) := by
  have hno : ∀ (u : Value) (w' : World), ruB l n xs = false → OwnB 4 w' w.heap.size u [] → Below w.heap.size w w' → RuP 3 4 w l n xs (.returned (.tuple #[.agg #[.slice none 0 0, .int .i64 0], u])) w' := fun _ _ h h1 h2 => RuP.no h h1 h2
  have hyes : ∀ (v u : Value) (w' : World), ruB l n xs = true → Own 3 w' w.heap.size v (rnL l xs) → OwnB 4 w' w.heap.size u (rnO l xs) → Below w.heap.size w w' → RuP 3 4 w l n xs (.returned (.tuple #[.agg #[v, .int .i64 (rnF l n xs)], u])) w' := fun _ _ _ h h0 h1 h2 => RuP.yes h h0 h1 h2
  have Hno := Lib.hid hno; have Hyes := Lib.hid hyes; clear hno hyes
  generalize RuP 3 4 w l n xs = POST at *
  obtain ⟨va, vc, rfl, hvc⟩ := ht.slice
  have hb0 : Below w.heap.size w ((w.alloc (.cells #[.slice a l.length cap, .int .i64 n] 25)).alloc (.cells #[.slice none 0 0, .int .i64 0] 25)) := ((Below.refl _ _).alloc (Nat.le_refl _) _).alloc (by simp only [World.size_alloc]; omega) _
  have s1 := (Str.new w 25 #[.slice a l.length cap, .int .i64 n]).alloc (.cells #[.slice none 0 0, .int .i64 0] 25)
  have s2 := Str.new (w.alloc (.cells #[.slice a l.length cap, .int .i64 n] 25)) 25 #[.slice none 0 0, .int .i64 0]
  simp only [World.size_alloc] at s2
  have hz : ((w.alloc (.cells #[.slice a l.length cap, .int .i64 n] 25)).alloc (.cells #[.slice none 0 0, .int .i64 0] 25)).heap.size = w.heap.size + 2 := by simp
  have k0 := s1.cell 0 (v := .slice a l.length cap) rfl
  have k1 := s1.cell 1 (v := .int .i64 n) rfl
  have HT0 := Lib.hid (fun W (hb : Below w.heap.size w W) => Txs.under ht hb); have S1 := Lib.hid s1; have S2 := Lib.hid s2; have Hi := Lib.hid (hi.below hb0); have Hb := Lib.hid hb0
  clear s1 s2 hi ht hb0
  have hal : Below ((w.alloc (.cells #[.slice a l.length cap, .int .i64 n] 25)).alloc (.cells #[.slice none 0 0, .int .i64 0] 25)).heap.size ((w.alloc (.cells #[.slice a l.length cap, .int .i64 n] 25)).alloc (.cells #[.slice none 0 0, .int .i64 0] 25)) (((w.alloc (.cells #[.slice a l.length cap, .int .i64 n] 25)).alloc (.cells #[.slice none 0 0, .int .i64 0] 25)).alloc (.cells #[] 4)) := (Below.refl _ _).alloc (Nat.le_refl _) _
  have hbb := ownB_empty 4 ((w.alloc (.cells #[.slice a l.length cap, .int .i64 n] 25)).alloc (.cells #[.slice none 0 0, .int .i64 0] 25)) (B := w.heap.size + 2) (by omega)
  rw [hz] at hbb
  have Hb := Lib.hid (below_step Hb.out Hb.out.size hal)
  have S2 := Lib.hid (show Str (((w.alloc (.cells #[.slice a l.length cap, .int .i64 n] 25)).alloc (.cells #[.slice none 0 0, .int .i64 0] 25)).alloc (.cells #[] 4)) (w.heap.size + 1) 25 #[.slice none 0 0, .int .i64 0] from S2.out.alloc _)
  have S1 := Lib.hid (show Str (((w.alloc (.cells #[.slice a l.length cap, .int .i64 n] 25)).alloc (.cells #[.slice none 0 0, .int .i64 0] 25)).alloc (.cells #[] 4)) w.heap.size 25 #[.slice a l.length cap, .int .i64 n] from S1.out.alloc _)
  have Hi := Lib.hid (Hi.out.below hal)
  have hz3 : (((w.alloc (.cells #[.slice a l.length cap, .int .i64 n] 25)).alloc (.cells #[.slice none 0 0, .int .i64 0] 25)).alloc (.cells #[] 4)).heap.size = w.heap.size + 3 := by simp
  have KB := Lib.hid hbb; clear hbb hal k0 k1
  have k0 := S1.out.cell 0 (v := .slice a l.length cap) rfl
  have k1 := S1.out.cell 1 (v := .int .i64 n) rfl
  clear S1
  have HF := Lib.hid (fun W (h : IntsAt W a l) => lg_forRun a cap l n xs va vc W hbig hx h)
  go_enter Try.func9, Try.ntmps9
  go_wp2_with fail
  generalize (((w.alloc (.cells #[.slice a l.length cap, .int .i64 n] 25)).alloc (.cells #[.slice none 0 0, .int .i64 0] 25)).alloc (.cells #[] 4)) = W0 at *
  refine (HF.out _ Hi.out).mono ?_
  rintro e w1 ⟨hb1, ⟨hr0, rfl⟩ | ⟨hr0, B, rfl, hB1, hB2, hs⟩⟩
  case inl =>
    have Hr := Lib.hid hr0
    have Hb := Lib.hid (below_step Hb.out Hb.out.size hb1)
    have S2 := Lib.hid (show Str w1 (w.heap.size + 1) 25 #[.slice none 0 0, .int .i64 0] from (hb1.block _ S2.out.lt).trans S2.out)
    have KB := Lib.hid (KB.out.below hb1)
    clear hb1 k0 k1 hr0
    have y0 := S2.out.frozen 0
    have y1 := S2.out.frozen 1
    have q0 := S2.out.cell 0 (v := .slice none 0 0) rfl
    have q1 := S2.out.cell 1 (v := .int .i64 0) rfl
    have sF := (S2.out.set 0 (.slice none 0 0)).set 1 (.int .i64 0)
    have e0 := sF.cell 0 (v := .slice none 0 0) rfl
    have e1 := sF.cell 1 (v := .int .i64 0) rfl
    have hnb : (Value.slice (some ⟨w.heap.size + 2, 0, none⟩) 0 0).ownBlock ≠ some (w.heap.size + 1) := fun e => by have := (KB.out.lt _ e).1; omega
    have KF := Lib.hid (((KB.out.set_other hnb 0 (.slice none 0 0)).set_other hnb 1 (.int .i64 0)).mono (show w.heap.size ≤ _ by omega))
    have BF := Lib.hid ((Hb.out.setCell (p := ⟨w.heap.size + 1, 0, none⟩) (by simp only; omega) (.slice none 0 0)).setCell (p := ⟨w.heap.size + 1, 1, none⟩) (by simp only; omega) (.int .i64 0))
    clear sF hnb
    go_wp2
    refine bodyPost_ret (v := .tuple #[.agg #[.slice none 0 0, .int .i64 0], .slice (some ⟨w.heap.size + 2, 0, none⟩) 0 0]) (by simp [results, Try.f9, go_sem, e0, e1]) rfl ?_
    exact Hno.out _ _ Hr.out KF.out BF.out
  obtain ⟨hbv, hsp, hx16⟩ := ru_iff.1 hr0
  obtain ⟨-, h6, hn0, hn1⟩ := ldB_iff.1 hbv
  have H6 := Lib.hid h6; have Hv := Lib.hid hbv; have Hr := Lib.hid hr0
  have HVk := Lib.hid (fun k (h : k ≤ xs.length) => rn_ok Hv.out (show n + 9 * (xs.length : Int) ≤ 5994 by omega) k h)
  have Hb := Lib.hid (below_step Hb.out Hb.out.size hb1)
  have S2 := Lib.hid (show Str w1 (w.heap.size + 1) 25 #[.slice none 0 0, .int .i64 0] from (hb1.block _ S2.out.lt).trans S2.out)
  have KB := Lib.hid (KB.out.below hb1)
  have S9 := Lib.hid hs
  have hB3 : w.heap.size + 3 ≤ B := by omega
  have hd2 : ¬ (16 : Int) < (xs.length : Int) := by omega
  clear hb1 k0 k1 hs h6 hr0 hbv hn0 hn1 hsp hx16
  have HR := Lib.hid (show Riw 25 69 4 w B l n (.slice (some ⟨w.heap.size + 2, 0, none⟩) 0 0) [] w1 from ⟨S2.out, S9.out, KB.out, (by simp [Value.ownBlock]; omega), by omega, Hb.out⟩)
  have Ht := Lib.hid (HT0.out _ Hb.out)
  clear S2 S9 KB Hb Hi
  go_wp2
  have hL0 : rnL l (xs.take 0) = l := rfl
  have hF0 : rnF l n (xs.take 0) = n := rfl
  have hO0 : rnO l (xs.take 0) = [] := rfl
  generalize ([] : List Bool) = B0 at *
  go_loopw [6, 24] (fun u i wr => ∃ k : Nat, k ≤ xs.length ∧ i = .int .i64 k ∧ Riw 25 69 4 w B (rnL l (xs.take k)) (rnF l n (xs.take k)) u (rnO l (xs.take k)) wr) (fun _ i _ => xs.length - (intOf i).toNat)
  case atStart => exact ⟨0, by omega, rfl, by rw [hL0, hF0, hO0]; exact HR.out⟩
  case round =>
    clear HR Ht hL0 hF0 hO0
    obtain ⟨k, hk, rfl, hr⟩ := hrel
    obtain ⟨ba, bc, rfl, _⟩ := hr.oks.slice
    have HR := Lib.hid hr; clear hr
    have Hol := Lib.hid (show (rnO l (xs.take k)).length = k by rw [(rn_len _ _).2, List.length_take]; omega)
    have Hvk := Lib.hid (HVk.out k hk)
    have HLk := Lib.hid (show (rnL l (xs.take k)).length = l.length from (rn_len _ _).1)
    by_cases hlt : k < xs.length
    case pos =>
      have Htk := Lib.hid (rn_take hlt l n)
      have hlt' : (k : Int) < (xs.length : Int) := by omega
      have Ht := Lib.hid (HT0.out _ HR.out.bel)
      obtain ⟨tb, toff, rfl, htb, hcc⟩ := Ht.out.at (by omega)
      have hck := hcc k hlt
      clear hcc
      obtain ⟨L, hL⟩ : ∃ L, L = rnL l (xs.take k) := ⟨_, rfl⟩
      obtain ⟨m, hm⟩ : ∃ m, m = rnF l n (xs.take k) := ⟨_, rfl⟩
      obtain ⟨bs, hbs⟩ : ∃ bs, bs = rnO l (xs.take k) := ⟨_, rfl⟩
      rw [← hL, ← hm, ← hbs] at HR
      rw [← hL, ← hm] at Hvk
      rw [← hbs] at Hol
      rw [← hbs]
      rw [← hL, ← hm, ← hbs] at Htk
      clear hL hm hbs HLk
      have HE := Lib.hid (fun W (h : Lg 69 W B L m) => lg_execute B L m xs[k] W Hvk.out h)
      unfold agT at HE
      generalize xs[k] = x at *
      obtain ⟨c0, c1, c2, c3⟩ := hck
      have hal : Below wr.heap.size wr (wr.alloc (.cells #[.int .i64 x.f, .int .i64 x.t, .int .i64 x.s, .int .i64 x.e] 41)) := (Below.refl _ _).alloc (Nat.le_refl _) _
      have SX := Lib.hid (Str.new wr 41 #[.int .i64 x.f, .int .i64 x.t, .int .i64 x.s, .int .i64 x.e])
      have HR := Lib.hid (HR.out.below hal)
      clear hal
      have x0 := SX.out.cell 0 (v := .int .i64 x.f) rfl
      have x1 := SX.out.cell 1 (v := .int .i64 x.t) rfl
      have x2 := SX.out.cell 2 (v := .int .i64 x.s) rfl
      have x3 := SX.out.cell 3 (v := .int .i64 x.e) rfl
      go_wp2_with fail
      generalize (wr.alloc (.cells #[.int .i64 x.f, .int .i64 x.t, .int .i64 x.s, .int .i64 x.e] 41)) = wx at *
      clear c0 c1 c2 c3 x0 x1 x2 x3
      refine (HE.out _ HR.out.lg).mono ?_
      rintro e w5 ⟨rfl, hs5, hg5⟩
      have HR := Lib.hid (HR.out.exec hs5 hg5)
      clear hs5 hg5
      have hol : bs.length ≤ 1048576 := by have := Hol.out; omega
      have hsz : w.heap.size + 2 ≤ w5.heap.size := by have := HR.out.lg.lt; have := HR.out.dB; omega
      go_wp2_with (at_builtin; refine wpList_push_b TBo rfl (.tmp 28) (.tmp 32) rfl (w.heap.size + 2) (.slice ba bs.length bc) bs (okT L x) rfl HR.out.oks hol rfl hsz ?_; intro v6 w6 hown6 hg6 hloc6)
      obtain ⟨ba6, bc6, rfl, _⟩ := hown6.slice
      have HR := Lib.hid (HR.out.push hown6 hg6 hloc6)
      clear hown6 hg6 hloc6
      go_wp2
      go_roundw
      case rel => exact ⟨k + 1, by omega, by go_num, by rw [Htk.out.1, Htk.out.2.1, Htk.out.2.2]; exact HR.out⟩
      case measure => simp [intOf]; omega
    case neg =>
      have e : xs.take k = xs := List.take_of_length_le (by omega)
      have hlt' : ¬ (k : Int) < (xs.length : Int) := by omega
      have hR := HR.out; have hLk := HLk.out
      rw [e] at hR hLk ⊢
      have HR := Lib.hid hR; clear hR Hol Hvk e HLk
      have HC := Lib.hid (fun W (h : Lg 69 W B (rnL l xs) (rnF l n xs)) => lg_copied B (rnL l xs) (rnF l n xs) W (hLk.trans H6.out) h)
      clear hLk
      go_wp2_with fail
      refine (HC.out _ HR.out.lg).mono ?_
      rintro e w3 ⟨v, rfl, ho, hb3⟩
      obtain ⟨ua, uc, rfl, _, _⟩ := ho.ints
      have hsw : w.heap.size + 2 ≤ wr.heap.size := by have := HR.out.lg.lt; have := HR.out.dB; omega
      have OL := Lib.hid (ho.mono hsw)
      have HR := Lib.hid (HR.out.below hb3)
      have S2 := Lib.hid HR.out.s2; have KL := Lib.hid HR.out.oks; have Hb := Lib.hid HR.out.bel
      clear hb3 ho HR HC HVk
      generalize hL : rnL l xs = L at *
      generalize hF : rnF l n xs = m at *
      generalize hO : rnO l xs = bs at *
      skip
      have y0 := S2.out.frozen 0
      have y1 := S2.out.frozen 1
      have q0 := S2.out.cell 0 (v := .slice none 0 0) rfl
      have q1 := S2.out.cell 1 (v := .int .i64 0) rfl
      have hne : (Value.slice ua L.length uc).ownBlock ≠ some (w.heap.size + 1) := fun e => by have := (OL.out.lt _ e).1; omega
      have hnb : (Value.slice ba bs.length bc).ownBlock ≠ some (w.heap.size + 1) := fun e => by have := (KL.out.lt _ e).1; omega
      have sF := (S2.out.set 0 (.slice ua L.length uc)).set 1 (.int .i64 m)
      have e0 := sF.cell 0 (v := .slice ua L.length uc) rfl
      have e1 := sF.cell 1 (v := .int .i64 m) rfl
      have OF := Lib.hid (((OL.out.set_other hne 0 (.slice ua L.length uc)).set_other hne 1 (.int .i64 m)).mono (show w.heap.size ≤ _ by omega))
      have KF := Lib.hid (((KL.out.set_other hnb 0 (.slice ua L.length uc)).set_other hnb 1 (.int .i64 m)).mono (show w.heap.size ≤ _ by omega))
      have BF := Lib.hid ((Hb.out.setCell (p := ⟨w.heap.size + 1, 0, none⟩) (by simp only; omega) (.slice ua L.length uc)).setCell (p := ⟨w.heap.size + 1, 1, none⟩) (by simp only; omega) (.int .i64 m))
      clear sF hne hnb
      go_wp2
      refine bodyPost_ret (v := .tuple #[.agg #[.slice ua L.length uc, .int .i64 m], .slice ba bs.length bc]) (by simp [results, Try.f9, go_sem, e0, e1]) rfl ?_
      exact Hyes.out _ _ _ Hr.out OF.out KF.out BF.out

end Go.Proofs.Ytfnhafgjdnlhiaa

/- Plain facts on runs for the laws; nothing here is walked. -/
namespace Go.Proofs.Ytfnhafgjdnlhiaa
open Go.RowKit

theorem ru_len (l : List Int) (n : Int) (xs : List Tx) : (ruL l n xs).length ≤ 6 := by
  unfold ruL; split
  · rename_i h
    rw [(rn_len _ _).1, (ldB_iff.1 (ru_iff.1 h).1).2.1]; exact Nat.le_refl 6
  · simp
theorem ru_lenO (l : List Int) (n : Int) (xs : List Tx) : (ruO l n xs).length ≤ 16 := by
  unfold ruO; split
  · rename_i h
    rw [(rn_len _ _).2]; exact (ru_iff.1 h).2.2
  · simp
/-- The transactions of a first part that succeed. -/
theorem suc_take {xs : List Tx} {k : Nat} (hk : k < xs.length) : ∀ (l : List Int), sucL l (xs.take (k + 1)) = sucL l (xs.take k) ++ (if okT (rnL l (xs.take k)) xs[k] then [xs[k]] else []) := by
  induction xs generalizing k with
  | nil => exact absurd hk (by simp)
  | cons x xs ih =>
    intro l
    cases k with
    | zero =>
      simp only [List.take_succ_cons, List.take_zero, sucL, rnL, List.getElem_cons_zero]
      split <;> rfl
    | succ k =>
      have hk' : k < xs.length := by simpa using hk
      simp only [List.take_succ_cons, sucL, rnL, List.getElem_cons_succ]
      cases ho : okT l x with
      | false => rw [(ap_no (n := 0) ho).1]; exact ih hk' l
      | true =>
        have := ih hk' (apL l x)
        simp only [if_true, List.cons_append]
        rw [this]
theorem suc_len : ∀ (xs : List Tx) (l : List Int), (sucL l xs).length ≤ xs.length
  | [], _ => by simp [sucL]
  | x :: xs, l => by
    have h1 := suc_len xs (apL l x)
    have h2 := suc_len xs l
    rw [sucL]; split <;> simp <;> omega
theorem ru_suc {l : List Int} {n : Int} {xs : List Tx} (h : ruB l n xs = true) : ruL l n (sucL l xs) = rnL l xs ∧ ruF l n (sucL l xs) = rnF l n xs ∧ ∀ b ∈ ruO l n (sucL l xs), b = true := by
  obtain ⟨h1, h2, h3⟩ := ru_iff.1 h
  have hr : ruB l n (sucL l xs) = true := ru_iff.2 ⟨h1, h2, Nat.le_trans (suc_len xs l) h3⟩
  obtain ⟨e1, e2, e3⟩ := ru_yes hr
  obtain ⟨s1, s2, s3⟩ := suc_run xs l n
  rw [e1, e2, e3]
  exact ⟨s1, s2, s3⟩
theorem rnO_at : ∀ (xs : List Tx) (l : List Int) (k : Nat) (h : k < (rnO l xs).length) (h' : k < xs.length), (rnO l xs)[k] = okT (rnL l (xs.take k)) xs[k]
  | x :: xs, l, 0, _, _ => rfl
  | x :: xs, l, k + 1, h, h' => by
    have := rnO_at xs (apL l x) k (by simpa [rnO] using h) (by simpa using h')
    simpa [rnO, rnL] using this
/-- A run in two parts. -/
theorem ru_parts {l : List Int} {n : Int} {xs : List Tx} (h : ruB l n xs = true) (k : Nat) (hk : k ≤ xs.length) :
    ruB l n (xs.take k) = true ∧ ldB (rnL l (xs.take k)) (rnF l n (xs.take k)) = true ∧ rnL (rnL l (xs.take k)) (xs.drop k) = rnL l xs ∧ rnF (rnL l (xs.take k)) (rnF l n (xs.take k)) (xs.drop k) = rnF l n xs ∧ rnO l (xs.take k) ++ rnO (rnL l (xs.take k)) (xs.drop k) = rnO l xs := by
  obtain ⟨h1, h2, h3⟩ := ru_iff.1 h
  obtain ⟨a1, a2, a3⟩ := rn_app (xs.take k) (xs.drop k) l n
  rw [List.take_append_drop] at a1 a2 a3
  have hl : (xs.take k).length ≤ xs.length := by rw [List.length_take]; omega
  exact ⟨ru_iff.2 ⟨h1, h2, by omega⟩, rn_valid _ _ _ h1 (by omega), a1.symm, a2.symm, a3.symm⟩

end Go.Proofs.Ytfnhafgjdnlhiaa

/- Rows of transactions as the exact laws have them; nothing here is walked. -/
namespace Go.Proofs.Ytfnhafgjdnlhiaa
open Go.RowKit

theorem rows_tx : ∀ {es : List (List Fd)}, (∀ e ∈ es, txnP e) → ∃ g : List Tx, es = g.map txF
  | [], _ => ⟨[], rfl⟩
  | e :: es, h => by
    obtain ⟨g, rfl⟩ := rows_tx (es := es) fun x hx => h x (List.mem_cons_of_mem _ hx)
    obtain ⟨x0, x1, x2, x3, rfl⟩ := h e List.mem_cons_self
    exact ⟨⟨x0, x1, x2, x3⟩ :: g, rfl⟩

end Go.Proofs.Ytfnhafgjdnlhiaa

/- What the laws' helpers on lists of truth values answer (sameness, marks, their look-up), each by a walk of its text; condition: a list has at most 2^20 elements. -/
namespace Go.Proofs.Ytfnhafgjdnlhiaa
open Go.RowKit

/-- The mark of number j. -/
def mkB (j : Nat) : Bool := ((j : Int).tmod 3 == 0)
def markZ (k n : Nat) : List Bool := (List.range n).map fun j => mkB (k + j)
theorem markZ_len (k n : Nat) : (markZ k n).length = n := by simp [markZ]
theorem markZ_get (k n j : Nat) (h : j < (markZ k n).length) : (markZ k n)[j] = mkB (k + j) := by simp [markZ]
theorem markZ_snoc (k n : Nat) : markZ k (n + 1) = markZ k n ++ [mkB (k + n)] := by simp [markZ, List.range_succ]
/-- i elements are marked. -/
def markY (xs : List Bool) (k i : Nat) : List Bool := markZ k i ++ xs.drop i
theorem markY_len {xs : List Bool} {k i : Nat} (h : i ≤ xs.length) : (markY xs k i).length = xs.length := by simp [markY, markZ_len]; omega
theorem markY_zero (xs : List Bool) (k : Nat) : markY xs k 0 = xs := by simp [markY, markZ]
theorem markY_all (xs : List Bool) (k : Nat) : markY xs k xs.length = markZ k xs.length := by simp [markY]
theorem markY_step {xs : List Bool} {k i : Nat} (h : i < xs.length) : (markY xs k i).set i (mkB (k + i)) = markY xs k (i + 1) := by
  unfold markY
  rw [List.set_append, if_neg (by rw [markZ_len]; omega), markZ_len, Nat.sub_self, markZ_snoc, List.append_assoc, List.drop_eq_getElem_cons h]
  rfl
/-- A list of truth values in a block of its own, which lies from lo to before hi. -/
structure OwnZ (E : TypeId) (w : World) (lo hi : Nat) (v : Value) (xs : List Bool) : Prop where
  own : OwnB E w lo v xs
  lt : ∀ g, v.ownBlock = some g → g < hi
section
variable {E Ei : TypeId} {w w' : World} {lo hi lo' hi' : Nat} {u v : Value} {xs ys : List Bool} {zs : List Int}
theorem OwnZ.of (h : OwnB E w lo v xs) : OwnZ E w lo w.heap.size v xs := ⟨h, fun g e => (h.lt g e).2⟩
theorem OwnZ.below (h : OwnZ E w lo hi v xs) (hb : Below w.heap.size w w') : OwnZ E w' lo hi v xs := ⟨h.own.below hb, h.lt⟩
theorem OwnZ.btw (h : OwnZ E w lo hi v xs) (hb : Btw lo' hi' w w') (hd : hi ≤ lo' ∨ hi' ≤ lo) : OwnZ E w' lo hi v xs :=
  ⟨row_same h.own fun g e => hb.block g (h.own.lt g e).2 (by have := h.own.lt g e; have := h.lt g e; omega), h.lt⟩
theorem OwnZ.mark (h : OwnZ E w lo hi v xs) (ho : OwnB E w' lo v ys) : OwnZ E w' lo hi v ys := ⟨ho, h.lt⟩
theorem OwnZ.marks (h : OwnZ E w lo hi v xs) (hg : w.grownBy w' v.ownBlock) : Btw lo hi w w' := .grown hg fun g e => ⟨(h.own.lt g e).1, h.lt g e⟩
theorem OwnZ.at {a : Option Addr} {n c : Nat} (h : OwnZ E w lo hi (.slice a n c) xs) : BlsAt w a xs := h.own.at
theorem OwnZ.bls (h : OwnZ E w lo hi v xs) : ∃ a cap, v = .slice a xs.length cap ∧ xs.length ≤ maxLen := h.own.slice
/-- The numbers beside it are written over. -/
theorem OwnZ.beside (h : OwnZ E w lo hi v xs) (ho : OwnI Ei w lo' hi' u zs) (hE : E ≠ Ei) (hg : w.grownBy w' u.ownBlock) : OwnZ E w' lo hi v xs := ⟨h.own.kept hg (h.own.apart ho.own hE), h.lt⟩
/-- The truth values beside them are written over. -/
theorem OwnI.besideZ (h : OwnI Ei w lo' hi' u zs) (ho : OwnZ E w lo hi v xs) (hE : E ≠ Ei) (hg : w.grownBy w' v.ownBlock) : OwnI Ei w' lo' hi' u zs := ⟨h.own.kept hg (by
  rcases ho.own.apart h.own hE with e | e
  · rw [e]; cases u.ownBlock <;> simp
  · exact .inr (Ne.symm e)), h.lt⟩
end

theorem laws_eqBoolS (a a' : Option Addr) (cap cap' : Nat) (xs : List Bool) (w : World) (hbig : xs.length ≤ 1048577) (hc : BlsAt w a xs) (hc' : BlsAt w a' xs) :
    Calls Try.prog 21 #[.slice a xs.length cap, .slice a' xs.length cap'] w fun e w' => e = .returned (.bool true) ∧ Drawn w w' := by
  rcases Nat.eq_zero_or_pos xs.length with h0 | h0
  · obtain rfl : xs = [] := List.eq_nil_of_length_eq_zero h0
    go_enter Try.func21, Try.ntmps21
    go_wp2
    go_loopw [5] (fun i wr => i = .int .i64 0 ∧ Drawn w wr) (fun _ _ => 0)
    case atStart => exact ⟨rfl, Drawn.refl _⟩
    case round =>
      obtain ⟨rfl, hwr⟩ := hrel
      go_wp2
      go_ret
      exact ⟨rfl, hwr⟩
  obtain ⟨b, off, rfl, hb, hc⟩ := hc.cell h0
  obtain ⟨b', off', rfl, hb', hc'⟩ := hc'.cell h0
  have Hc := Lib.hid hc; have Hc' := Lib.hid hc'; clear hc hc'
  go_enter Try.func21, Try.ntmps21
  go_wp2
  go_loopw [5] (fun i wr => ∃ k : Nat, k ≤ xs.length ∧ i = .int .i64 k ∧ Drawn w wr) (fun i _ => xs.length - (intOf i).toNat)
  case atStart => exact ⟨0, by omega, rfl, Drawn.refl _⟩
  case round =>
    obtain ⟨k, hk, rfl, hwr⟩ := hrel
    by_cases hlt : k < xs.length
    · have hcell := (hwr.cell ⟨b, off + k, none⟩).trans (Hc.out k hlt)
      have hcell' := (hwr.cell ⟨b', off' + k, none⟩).trans (Hc'.out k hlt)
      generalize xs[k] = z at *
      have hz : (z != z) = false := by simp
      go_wp2
      go_quiet (fail)
      go_wp2
      go_roundw
      case rel => exact ⟨k + 1, by omega, by go_num, hwr.drewN _⟩
      case measure => simp [intOf]; omega
    · go_wp2
      go_ret
      exact ⟨rfl, hwr⟩

theorem laws_markBoolS (v : Value) (xs : List Bool) (k B : Nat) (w : World) (hlen : xs.length ≤ 1048577) (hk : k ≤ 1099511627776) (hown : OwnB 4 w B v xs) :
    Calls Try.prog 25 #[v, .int .i64 k] w fun e w' => e = .returned (.int .i64 ((k + xs.length : Nat) : Int)) ∧ OwnB 4 w' B v (markZ k xs.length) ∧ w.grownBy w' v.ownBlock := by
  obtain ⟨a, cap, rfl, _⟩ := hown.slice
  have Hown := Lib.hid hown; clear hown
  go_enter Try.func25, Try.ntmps25
  go_wp2
  go_loopw [1, 5] (fun vk vi wr => ∃ i : Nat, i ≤ xs.length ∧ vk = .int .i64 ((k + i : Nat) : Int) ∧ vi = .int .i64 i ∧ OwnB 4 wr B (.slice a xs.length cap) (markY xs k i) ∧ w.grownBy wr (Value.slice a xs.length cap).ownBlock) (fun _ vi _ => xs.length - (intOf vi).toNat)
  case atStart => exact ⟨0, by omega, rfl, rfl, by rw [markY_zero]; exact Hown.out, World.grownBy.refl _ _⟩
  case round =>
    obtain ⟨i, hi, rfl, rfl, how, hgr⟩ := hrel
    have hul := markY_len (k := k) hi
    by_cases hlt : (i : Int) < xs.length
    · obtain ⟨g, cap', hv', hgB, hgs, hcap, hcells, hfz⟩ := how.row (by omega)
      simp only [Value.slice.injEq] at hv'
      obtain ⟨rfl, hl', rfl⟩ := hv'
      have hix : i < xs.length := by omega
      have hold := hcells i (by omega)
      have hfr := hfz i
      have hst := Lib.hid (how.store (by omega) i (mkB (k + i)))
      have Hgr := Lib.hid hgr; clear hgr hcells hfz how hl'
      obtain ⟨z, hz⟩ : ∃ z, z = mkB (k + i) := ⟨_, rfl⟩
      rw [← hz] at hst
      have Hz := Lib.hid hz
      obtain ⟨r, hr⟩ : ∃ r, ((k : Int) + (i : Int)).tmod 3 = r := ⟨_, rfl⟩
      have hb : (r == 0) = z := by rw [hz, ← hr]; unfold mkB; rw [Int.natCast_add]
      clear hz
      go_wp2
      go_roundw
      case rel =>
        obtain ⟨hs1, hs2⟩ := hst.out
        rw [Hz.out, markY_step hix] at hs1
        rw [Hz.out] at hs2
        first
        | exact ⟨i + 1, by omega, ret_num (by omega), ret_num (by omega), by rw [Hz.out]; exact hs1, grownBy_trans Hgr.out (by rw [Hz.out]; exact hs2)⟩
        | exact ⟨i + 1, by omega, ret_num (by omega), ret_num (by omega), hs1, grownBy_trans Hgr.out hs2⟩
      case measure => simp [intOf]; omega
    · have hxi : i = xs.length := by omega
      subst hxi
      have How := Lib.hid how; clear how
      have Hgr := Lib.hid hgr; clear hgr
      go_wp2
      go_ret
      exact ⟨rfl, by rw [← markY_all]; exact How.out, Hgr.out⟩

theorem laws_heldBoolS (a : Option Addr) (cap k n : Nat) (w : World) (hlen : n ≤ 1048577) (hk : k ≤ 1099511627776) (hc : BlsAt w a (markZ k n)) :
    Calls Try.prog 27 #[.slice a n cap, .int .i64 k] w fun e w' => e = .returned (.int .i64 ((k + n : Nat) : Int)) ∧ Drawn w w' := by
  have hl := markZ_len k n
  have hg := markZ_get k n
  generalize markZ k n = xs at hc hl hg
  subst hl
  rcases Nat.eq_zero_or_pos xs.length with h0 | h0
  · obtain rfl : xs = [] := List.eq_nil_of_length_eq_zero h0
    go_enter Try.func27, Try.ntmps27
    go_wp2
    go_loopw [1, 5] (fun vk vi wr => vk = .int .i64 (k : Int) ∧ vi = .int .i64 0 ∧ Drawn w wr) (fun _ _ _ => 0)
    case atStart => exact ⟨rfl, rfl, Drawn.refl _⟩
    case round =>
      obtain ⟨rfl, rfl, hwr⟩ := hrel
      go_wp2
      go_ret
      exact ⟨by simp, hwr⟩
  obtain ⟨b, off, rfl, hb, hc⟩ := hc.cell h0
  go_enter Try.func27, Try.ntmps27
  go_wp2
  go_loopw [1, 5] (fun vk vi wr => ∃ i : Nat, i ≤ xs.length ∧ vk = .int .i64 ((k + i : Nat) : Int) ∧ vi = .int .i64 i ∧ Drawn w wr) (fun _ vi _ => xs.length - (intOf vi).toNat)
  case atStart => exact ⟨0, by omega, rfl, rfl, Drawn.refl _⟩
  case round =>
    obtain ⟨i, hi, rfl, rfl, hwr⟩ := hrel
    by_cases hlt : i < xs.length
    · have hcell := (hwr.cell ⟨b, off + i, none⟩).trans (hc i hlt)
      rw [hg i hlt] at hcell
      have Hc := Lib.hid hc; clear hc
      have Hg := Lib.hid hg; clear hg
      obtain ⟨r, hr⟩ : ∃ r, ((k : Int) + (i : Int)).tmod 3 = r := ⟨_, rfl⟩
      have hb : mkB (k + i) = (r == 0) := by rw [← hr]; unfold mkB; rw [Int.natCast_add]
      rw [hb] at hcell
      have hn : ((r == 0) != (r == 0)) = false := by simp
      clear hb
      go_wp2
      go_roundw
      case rel => exact ⟨i + 1, by omega, ret_num (by omega), ret_num (by omega), hwr⟩
      case measure => simp [intOf]; omega
    · go_wp2
      go_ret
      exact ⟨ret_int (by omega), hwr⟩

end Go.Proofs.Ytfnhafgjdnlhiaa
