/- Texts that the laws of this folder share, one behind another; no conditions. -/
import Derived.Test.YtadgdjjibmofpabRows
import Derived.Test.YtadgdjjibmofpabBu1
import Derived.Deep.QuietTactic
import Derived.BigQuiet

/- The reference's execution of a transaction on a valid ledger, by a walk of its text; condition: the ledger is valid. -/
namespace Go.Proofs.Ytadgdjjibmofpab
open Go.RowKit

/-- What executing a transaction answers. -/
def ApP (E : TypeId) (w : World) (l : List Int) (n : Int) (x : Tx) (e : Ending) (w' : World) : Prop := ∃ v, e = .returned (.tuple #[.agg #[v, .int .i64 (apF l n x)], .bool (okT l x)]) ∧ Own E w' w.heap.size v (apL l x) ∧ Below w.heap.size w w'
/-- While it is executed: l the argument, t the transaction, the answer, out with its own list c and fees m. -/
structure Apw (TL TX E : TypeId) (w : World) (a : Option Addr) (cap : Nat) (l : List Int) (n : Int) (x : Tx) (O g vc : Nat) (c : List Int) (m : Int) (W : World) : Prop where
  s1 : Str W w.heap.size TL #[.slice a l.length cap, .int .i64 n]
  s2 : Str W (w.heap.size + 1) TX #[.int .i64 x.f, .int .i64 x.t, .int .i64 x.s, .int .i64 x.e]
  s3 : Str W (w.heap.size + 2) TL #[.slice none 0 0, .int .i64 0]
  s4 : Str W O TL #[.slice (some ⟨g, 0, none⟩) l.length vc, .int .i64 m]
  own : Own E W (w.heap.size + 3) (.slice (some ⟨g, 0, none⟩) l.length vc) c
  len : c.length = l.length
  bel : Below w.heap.size w W
  dO : w.heap.size + 3 ≤ O
  dg : w.heap.size + 3 ≤ g ∧ g ≠ O
section
variable {TL TX E : TypeId} {w : World} {a : Option Addr} {cap : Nat} {l : List Int} {n : Int} {x : Tx} {O g vc : Nat} {c : List Int} {m : Int} {W W' : World}
theorem Apw.drew (h : Apw TL TX E w a cap l n x O g vc c m W) : Apw TL TX E w a cap l n x O g vc c m W.drew := ⟨h.s1, h.s2, h.s3, h.s4, h.own.drewN 1, h.len, h.bel.drew, h.dO, h.dg⟩
theorem Apw.below (h : Apw TL TX E w a cap l n x O g vc c m W) (hb : Below W.heap.size W W') : Apw TL TX E w a cap l n x O g vc c m W' :=
  ⟨(hb.block _ h.s1.lt).trans h.s1, (hb.block _ h.s2.lt).trans h.s2, (hb.block _ h.s3.lt).trans h.s3, (hb.block _ h.s4.lt).trans h.s4, h.own.below hb, h.len, below_step h.bel h.bel.size hb, h.dO, h.dg⟩
theorem Apw.store (h : Apw TL TX E w a cap l n x O g vc c m W) (k : Nat) (z : Int) : Apw TL TX E w a cap l n x O g vc (c.set k z) m (W.setCell ⟨g, k, none⟩ (.int .i64 z)) := by
  obtain ⟨d1, d2⟩ := h.dg
  have d3 := h.dO
  exact ⟨h.s1.other (by omega) _ _, h.s2.other (by omega) _ _, h.s3.other (by omega) _ _, h.s4.other (by omega) _ _, (h.own.store h.len.symm k z).1, by rw [List.length_set]; exact h.len, h.bel.setCell (p := ⟨g, k, none⟩) (by simp only; omega) _, h.dO, h.dg⟩
theorem Apw.fee (h : Apw TL TX E w a cap l n x O g vc c m W) (z : Int) : Apw TL TX E w a cap l n x O g vc c z (W.setCell ⟨O, 1, none⟩ (.int .i64 z)) := by
  obtain ⟨d1, d2⟩ := h.dg
  have d3 := h.dO
  exact ⟨h.s1.other (by omega) _ _, h.s2.other (by omega) _ _, h.s3.other (by omega) _ _, h.s4.set 1 _, h.own.set_other (by simp [Value.ownBlock]; exact d2) _ _, h.len, h.bel.setCell (p := ⟨O, 1, none⟩) (by simp only; omega) _, h.dO, h.dg⟩
theorem Apw.frozen (h : Apw TL TX E w a cap l n x O g vc c m W) (hl : 0 < l.length) (j : Nat) : W.frozen? ⟨g, j, none⟩ = false := by
  obtain ⟨g', cap', e, _, _, _, _, hf⟩ := h.own.row (by rw [h.len]; exact hl)
  simp only [Value.slice.injEq, Option.some.injEq, Addr.mk.injEq, and_true] at e
  rw [e.1]; exact hf j
theorem Apw.at (h : Apw TL TX E w a cap l n x O g vc c m W) (hl : 0 < l.length) {j : Nat} (hj : j < c.length) : W.cell? ⟨g, j, none⟩ = some (.int .i64 c[j]) := by
  obtain ⟨g', cap', e, _, _, _, hc, _⟩ := h.own.row (by rw [h.len]; exact hl)
  simp only [Value.slice.injEq, Option.some.injEq, Addr.mk.injEq, and_true] at e
  rw [e.1]; exact hc j hj
/-- The answer is set. -/
theorem Apw.fin (h : Apw TL TX E w a cap l n x O g vc c m W) : Str ((W.setCell ⟨w.heap.size + 2, 0, none⟩ (.slice (some ⟨g, 0, none⟩) l.length vc)).setCell ⟨w.heap.size + 2, 1, none⟩ (.int .i64 m)) (w.heap.size + 2) TL #[.slice (some ⟨g, 0, none⟩) l.length vc, .int .i64 m] ∧
    Own E ((W.setCell ⟨w.heap.size + 2, 0, none⟩ (.slice (some ⟨g, 0, none⟩) l.length vc)).setCell ⟨w.heap.size + 2, 1, none⟩ (.int .i64 m)) w.heap.size (.slice (some ⟨g, 0, none⟩) l.length vc) c ∧
    Below w.heap.size w ((W.setCell ⟨w.heap.size + 2, 0, none⟩ (.slice (some ⟨g, 0, none⟩) l.length vc)).setCell ⟨w.heap.size + 2, 1, none⟩ (.int .i64 m)) := by
  obtain ⟨d1, d2⟩ := h.dg
  have hne : (Value.slice (some ⟨g, 0, none⟩) l.length vc).ownBlock ≠ some (w.heap.size + 2) := by simp [Value.ownBlock]; omega
  exact ⟨(h.s3.set 0 _).set 1 _, ((h.own.set_other hne _ _).set_other hne _ _).mono (by omega), (h.bel.setCell (p := ⟨w.heap.size + 2, 0, none⟩) (by simp only; omega) _).setCell (p := ⟨w.heap.size + 2, 1, none⟩) (by simp only; omega) _⟩
end
set_option maxHeartbeats 4000000 in
theorem spec_l31Apply (a : Option Addr) (cap : Nat) (l : List Int) (n : Int) (x : Tx) (w : World) (hv : ldB l n = true) (hi : IntsAt w a l) (hsrc : SrcAt w a cap l) :
    Calls Try.prog 40 #[.agg #[.slice a l.length cap, .int .i64 n], agT x] w (ApP 3 w l n x) := by
  have hpost : ∀ (e : Ending) (w' : World) (v : Value) (c : List Int) (m : Int) (b : Bool), e = .returned (.tuple #[.agg #[v, .int .i64 m], .bool b]) → Own 3 w' w.heap.size v c → Below w.heap.size w w' → c = apL l x → m = apF l n x → b = okT l x → ApP 3 w l n x e w' := by
    rintro e w' v c m b rfl ho hb rfl rfl rfl
    exact ⟨v, rfl, ho, hb⟩
  have Hpost := Lib.hid hpost; clear hpost
  generalize ApP 3 w l n x = POST at *
  obtain ⟨hv1, hv2, hv3, hv4⟩ := ldB_iff.1 hv
  have h6 : 0 < l.length := by omega
  obtain ⟨b, off, rfl, hbw, hc⟩ : ∃ b off, a = some ⟨b, off, none⟩ ∧ b < w.heap.size ∧ ∀ j (h : j < l.length), w.cell? ⟨b, off + j, none⟩ = some (.int .i64 l[j]) := hi.cell h6
  have hb0 : Below w.heap.size w (((w.alloc (.cells #[.slice (some ⟨b, off, none⟩) l.length cap, .int .i64 n] 33)).alloc (.cells #[.int .i64 x.f, .int .i64 x.t, .int .i64 x.s, .int .i64 x.e] 25)).alloc (.cells #[.slice none 0 0, .int .i64 0] 33)) := (((Below.refl _ _).alloc (Nat.le_refl _) _).alloc (by simp only [World.size_alloc]; omega) _).alloc (by simp only [World.size_alloc]; omega) _
  have s1 := ((Str.new w 33 #[.slice (some ⟨b, off, none⟩) l.length cap, .int .i64 n]).alloc (.cells #[.int .i64 x.f, .int .i64 x.t, .int .i64 x.s, .int .i64 x.e] 25)).alloc (.cells #[.slice none 0 0, .int .i64 0] 33)
  have s2 := (Str.new (w.alloc (.cells #[.slice (some ⟨b, off, none⟩) l.length cap, .int .i64 n] 33)) 25 #[.int .i64 x.f, .int .i64 x.t, .int .i64 x.s, .int .i64 x.e]).alloc (.cells #[.slice none 0 0, .int .i64 0] 33)
  have s3 := Str.new ((w.alloc (.cells #[.slice (some ⟨b, off, none⟩) l.length cap, .int .i64 n] 33)).alloc (.cells #[.int .i64 x.f, .int .i64 x.t, .int .i64 x.s, .int .i64 x.e] 25)) 33 #[.slice none 0 0, .int .i64 0]
  simp only [World.size_alloc] at s2 s3
  have hi0 := hi.below hb0
  have hsrc0 := hsrc.lies hi hb0
  have hz : (((w.alloc (.cells #[.slice (some ⟨b, off, none⟩) l.length cap, .int .i64 n] 33)).alloc (.cells #[.int .i64 x.f, .int .i64 x.t, .int .i64 x.s, .int .i64 x.e] 25)).alloc (.cells #[.slice none 0 0, .int .i64 0] 33)).heap.size = w.heap.size + 3 := by simp
  have S1 := Lib.hid s1; have S2 := Lib.hid s2; have S3 := Lib.hid s3; have Hi := Lib.hid hi0; have Hsrc := Lib.hid hsrc0; have Hb := Lib.hid hb0; have Hc := Lib.hid hc; have Hv1 := Lib.hid hv1; have Hv2 := Lib.hid hv2; have Hv := Lib.hid hv; clear s1 s2 s3 hi0 hsrc0 hb0 hi hsrc hc hv1 hv2 hv
  have hv6 : l.length ≤ 1048576 := by have := Hv2.out; omega
  unfold agT
  go_enter Try.func40, Try.ntmps40
  have k0 := S1.out.cell 0 (v := .slice (some ⟨b, off, none⟩) l.length cap) rfl
  have k1 := S1.out.cell 1 (v := .int .i64 n) rfl
  go_wp2_with fail
  generalize (((w.alloc (.cells #[.slice (some ⟨b, off, none⟩) l.length cap, .int .i64 n] 33)).alloc (.cells #[.int .i64 x.f, .int .i64 x.t, .int .i64 x.s, .int .i64 x.e] 25)).alloc (.cells #[.slice none 0 0, .int .i64 0] 33)) = W0 at *
  clear k0 k1
  refine (spec_l31Copy (some ⟨b, off, none⟩) cap l n W0 hv6 Hi.out Hsrc.out).mono ?_
  rintro e w1 ⟨v, rfl, ho, hb1⟩
  obtain ⟨g, vc, rfl, hg1, hg2, hvc, _, _⟩ := ho.row h6
  have HA := Lib.hid (show Apw 33 25 3 w (some ⟨b, off, none⟩) cap l n x w1.heap.size g vc l n (w1.alloc (.cells #[.slice (some ⟨g, 0, none⟩) l.length vc, .int .i64 n] 33)) from ⟨Str.alloc ((hb1.block _ S1.out.lt).trans S1.out) _, Str.alloc ((hb1.block _ S2.out.lt).trans S2.out) _, Str.alloc ((hb1.block _ S3.out.lt).trans S3.out) _, Str.new _ _ _, (ho.mono (by omega)).alloc _, rfl, below_step (below_step Hb.out Hb.out.size hb1) (by have := Hb.out.size; have := hb1.size; omega) ((Below.refl _ _).alloc (Nat.le_refl _) _), by have := hb1.size; omega, by omega, by omega⟩)
  obtain ⟨O, hO⟩ : ∃ O, O = w1.heap.size := ⟨_, rfl⟩
  rw [← hO] at HA
  have hzO : (w1.alloc (.cells #[.slice (some ⟨g, 0, none⟩) l.length vc, .int .i64 n] 33)).heap.size = O + 1 := by rw [hO]; simp
  clear ho hb1 S1 S2 S3 Hi Hsrc Hb
  have HV := Lib.hid (fun W => spec_TxnValid x W)
  unfold agT at HV
  have x0 := HA.out.s2.cell 0 (v := .int .i64 x.f) rfl
  have x1 := HA.out.s2.cell 1 (v := .int .i64 x.t) rfl
  have x2 := HA.out.s2.cell 2 (v := .int .i64 x.s) rfl
  have x3 := HA.out.s2.cell 3 (v := .int .i64 x.e) rfl
  go_wp2_with fail
  generalize (w1.alloc (.cells #[.slice (some ⟨g, 0, none⟩) l.length vc, .int .i64 n] 33)) = W4 at *
  try rw [← hO]
  clear hO
  clear x0 x1 x2 x3
  have hbt : txB x = true ∨ txB x = false := by cases txB x <;> simp
  rcases hbt with hbt | hbt
  case inr =>
    have hV := HV.out
    rw [hbt] at hV
    have HV := Lib.hid hV; clear hV
    have Hbt := Lib.hid hbt; clear hbt
    refine wp_region_held_drew (S := fun w' => w'.cell? ⟨w.heap.size + 1, 0, none⟩ = some (.int .i64 x.f) ∧ w'.cell? ⟨w.heap.size + 1, 1, none⟩ = some (.int .i64 x.t) ∧ w'.cell? ⟨w.heap.size + 1, 2, none⟩ = some (.int .i64 x.s) ∧ w'.cell? ⟨w.heap.size + 1, 3, none⟩ = some (.int .i64 x.e)) (by kernel_rfl) ⟨HA.out.s2.cell 0 (v := .int .i64 x.f) rfl, HA.out.s2.cell 1 (v := .int .i64 x.t) rfl, HA.out.s2.cell 2 (v := .int .i64 x.s) rfl, HA.out.s2.cell 3 (v := .int .i64 x.e) rfl⟩ (fun hH => ?_)
    have HA := Lib.hid HA.out.drew
    generalize W4.drew = wd at *
    refine takeH 0 (v := ?vla1) rfl (by kernel_rfl) (by kernel_rfl) (by kernel_rfl) (fun _ _ _ h => h) hH rfl ?yla1 ?rla1
    case yla1 => intro W hSw; go_simp; try with_reducible rfl
    try simp only [Act.put, List.setIfInBounds_toArray, List.set_cons_zero, List.set_cons_succ]
    refine callH 1 rfl (by kernel_rfl) rfl (fun K hK => ?_)
    go_simp
    refine (HV.out _).mono ?_
    rintro e w5 ⟨rfl, hb⟩
    have HA := Lib.hid (HA.out.below hb)
    clear hb
    refine hK.out _ _ ⟨HA.out.s2.cell 0 (v := .int .i64 x.f) rfl, HA.out.s2.cell 1 (v := .int .i64 x.t) rfl, HA.out.s2.cell 2 (v := .int .i64 x.s) rfl, HA.out.s2.cell 3 (v := .int .i64 x.e) rfl⟩ (fun hH => ?_)
    clear hK K
    try simp only [Act.put, List.setIfInBounds_toArray, List.set_cons_zero, List.set_cons_succ]
    refine takeH 2 (v := ?vla2) rfl (by kernel_rfl) (by kernel_rfl) (by kernel_rfl) (fun _ _ _ h => h) hH rfl ?yla2 ?rla2
    case yla2 => intro W hSw; go_simp; try with_reducible rfl
    try simp only [Act.put, List.setIfInBounds_toArray, List.set_cons_zero, List.set_cons_succ]
    refine takeH 3 (v := ?vla3) rfl (by kernel_rfl) (by kernel_rfl) (by kernel_rfl) (fun _ _ _ h => h) hH rfl ?yla3 ?rla3
    case yla3 => intro W hSw; go_simp; try with_reducible rfl
    try simp only [Act.put, List.setIfInBounds_toArray, List.set_cons_zero, List.set_cons_succ]
    refine skipH 4 rfl (by kernel_rfl) (by kernel_rfl) (by kernel_rfl) (fun _ _ _ h => h) hH rfl ?_
    try simp only [Act.put, List.setIfInBounds_toArray, List.set_cons_zero, List.set_cons_succ]
    refine skipH 5 rfl (by kernel_rfl) (by kernel_rfl) (by kernel_rfl) (fun _ _ _ h => h) hH rfl ?_
    try simp only [Act.put, List.setIfInBounds_toArray, List.set_cons_zero, List.set_cons_succ]
    refine skipH 6 rfl (by kernel_rfl) (by kernel_rfl) (by kernel_rfl) (fun _ _ _ h => h) hH rfl ?_
    try simp only [Act.put, List.setIfInBounds_toArray, List.set_cons_zero, List.set_cons_succ]
    refine skipH 7 rfl (by kernel_rfl) (by kernel_rfl) (by kernel_rfl) (fun _ _ _ h => h) hH rfl ?_
    try simp only [Act.put, List.setIfInBounds_toArray, List.set_cons_zero, List.set_cons_succ]
    refine skipH 8 rfl (by kernel_rfl) (by kernel_rfl) (by kernel_rfl) (fun _ _ _ h => h) hH rfl ?_
    try simp only [Act.put, List.setIfInBounds_toArray, List.set_cons_zero, List.set_cons_succ]
    refine skipH 9 rfl (by kernel_rfl) (by kernel_rfl) (by kernel_rfl) (fun _ _ _ h => h) hH rfl ?_
    try simp only [Act.put, List.setIfInBounds_toArray, List.set_cons_zero, List.set_cons_succ]
    refine skipH 10 rfl (by kernel_rfl) (by kernel_rfl) (by kernel_rfl) (fun _ _ _ h => h) hH rfl ?_
    try simp only [Act.put, List.setIfInBounds_toArray, List.set_cons_zero, List.set_cons_succ]
    refine skipH 11 rfl (by kernel_rfl) (by kernel_rfl) (by kernel_rfl) (fun _ _ _ h => h) hH rfl ?_
    try simp only [Act.put, List.setIfInBounds_toArray, List.set_cons_zero, List.set_cons_succ]
    refine skipH 12 rfl (by kernel_rfl) (by kernel_rfl) (by kernel_rfl) (fun _ _ _ h => h) hH rfl ?_
    try simp only [Act.put, List.setIfInBounds_toArray, List.set_cons_zero, List.set_cons_succ]
    refine skipH 13 rfl (by kernel_rfl) (by kernel_rfl) (by kernel_rfl) (fun _ _ _ h => h) hH rfl ?_
    try simp only [Act.put, List.setIfInBounds_toArray, List.set_cons_zero, List.set_cons_succ]
    refine skipH 14 rfl (by kernel_rfl) (by kernel_rfl) (by kernel_rfl) (fun _ _ _ h => h) hH rfl ?_
    try simp only [Act.put, List.setIfInBounds_toArray, List.set_cons_zero, List.set_cons_succ]
    refine skipH 15 rfl (by kernel_rfl) (by kernel_rfl) (by kernel_rfl) (fun _ _ _ h => h) hH rfl ?_
    try simp only [Act.put, List.setIfInBounds_toArray, List.set_cons_zero, List.set_cons_succ]
    refine takeH 16 (v := ?vla4) rfl (by kernel_rfl) (by kernel_rfl) (by kernel_rfl) (fun _ _ _ h => h) hH rfl ?yla4 ?rla4
    case yla4 => intro W hSw; go_simp; try with_reducible rfl
    try simp only [Act.put, List.setIfInBounds_toArray, List.set_cons_zero, List.set_cons_succ]
    refine takeH 17 (v := ?vla5) rfl (by kernel_rfl) (by kernel_rfl) (by kernel_rfl) (fun _ _ _ h => h) hH rfl ?yla5 ?rla5
    case yla5 => intro W hSw; go_simp; try with_reducible rfl
    try simp only [Act.put, List.setIfInBounds_toArray, List.set_cons_zero, List.set_cons_succ]
    refine skipH 18 rfl (by kernel_rfl) (by kernel_rfl) (by kernel_rfl) (fun _ _ _ h => h) hH rfl ?_
    try simp only [Act.put, List.setIfInBounds_toArray, List.set_cons_zero, List.set_cons_succ]
    refine skipH 19 rfl (by kernel_rfl) (by kernel_rfl) (by kernel_rfl) (fun _ _ _ h => h) hH rfl ?_
    try simp only [Act.put, List.setIfInBounds_toArray, List.set_cons_zero, List.set_cons_succ]
    refine skipH 20 rfl (by kernel_rfl) (by kernel_rfl) (by kernel_rfl) (fun _ _ _ h => h) hH rfl ?_
    try simp only [Act.put, List.setIfInBounds_toArray, List.set_cons_zero, List.set_cons_succ]
    refine skipH 21 rfl (by kernel_rfl) (by kernel_rfl) (by kernel_rfl) (fun _ _ _ h => h) hH rfl ?_
    try simp only [Act.put, List.setIfInBounds_toArray, List.set_cons_zero, List.set_cons_succ]
    refine skipH 22 rfl (by kernel_rfl) (by kernel_rfl) (by kernel_rfl) (fun _ _ _ h => h) hH rfl ?_
    try simp only [Act.put, List.setIfInBounds_toArray, List.set_cons_zero, List.set_cons_succ]
    refine skipH 23 rfl (by kernel_rfl) (by kernel_rfl) (by kernel_rfl) (fun _ _ _ h => h) hH rfl ?_
    try simp only [Act.put, List.setIfInBounds_toArray, List.set_cons_zero, List.set_cons_succ]
    refine skipH 24 rfl (by kernel_rfl) (by kernel_rfl) (by kernel_rfl) (fun _ _ _ h => h) hH rfl ?_
    try simp only [Act.put, List.setIfInBounds_toArray, List.set_cons_zero, List.set_cons_succ]
    refine skipH 25 rfl (by kernel_rfl) (by kernel_rfl) (by kernel_rfl) (fun _ _ _ h => h) hH rfl ?_
    try simp only [Act.put, List.setIfInBounds_toArray, List.set_cons_zero, List.set_cons_succ]
    refine skipH 26 rfl (by kernel_rfl) (by kernel_rfl) (by kernel_rfl) (fun _ _ _ h => h) hH rfl ?_
    try simp only [Act.put, List.setIfInBounds_toArray, List.set_cons_zero, List.set_cons_succ]
    refine skipH 27 rfl (by kernel_rfl) (by kernel_rfl) (by kernel_rfl) (fun _ _ _ h => h) hH rfl ?_
    try simp only [Act.put, List.setIfInBounds_toArray, List.set_cons_zero, List.set_cons_succ]
    refine takeH 28 (v := ?vla6) rfl (by kernel_rfl) (by kernel_rfl) (by kernel_rfl) (fun _ _ _ h => h) hH rfl ?yla6 ?rla6
    case yla6 => intro W hSw; go_simp; try with_reducible rfl
    try simp only [Act.put, List.setIfInBounds_toArray, List.set_cons_zero, List.set_cons_succ]
    refine wpAnyH_done (by kernel_rfl) ?_ _
    try simp only [Act.put]
    clear hH
    have hok : okT l x = false := by unfold okT; rw [Hbt.out]; rfl
    have Hok := Lib.hid hok; clear hok
    have sF := HA.out.fin
    obtain ⟨sf, oF, bF⟩ := sF
    have y0 := HA.out.s3.frozen 0
    have y1 := HA.out.s3.frozen 1
    have q0 := HA.out.s3.cell 0 (v := .slice none 0 0) rfl
    have q1 := HA.out.s3.cell 1 (v := .int .i64 0) rfl
    have o0 := HA.out.s4.cell 0 (v := .slice (some ⟨g, 0, none⟩) l.length vc) rfl
    have o1 := HA.out.s4.cell 1 (v := .int .i64 (n)) rfl
    have e0 := sf.cell 0 (v := .slice (some ⟨g, 0, none⟩) l.length vc) rfl
    have e1 := sf.cell 1 (v := .int .i64 (n)) rfl
    have OF := Lib.hid oF; have BF := Lib.hid bF; clear oF bF sf
    go_wp2
    skip
    refine bodyPost_ret (v := .tuple #[.agg #[.slice (some ⟨g, 0, none⟩) l.length vc, .int .i64 (n)], .bool false]) (by simp [results, Try.f40, go_sem, e0, e1]) rfl ?_
    exact Hpost.out _ _ _ _ _ _ rfl OF.out BF.out (ap_no (n := n) Hok.out).1.symm (ap_no (l := l) Hok.out).2.symm Hok.out.symm
  have hV := HV.out
  rw [hbt] at hV
  have HV := Lib.hid hV; clear hV
  obtain ⟨hx1, hx2, hx3, hx4, hx5⟩ := txB_iff.1 hbt
  obtain ⟨f, t, s, ee⟩ := x
  dsimp only at *
  obtain ⟨i, rfl⟩ : ∃ i : Nat, f = i := ⟨f.toNat, by omega⟩
  obtain ⟨j, rfl⟩ : ∃ j : Nat, t = j := ⟨t.toNat, by omega⟩
  have hl6 := Hv2.out
  have hil : i < l.length := by omega
  have hjl : j < l.length := by omega
  have hij : i ≠ j := by omega
  clear hl6
  obtain ⟨bi, hbi⟩ : ∃ z, z = l[i] := ⟨_, rfl⟩
  obtain ⟨bj, hbj⟩ : ∃ z, z = l[j] := ⟨_, rfl⟩
  have hr1 := Hv1.out _ (List.getElem_mem hil)
  have hr2 := Hv1.out _ (List.getElem_mem hjl)
  rw [← hbi] at hr1
  rw [← hbj] at hr2
  have HCI := Lib.hid (show ∀ W, Below w.heap.size w W → W.cell? ⟨b, off + i, none⟩ = some (.int .i64 bi) from fun W hb => by rw [hbi]; exact (hb.cell (p := ⟨b, off + i, none⟩) hbw).trans (Hc.out i hil))
  have HCJ := Lib.hid (show ∀ W, Below w.heap.size w W → W.cell? ⟨b, off + j, none⟩ = some (.int .i64 bj) from fun W hb => by rw [hbj]; exact (hb.cell (p := ⟨b, off + j, none⟩) hbw).trans (Hc.out j hjl))
  have HX := Lib.hid (show okT l ⟨i, j, s, ee⟩ = (decide (s + ee ≤ bi) && decide (bj + s ≤ 999)) from by unfold okT; rw [hbt, bal_at (by simpa using hil), bal_at (by simpa using hjl), hbi, hbj]; rfl)
  have HY := Lib.hid (show okT l ⟨i, j, s, ee⟩ = true → (l.set i (bi - s - ee)).set j (bj + s) = apL l ⟨i, j, s, ee⟩ from fun h => by rw [(ap_yes (n := n) h).1, bal_at (by simpa using hil), bal_at (by simpa using hjl), hbi, hbj]; simp only [Int.toNat_natCast])
  clear hbi hbj
  have w1' : IntKind.i64.wrap (s + ee) = s + ee := IntWalk.i64_in _ (by omega)
  have w2' : IntKind.i64.wrap (bj + s) = bj + s := IntWalk.i64_in _ (by omega)
  have w3' : IntKind.i64.wrap (bi - s) = bi - s := IntWalk.i64_in _ (by omega)
  have w4' : IntKind.i64.wrap (bi - s - ee) = bi - s - ee := IntWalk.i64_in _ (by omega)
  have w5' : IntKind.i64.wrap (n + ee) = n + ee := IntWalk.i64_in _ (by omega)
  have Hbt := Lib.hid hbt; have Hx3 := Lib.hid hx3; clear hbt hx3
  refine wp_region_held_drew (S := fun w' => w'.cell? ⟨w.heap.size + 1, 0, none⟩ = some (.int .i64 i) ∧ w'.cell? ⟨w.heap.size + 1, 1, none⟩ = some (.int .i64 j) ∧ w'.cell? ⟨w.heap.size + 1, 2, none⟩ = some (.int .i64 s) ∧ w'.cell? ⟨w.heap.size + 1, 3, none⟩ = some (.int .i64 ee) ∧ w'.cell? ⟨w.heap.size, 0, none⟩ = some (.slice (some ⟨b, off, none⟩) l.length cap) ∧ w'.cell? ⟨b, off + i, none⟩ = some (.int .i64 bi) ∧ w'.cell? ⟨b, off + j, none⟩ = some (.int .i64 bj)) (by kernel_rfl) ⟨HA.out.s2.cell 0 (v := .int .i64 i) rfl, HA.out.s2.cell 1 (v := .int .i64 j) rfl, HA.out.s2.cell 2 (v := .int .i64 s) rfl, HA.out.s2.cell 3 (v := .int .i64 ee) rfl, HA.out.s1.cell 0 (v := .slice (some ⟨b, off, none⟩) l.length cap) rfl, HCI.out _ HA.out.bel.drew, HCJ.out _ HA.out.bel.drew⟩ (fun hH => ?_)
  have HA := Lib.hid HA.out.drew
  generalize W4.drew = wd at *
  refine takeH 0 (v := ?vla7) rfl (by kernel_rfl) (by kernel_rfl) (by kernel_rfl) (fun _ _ _ h => h) hH rfl ?yla7 ?rla7
  case yla7 => intro W hSw; go_simp; try with_reducible rfl
  try simp only [Act.put, List.setIfInBounds_toArray, List.set_cons_zero, List.set_cons_succ]
  refine callH 1 rfl (by kernel_rfl) rfl (fun K hK => ?_)
  go_simp
  refine (HV.out _).mono ?_
  rintro e w5 ⟨rfl, hb⟩
  have HA := Lib.hid (HA.out.below hb)
  clear hb
  refine hK.out _ _ ⟨HA.out.s2.cell 0 (v := .int .i64 i) rfl, HA.out.s2.cell 1 (v := .int .i64 j) rfl, HA.out.s2.cell 2 (v := .int .i64 s) rfl, HA.out.s2.cell 3 (v := .int .i64 ee) rfl, HA.out.s1.cell 0 (v := .slice (some ⟨b, off, none⟩) l.length cap) rfl, HCI.out _ HA.out.bel, HCJ.out _ HA.out.bel⟩ (fun hH => ?_)
  clear hK K
  try simp only [Act.put, List.setIfInBounds_toArray, List.set_cons_zero, List.set_cons_succ]
  refine takeH 2 (v := ?vla8) rfl (by kernel_rfl) (by kernel_rfl) (by kernel_rfl) (fun _ _ _ h => h) hH rfl ?yla8 ?rla8
  case yla8 => intro W hSw; go_simp; try with_reducible rfl
  try simp only [Act.put, List.setIfInBounds_toArray, List.set_cons_zero, List.set_cons_succ]
  refine takeH 3 (v := ?vla9) rfl (by kernel_rfl) (by kernel_rfl) (by kernel_rfl) (fun _ _ _ h => h) hH rfl ?yla9 ?rla9
  case yla9 => intro W hSw; go_simp; try with_reducible rfl
  try simp only [Act.put, List.setIfInBounds_toArray, List.set_cons_zero, List.set_cons_succ]
  refine takeH 4 (v := ?vla10) rfl (by kernel_rfl) (by kernel_rfl) (by kernel_rfl) (fun _ _ _ h => h) hH rfl ?yla10 ?rla10
  case yla10 => intro W hSw; go_simp; try with_reducible rfl
  try simp only [Act.put, List.setIfInBounds_toArray, List.set_cons_zero, List.set_cons_succ]
  refine takeH 5 (v := ?vla11) rfl (by kernel_rfl) (by kernel_rfl) (by kernel_rfl) (fun _ _ _ h => h) hH rfl ?yla11 ?rla11
  case yla11 => intro W hSw; go_simp; try with_reducible rfl
  try simp only [Act.put, List.setIfInBounds_toArray, List.set_cons_zero, List.set_cons_succ]
  refine takeH 6 (v := ?vla12) rfl (by kernel_rfl) (by kernel_rfl) (by kernel_rfl) (fun _ _ _ h => h) hH rfl ?yla12 ?rla12
  case yla12 => intro W hSw; go_simp; try with_reducible rfl
  try simp only [Act.put, List.setIfInBounds_toArray, List.set_cons_zero, List.set_cons_succ]
  refine takeH 7 (v := ?vla13) rfl (by kernel_rfl) (by kernel_rfl) (by kernel_rfl) (fun _ _ _ h => h) hH rfl ?yla13 ?rla13
  case yla13 => intro W hSw; go_simp; try with_reducible rfl
  try simp only [Act.put, List.setIfInBounds_toArray, List.set_cons_zero, List.set_cons_succ]
  refine takeH 8 (v := ?vla14) rfl (by kernel_rfl) (by kernel_rfl) (by kernel_rfl) (fun _ _ _ h => h) hH rfl ?yla14 ?rla14
  case yla14 => intro W hSw; go_simp; try with_reducible rfl
  try simp only [Act.put, List.setIfInBounds_toArray, List.set_cons_zero, List.set_cons_succ]
  refine takeH 9 (v := ?vla15) rfl (by kernel_rfl) (by kernel_rfl) (by kernel_rfl) (fun _ _ _ h => h) hH rfl ?yla15 ?rla15
  case yla15 => intro W hSw; go_simp; try with_reducible rfl
  try simp only [Act.put, List.setIfInBounds_toArray, List.set_cons_zero, List.set_cons_succ]
  refine takeH 10 (v := ?vla16) rfl (by kernel_rfl) (by kernel_rfl) (by kernel_rfl) (fun _ _ _ h => h) hH rfl ?yla16 ?rla16
  case yla16 => intro W hSw; go_simp; try with_reducible rfl
  try simp only [Act.put, List.setIfInBounds_toArray, List.set_cons_zero, List.set_cons_succ]
  refine takeH 11 (v := ?vla17) rfl (by kernel_rfl) (by kernel_rfl) (by kernel_rfl) (fun _ _ _ h => h) hH rfl ?yla17 ?rla17
  case yla17 => intro W hSw; go_simp; try with_reducible rfl
  try simp only [Act.put, List.setIfInBounds_toArray, List.set_cons_zero, List.set_cons_succ]
  refine takeH 12 (v := ?vla18) rfl (by kernel_rfl) (by kernel_rfl) (by kernel_rfl) (fun _ _ _ h => h) hH rfl ?yla18 ?rla18
  case yla18 => intro W hSw; go_simp; try with_reducible rfl
  try simp only [Act.put, List.setIfInBounds_toArray, List.set_cons_zero, List.set_cons_succ]
  refine takeH 13 (v := ?vla19) rfl (by kernel_rfl) (by kernel_rfl) (by kernel_rfl) (fun _ _ _ h => h) hH rfl ?yla19 ?rla19
  case yla19 => intro W hSw; go_simp; try with_reducible rfl
  try simp only [Act.put, List.setIfInBounds_toArray, List.set_cons_zero, List.set_cons_succ]
  refine takeH 14 (v := .int .i64 (s + ee)) rfl (by kernel_rfl) (by kernel_rfl) (by kernel_rfl) (fun _ _ _ h => h) hH rfl ?yla20 ?rla20
  case yla20 => intro W hSw; go_simp; first | done | (simp [w1'])
  try simp only [Act.put, List.setIfInBounds_toArray, List.set_cons_zero, List.set_cons_succ]
  refine takeH 15 (v := ?vla21) rfl (by kernel_rfl) (by kernel_rfl) (by kernel_rfl) (fun _ _ _ h => h) hH rfl ?yla21 ?rla21
  case yla21 => intro W hSw; go_simp; try with_reducible rfl
  try simp only [Act.put, List.setIfInBounds_toArray, List.set_cons_zero, List.set_cons_succ]
  by_cases hlow : bi < s + ee
  case pos =>
    have d1 : decide (bi < s + ee) = true := decide_eq_true (by omega)
    rw [d1]
    refine takeH 16 (v := ?vla22) rfl (by kernel_rfl) (by kernel_rfl) (by kernel_rfl) (fun _ _ _ h => h) hH rfl ?yla22 ?rla22
    case yla22 => intro W hSw; go_simp; try with_reducible rfl
    try simp only [Act.put, List.setIfInBounds_toArray, List.set_cons_zero, List.set_cons_succ]
    refine takeH 17 (v := ?vla23) rfl (by kernel_rfl) (by kernel_rfl) (by kernel_rfl) (fun _ _ _ h => h) hH rfl ?yla23 ?rla23
    case yla23 => intro W hSw; go_simp; try with_reducible rfl
    try simp only [Act.put, List.setIfInBounds_toArray, List.set_cons_zero, List.set_cons_succ]
    refine skipH 18 rfl (by kernel_rfl) (by kernel_rfl) (by kernel_rfl) (fun _ _ _ h => h) hH rfl ?_
    try simp only [Act.put, List.setIfInBounds_toArray, List.set_cons_zero, List.set_cons_succ]
    refine skipH 19 rfl (by kernel_rfl) (by kernel_rfl) (by kernel_rfl) (fun _ _ _ h => h) hH rfl ?_
    try simp only [Act.put, List.setIfInBounds_toArray, List.set_cons_zero, List.set_cons_succ]
    refine skipH 20 rfl (by kernel_rfl) (by kernel_rfl) (by kernel_rfl) (fun _ _ _ h => h) hH rfl ?_
    try simp only [Act.put, List.setIfInBounds_toArray, List.set_cons_zero, List.set_cons_succ]
    refine skipH 21 rfl (by kernel_rfl) (by kernel_rfl) (by kernel_rfl) (fun _ _ _ h => h) hH rfl ?_
    try simp only [Act.put, List.setIfInBounds_toArray, List.set_cons_zero, List.set_cons_succ]
    refine skipH 22 rfl (by kernel_rfl) (by kernel_rfl) (by kernel_rfl) (fun _ _ _ h => h) hH rfl ?_
    try simp only [Act.put, List.setIfInBounds_toArray, List.set_cons_zero, List.set_cons_succ]
    refine skipH 23 rfl (by kernel_rfl) (by kernel_rfl) (by kernel_rfl) (fun _ _ _ h => h) hH rfl ?_
    try simp only [Act.put, List.setIfInBounds_toArray, List.set_cons_zero, List.set_cons_succ]
    refine skipH 24 rfl (by kernel_rfl) (by kernel_rfl) (by kernel_rfl) (fun _ _ _ h => h) hH rfl ?_
    try simp only [Act.put, List.setIfInBounds_toArray, List.set_cons_zero, List.set_cons_succ]
    refine skipH 25 rfl (by kernel_rfl) (by kernel_rfl) (by kernel_rfl) (fun _ _ _ h => h) hH rfl ?_
    try simp only [Act.put, List.setIfInBounds_toArray, List.set_cons_zero, List.set_cons_succ]
    refine skipH 26 rfl (by kernel_rfl) (by kernel_rfl) (by kernel_rfl) (fun _ _ _ h => h) hH rfl ?_
    try simp only [Act.put, List.setIfInBounds_toArray, List.set_cons_zero, List.set_cons_succ]
    refine skipH 27 rfl (by kernel_rfl) (by kernel_rfl) (by kernel_rfl) (fun _ _ _ h => h) hH rfl ?_
    try simp only [Act.put, List.setIfInBounds_toArray, List.set_cons_zero, List.set_cons_succ]
    refine takeH 28 (v := ?vla24) rfl (by kernel_rfl) (by kernel_rfl) (by kernel_rfl) (fun _ _ _ h => h) hH rfl ?yla24 ?rla24
    case yla24 => intro W hSw; go_simp; try with_reducible rfl
    try simp only [Act.put, List.setIfInBounds_toArray, List.set_cons_zero, List.set_cons_succ]
    refine wpAnyH_done (by kernel_rfl) ?_ _
    try simp only [Act.put]
    clear hH d1
    have hok : okT l ⟨i, j, s, ee⟩ = false := by rw [HX.out, decide_eq_false (by omega)]; rfl
    have Hok := Lib.hid hok; clear hok
    have sF := HA.out.fin
    obtain ⟨sf, oF, bF⟩ := sF
    have y0 := HA.out.s3.frozen 0
    have y1 := HA.out.s3.frozen 1
    have q0 := HA.out.s3.cell 0 (v := .slice none 0 0) rfl
    have q1 := HA.out.s3.cell 1 (v := .int .i64 0) rfl
    have o0 := HA.out.s4.cell 0 (v := .slice (some ⟨g, 0, none⟩) l.length vc) rfl
    have o1 := HA.out.s4.cell 1 (v := .int .i64 (n)) rfl
    have e0 := sf.cell 0 (v := .slice (some ⟨g, 0, none⟩) l.length vc) rfl
    have e1 := sf.cell 1 (v := .int .i64 (n)) rfl
    have OF := Lib.hid oF; have BF := Lib.hid bF; clear oF bF sf
    go_wp2
    skip
    refine bodyPost_ret (v := .tuple #[.agg #[.slice (some ⟨g, 0, none⟩) l.length vc, .int .i64 (n)], .bool false]) (by simp [results, Try.f40, go_sem, e0, e1]) rfl ?_
    exact Hpost.out _ _ _ _ _ _ rfl OF.out BF.out (ap_no (n := n) Hok.out).1.symm (ap_no (l := l) Hok.out).2.symm Hok.out.symm
  have d1 : decide (bi < s + ee) = false := decide_eq_false (by omega)
  rw [d1]
  refine takeH 16 (v := ?vla25) rfl (by kernel_rfl) (by kernel_rfl) (by kernel_rfl) (fun _ _ _ h => h) hH rfl ?yla25 ?rla25
  case yla25 => intro W hSw; go_simp; try with_reducible rfl
  try simp only [Act.put, List.setIfInBounds_toArray, List.set_cons_zero, List.set_cons_succ]
  refine takeH 17 (v := ?vla26) rfl (by kernel_rfl) (by kernel_rfl) (by kernel_rfl) (fun _ _ _ h => h) hH rfl ?yla26 ?rla26
  case yla26 => intro W hSw; go_simp; try with_reducible rfl
  try simp only [Act.put, List.setIfInBounds_toArray, List.set_cons_zero, List.set_cons_succ]
  refine takeH 18 (v := ?vla27) rfl (by kernel_rfl) (by kernel_rfl) (by kernel_rfl) (fun _ _ _ h => h) hH rfl ?yla27 ?rla27
  case yla27 => intro W hSw; go_simp; try with_reducible rfl
  try simp only [Act.put, List.setIfInBounds_toArray, List.set_cons_zero, List.set_cons_succ]
  refine takeH 19 (v := ?vla28) rfl (by kernel_rfl) (by kernel_rfl) (by kernel_rfl) (fun _ _ _ h => h) hH rfl ?yla28 ?rla28
  case yla28 => intro W hSw; go_simp; try with_reducible rfl
  try simp only [Act.put, List.setIfInBounds_toArray, List.set_cons_zero, List.set_cons_succ]
  refine takeH 20 (v := ?vla29) rfl (by kernel_rfl) (by kernel_rfl) (by kernel_rfl) (fun _ _ _ h => h) hH rfl ?yla29 ?rla29
  case yla29 => intro W hSw; go_simp; try with_reducible rfl
  try simp only [Act.put, List.setIfInBounds_toArray, List.set_cons_zero, List.set_cons_succ]
  refine takeH 21 (v := ?vla30) rfl (by kernel_rfl) (by kernel_rfl) (by kernel_rfl) (fun _ _ _ h => h) hH rfl ?yla30 ?rla30
  case yla30 => intro W hSw; go_simp; try with_reducible rfl
  try simp only [Act.put, List.setIfInBounds_toArray, List.set_cons_zero, List.set_cons_succ]
  refine takeH 22 (v := ?vla31) rfl (by kernel_rfl) (by kernel_rfl) (by kernel_rfl) (fun _ _ _ h => h) hH rfl ?yla31 ?rla31
  case yla31 => intro W hSw; go_simp; try with_reducible rfl
  try simp only [Act.put, List.setIfInBounds_toArray, List.set_cons_zero, List.set_cons_succ]
  refine takeH 23 (v := ?vla32) rfl (by kernel_rfl) (by kernel_rfl) (by kernel_rfl) (fun _ _ _ h => h) hH rfl ?yla32 ?rla32
  case yla32 => intro W hSw; go_simp; try with_reducible rfl
  try simp only [Act.put, List.setIfInBounds_toArray, List.set_cons_zero, List.set_cons_succ]
  refine takeH 24 (v := ?vla33) rfl (by kernel_rfl) (by kernel_rfl) (by kernel_rfl) (fun _ _ _ h => h) hH rfl ?yla33 ?rla33
  case yla33 => intro W hSw; go_simp; try with_reducible rfl
  try simp only [Act.put, List.setIfInBounds_toArray, List.set_cons_zero, List.set_cons_succ]
  refine takeH 25 (v := ?vla34) rfl (by kernel_rfl) (by kernel_rfl) (by kernel_rfl) (fun _ _ _ h => h) hH rfl ?yla34 ?rla34
  case yla34 => intro W hSw; go_simp; try with_reducible rfl
  try simp only [Act.put, List.setIfInBounds_toArray, List.set_cons_zero, List.set_cons_succ]
  refine takeH 26 (v := .int .i64 (bj + s)) rfl (by kernel_rfl) (by kernel_rfl) (by kernel_rfl) (fun _ _ _ h => h) hH rfl ?yla35 ?rla35
  case yla35 => intro W hSw; go_simp; first | done | (simp [w2'])
  try simp only [Act.put, List.setIfInBounds_toArray, List.set_cons_zero, List.set_cons_succ]
  refine takeH 27 (v := ?vla36) rfl (by kernel_rfl) (by kernel_rfl) (by kernel_rfl) (fun _ _ _ h => h) hH rfl ?yla36 ?rla36
  case yla36 => intro W hSw; go_simp; try with_reducible rfl
  try simp only [Act.put, List.setIfInBounds_toArray, List.set_cons_zero, List.set_cons_succ]
  by_cases hhigh : 999 < bj + s
  case pos =>
    have d2 : decide (999 < bj + s) = true := decide_eq_true (by omega)
    rw [d2]
    refine takeH 28 (v := ?vla37) rfl (by kernel_rfl) (by kernel_rfl) (by kernel_rfl) (fun _ _ _ h => h) hH rfl ?yla37 ?rla37
    case yla37 => intro W hSw; go_simp; try with_reducible rfl
    try simp only [Act.put, List.setIfInBounds_toArray, List.set_cons_zero, List.set_cons_succ]
    refine wpAnyH_done (by kernel_rfl) ?_ _
    try simp only [Act.put]
    clear hH d1 d2
    have hok : okT l ⟨i, j, s, ee⟩ = false := by rw [HX.out, decide_eq_false (show ¬ bj + s ≤ 999 by omega), Bool.and_false]
    have Hok := Lib.hid hok; clear hok
    have sF := HA.out.fin
    obtain ⟨sf, oF, bF⟩ := sF
    have y0 := HA.out.s3.frozen 0
    have y1 := HA.out.s3.frozen 1
    have q0 := HA.out.s3.cell 0 (v := .slice none 0 0) rfl
    have q1 := HA.out.s3.cell 1 (v := .int .i64 0) rfl
    have o0 := HA.out.s4.cell 0 (v := .slice (some ⟨g, 0, none⟩) l.length vc) rfl
    have o1 := HA.out.s4.cell 1 (v := .int .i64 (n)) rfl
    have e0 := sf.cell 0 (v := .slice (some ⟨g, 0, none⟩) l.length vc) rfl
    have e1 := sf.cell 1 (v := .int .i64 (n)) rfl
    have OF := Lib.hid oF; have BF := Lib.hid bF; clear oF bF sf
    go_wp2
    skip
    refine bodyPost_ret (v := .tuple #[.agg #[.slice (some ⟨g, 0, none⟩) l.length vc, .int .i64 (n)], .bool false]) (by simp [results, Try.f40, go_sem, e0, e1]) rfl ?_
    exact Hpost.out _ _ _ _ _ _ rfl OF.out BF.out (ap_no (n := n) Hok.out).1.symm (ap_no (l := l) Hok.out).2.symm Hok.out.symm
  have d2 : decide (999 < bj + s) = false := decide_eq_false (by omega)
  rw [d2]
  refine takeH 28 (v := ?vla38) rfl (by kernel_rfl) (by kernel_rfl) (by kernel_rfl) (fun _ _ _ h => h) hH rfl ?yla38 ?rla38
  case yla38 => intro W hSw; go_simp; try with_reducible rfl
  try simp only [Act.put, List.setIfInBounds_toArray, List.set_cons_zero, List.set_cons_succ]
  refine wpAnyH_done (by kernel_rfl) ?_ _
  try simp only [Act.put]
  clear hH d1 d2
  have hok : okT l ⟨i, j, s, ee⟩ = true := by rw [HX.out, decide_eq_true (show s + ee ≤ bi by omega), decide_eq_true (show bj + s ≤ 999 by omega)]; rfl
  have Hok := Lib.hid hok; clear hok
  go_wp2_with fail
  refine wp_region_held_drew (S := fun w' => w'.cell? ⟨w.heap.size + 1, 0, none⟩ = some (.int .i64 i) ∧ w'.cell? ⟨w.heap.size + 1, 1, none⟩ = some (.int .i64 j) ∧ w'.cell? ⟨w.heap.size + 1, 2, none⟩ = some (.int .i64 s) ∧ w'.cell? ⟨w.heap.size + 1, 3, none⟩ = some (.int .i64 ee) ∧ w'.cell? ⟨w.heap.size, 0, none⟩ = some (.slice (some ⟨b, off, none⟩) l.length cap) ∧ w'.cell? ⟨O, 0, none⟩ = some (.slice (some ⟨g, 0, none⟩) l.length vc) ∧ w'.cell? ⟨b, off + i, none⟩ = some (.int .i64 bi)) (by kernel_rfl) ⟨HA.out.s2.cell 0 (v := .int .i64 i) rfl, HA.out.s2.cell 1 (v := .int .i64 j) rfl, HA.out.s2.cell 2 (v := .int .i64 s) rfl, HA.out.s2.cell 3 (v := .int .i64 ee) rfl, HA.out.s1.cell 0 (v := .slice (some ⟨b, off, none⟩) l.length cap) rfl, HA.out.s4.cell 0 (v := .slice (some ⟨g, 0, none⟩) l.length vc) rfl, HCI.out _ HA.out.bel.drew⟩ (fun hH => ?_)
  have HA := Lib.hid HA.out.drew
  generalize w5.drew = wd at *
  refine takeH 0 (v := ?vla39) rfl (by kernel_rfl) (by kernel_rfl) (by kernel_rfl) (fun _ _ _ h => h) hH rfl ?yla39 ?rla39
  case yla39 => intro W hSw; go_simp; try with_reducible rfl
  try simp only [Act.put, List.setIfInBounds_toArray, List.set_cons_zero, List.set_cons_succ]
  refine takeH 1 (v := ?vla40) rfl (by kernel_rfl) (by kernel_rfl) (by kernel_rfl) (fun _ _ _ h => h) hH rfl ?yla40 ?rla40
  case yla40 => intro W hSw; go_simp; try with_reducible rfl
  try simp only [Act.put, List.setIfInBounds_toArray, List.set_cons_zero, List.set_cons_succ]
  refine takeH 2 (v := ?vla41) rfl (by kernel_rfl) (by kernel_rfl) (by kernel_rfl) (fun _ _ _ h => h) hH rfl ?yla41 ?rla41
  case yla41 => intro W hSw; go_simp; try with_reducible rfl
  try simp only [Act.put, List.setIfInBounds_toArray, List.set_cons_zero, List.set_cons_succ]
  refine takeH 3 (v := ?vla42) rfl (by kernel_rfl) (by kernel_rfl) (by kernel_rfl) (fun _ _ _ h => h) hH rfl ?yla42 ?rla42
  case yla42 => intro W hSw; go_simp; try with_reducible rfl
  try simp only [Act.put, List.setIfInBounds_toArray, List.set_cons_zero, List.set_cons_succ]
  refine takeH 4 (v := ?vla43) rfl (by kernel_rfl) (by kernel_rfl) (by kernel_rfl) (fun _ _ _ h => h) hH rfl ?yla43 ?rla43
  case yla43 => intro W hSw; go_simp; try with_reducible rfl
  try simp only [Act.put, List.setIfInBounds_toArray, List.set_cons_zero, List.set_cons_succ]
  refine takeH 5 (v := ?vla44) rfl (by kernel_rfl) (by kernel_rfl) (by kernel_rfl) (fun _ _ _ h => h) hH rfl ?yla44 ?rla44
  case yla44 => intro W hSw; go_simp; try with_reducible rfl
  try simp only [Act.put, List.setIfInBounds_toArray, List.set_cons_zero, List.set_cons_succ]
  refine takeH 6 (v := ?vla45) rfl (by kernel_rfl) (by kernel_rfl) (by kernel_rfl) (fun _ _ _ h => h) hH rfl ?yla45 ?rla45
  case yla45 => intro W hSw; go_simp; try with_reducible rfl
  try simp only [Act.put, List.setIfInBounds_toArray, List.set_cons_zero, List.set_cons_succ]
  refine takeH 7 (v := ?vla46) rfl (by kernel_rfl) (by kernel_rfl) (by kernel_rfl) (fun _ _ _ h => h) hH rfl ?yla46 ?rla46
  case yla46 => intro W hSw; go_simp; try with_reducible rfl
  try simp only [Act.put, List.setIfInBounds_toArray, List.set_cons_zero, List.set_cons_succ]
  refine takeH 8 (v := ?vla47) rfl (by kernel_rfl) (by kernel_rfl) (by kernel_rfl) (fun _ _ _ h => h) hH rfl ?yla47 ?rla47
  case yla47 => intro W hSw; go_simp; try with_reducible rfl
  try simp only [Act.put, List.setIfInBounds_toArray, List.set_cons_zero, List.set_cons_succ]
  refine takeH 9 (v := ?vla48) rfl (by kernel_rfl) (by kernel_rfl) (by kernel_rfl) (fun _ _ _ h => h) hH rfl ?yla48 ?rla48
  case yla48 => intro W hSw; go_simp; try with_reducible rfl
  try simp only [Act.put, List.setIfInBounds_toArray, List.set_cons_zero, List.set_cons_succ]
  refine takeH 10 (v := ?vla49) rfl (by kernel_rfl) (by kernel_rfl) (by kernel_rfl) (fun _ _ _ h => h) hH rfl ?yla49 ?rla49
  case yla49 => intro W hSw; go_simp; try with_reducible rfl
  try simp only [Act.put, List.setIfInBounds_toArray, List.set_cons_zero, List.set_cons_succ]
  refine takeH 11 (v := ?vla50) rfl (by kernel_rfl) (by kernel_rfl) (by kernel_rfl) (fun _ _ _ h => h) hH rfl ?yla50 ?rla50
  case yla50 => intro W hSw; go_simp; try with_reducible rfl
  try simp only [Act.put, List.setIfInBounds_toArray, List.set_cons_zero, List.set_cons_succ]
  refine takeH 12 (v := .int .i64 (bi - s)) rfl (by kernel_rfl) (by kernel_rfl) (by kernel_rfl) (fun _ _ _ h => h) hH rfl ?yla51 ?rla51
  case yla51 => intro W hSw; go_simp; first | done | (simp [w3'])
  try simp only [Act.put, List.setIfInBounds_toArray, List.set_cons_zero, List.set_cons_succ]
  refine takeH 13 (v := ?vla52) rfl (by kernel_rfl) (by kernel_rfl) (by kernel_rfl) (fun _ _ _ h => h) hH rfl ?yla52 ?rla52
  case yla52 => intro W hSw; go_simp; try with_reducible rfl
  try simp only [Act.put, List.setIfInBounds_toArray, List.set_cons_zero, List.set_cons_succ]
  refine takeH 14 (v := ?vla53) rfl (by kernel_rfl) (by kernel_rfl) (by kernel_rfl) (fun _ _ _ h => h) hH rfl ?yla53 ?rla53
  case yla53 => intro W hSw; go_simp; try with_reducible rfl
  try simp only [Act.put, List.setIfInBounds_toArray, List.set_cons_zero, List.set_cons_succ]
  refine takeH 15 (v := .int .i64 (bi - s - ee)) rfl (by kernel_rfl) (by kernel_rfl) (by kernel_rfl) (fun _ _ _ h => h) hH rfl ?yla54 ?rla54
  case yla54 => intro W hSw; go_simp; first | done | (simp [w4'])
  try simp only [Act.put, List.setIfInBounds_toArray, List.set_cons_zero, List.set_cons_succ]
  refine takeH 16 (v := ?vla55) rfl (by kernel_rfl) (by kernel_rfl) (by kernel_rfl) (fun _ _ _ h => h) hH rfl ?yla55 ?rla55
  case yla55 => intro W hSw; go_simp; try with_reducible rfl
  try simp only [Act.put, List.setIfInBounds_toArray, List.set_cons_zero, List.set_cons_succ]
  refine callH 17 rfl (by kernel_rfl) rfl (fun K hK => ?_)
  have y9 := HA.out.frozen h6 i
  have q9 := HA.out.at h6 (j := i) (by rw [HA.out.len]; omega)
  skip
  go_simp
  clear y9 q9
  have HA := Lib.hid (HA.out.store i (bi - s - ee))
  refine hK.out _ _ ⟨HA.out.s2.cell 0 (v := .int .i64 i) rfl, HA.out.s2.cell 1 (v := .int .i64 j) rfl, HA.out.s2.cell 2 (v := .int .i64 s) rfl, HA.out.s2.cell 3 (v := .int .i64 ee) rfl, HA.out.s1.cell 0 (v := .slice (some ⟨b, off, none⟩) l.length cap) rfl, HA.out.s4.cell 0 (v := .slice (some ⟨g, 0, none⟩) l.length vc) rfl, HCI.out _ HA.out.bel⟩ (fun hH => ?_)
  clear hK K
  try simp only [Act.put, List.setIfInBounds_toArray, List.set_cons_zero, List.set_cons_succ]
  generalize (wd.setCell ⟨g, i, none⟩ (.int .i64 (bi - s - ee))) = w5s at *
  refine wpAnyH_done (by kernel_rfl) ?_ _
  try simp only [Act.put]
  clear hH
  go_wp2_with fail
  refine wp_region_held_drew (S := fun w' => w'.cell? ⟨w.heap.size + 1, 0, none⟩ = some (.int .i64 i) ∧ w'.cell? ⟨w.heap.size + 1, 1, none⟩ = some (.int .i64 j) ∧ w'.cell? ⟨w.heap.size + 1, 2, none⟩ = some (.int .i64 s) ∧ w'.cell? ⟨w.heap.size + 1, 3, none⟩ = some (.int .i64 ee) ∧ w'.cell? ⟨w.heap.size, 0, none⟩ = some (.slice (some ⟨b, off, none⟩) l.length cap) ∧ w'.cell? ⟨O, 0, none⟩ = some (.slice (some ⟨g, 0, none⟩) l.length vc) ∧ w'.cell? ⟨b, off + j, none⟩ = some (.int .i64 bj)) (by kernel_rfl) ⟨HA.out.s2.cell 0 (v := .int .i64 i) rfl, HA.out.s2.cell 1 (v := .int .i64 j) rfl, HA.out.s2.cell 2 (v := .int .i64 s) rfl, HA.out.s2.cell 3 (v := .int .i64 ee) rfl, HA.out.s1.cell 0 (v := .slice (some ⟨b, off, none⟩) l.length cap) rfl, HA.out.s4.cell 0 (v := .slice (some ⟨g, 0, none⟩) l.length vc) rfl, HCJ.out _ HA.out.bel.drew⟩ (fun hH => ?_)
  have HA := Lib.hid HA.out.drew
  generalize w5s.drew = wd at *
  refine takeH 0 (v := ?vla56) rfl (by kernel_rfl) (by kernel_rfl) (by kernel_rfl) (fun _ _ _ h => h) hH rfl ?yla56 ?rla56
  case yla56 => intro W hSw; go_simp; try with_reducible rfl
  try simp only [Act.put, List.setIfInBounds_toArray, List.set_cons_zero, List.set_cons_succ]
  refine takeH 1 (v := ?vla57) rfl (by kernel_rfl) (by kernel_rfl) (by kernel_rfl) (fun _ _ _ h => h) hH rfl ?yla57 ?rla57
  case yla57 => intro W hSw; go_simp; try with_reducible rfl
  try simp only [Act.put, List.setIfInBounds_toArray, List.set_cons_zero, List.set_cons_succ]
  refine takeH 2 (v := ?vla58) rfl (by kernel_rfl) (by kernel_rfl) (by kernel_rfl) (fun _ _ _ h => h) hH rfl ?yla58 ?rla58
  case yla58 => intro W hSw; go_simp; try with_reducible rfl
  try simp only [Act.put, List.setIfInBounds_toArray, List.set_cons_zero, List.set_cons_succ]
  refine takeH 3 (v := ?vla59) rfl (by kernel_rfl) (by kernel_rfl) (by kernel_rfl) (fun _ _ _ h => h) hH rfl ?yla59 ?rla59
  case yla59 => intro W hSw; go_simp; try with_reducible rfl
  try simp only [Act.put, List.setIfInBounds_toArray, List.set_cons_zero, List.set_cons_succ]
  refine takeH 4 (v := ?vla60) rfl (by kernel_rfl) (by kernel_rfl) (by kernel_rfl) (fun _ _ _ h => h) hH rfl ?yla60 ?rla60
  case yla60 => intro W hSw; go_simp; try with_reducible rfl
  try simp only [Act.put, List.setIfInBounds_toArray, List.set_cons_zero, List.set_cons_succ]
  refine takeH 5 (v := ?vla61) rfl (by kernel_rfl) (by kernel_rfl) (by kernel_rfl) (fun _ _ _ h => h) hH rfl ?yla61 ?rla61
  case yla61 => intro W hSw; go_simp; try with_reducible rfl
  try simp only [Act.put, List.setIfInBounds_toArray, List.set_cons_zero, List.set_cons_succ]
  refine takeH 6 (v := ?vla62) rfl (by kernel_rfl) (by kernel_rfl) (by kernel_rfl) (fun _ _ _ h => h) hH rfl ?yla62 ?rla62
  case yla62 => intro W hSw; go_simp; try with_reducible rfl
  try simp only [Act.put, List.setIfInBounds_toArray, List.set_cons_zero, List.set_cons_succ]
  refine takeH 7 (v := ?vla63) rfl (by kernel_rfl) (by kernel_rfl) (by kernel_rfl) (fun _ _ _ h => h) hH rfl ?yla63 ?rla63
  case yla63 => intro W hSw; go_simp; try with_reducible rfl
  try simp only [Act.put, List.setIfInBounds_toArray, List.set_cons_zero, List.set_cons_succ]
  refine takeH 8 (v := ?vla64) rfl (by kernel_rfl) (by kernel_rfl) (by kernel_rfl) (fun _ _ _ h => h) hH rfl ?yla64 ?rla64
  case yla64 => intro W hSw; go_simp; try with_reducible rfl
  try simp only [Act.put, List.setIfInBounds_toArray, List.set_cons_zero, List.set_cons_succ]
  refine takeH 9 (v := ?vla65) rfl (by kernel_rfl) (by kernel_rfl) (by kernel_rfl) (fun _ _ _ h => h) hH rfl ?yla65 ?rla65
  case yla65 => intro W hSw; go_simp; try with_reducible rfl
  try simp only [Act.put, List.setIfInBounds_toArray, List.set_cons_zero, List.set_cons_succ]
  refine takeH 10 (v := ?vla66) rfl (by kernel_rfl) (by kernel_rfl) (by kernel_rfl) (fun _ _ _ h => h) hH rfl ?yla66 ?rla66
  case yla66 => intro W hSw; go_simp; try with_reducible rfl
  try simp only [Act.put, List.setIfInBounds_toArray, List.set_cons_zero, List.set_cons_succ]
  refine takeH 11 (v := ?vla67) rfl (by kernel_rfl) (by kernel_rfl) (by kernel_rfl) (fun _ _ _ h => h) hH rfl ?yla67 ?rla67
  case yla67 => intro W hSw; go_simp; try with_reducible rfl
  try simp only [Act.put, List.setIfInBounds_toArray, List.set_cons_zero, List.set_cons_succ]
  refine takeH 12 (v := .int .i64 (bj + s)) rfl (by kernel_rfl) (by kernel_rfl) (by kernel_rfl) (fun _ _ _ h => h) hH rfl ?yla68 ?rla68
  case yla68 => intro W hSw; go_simp; first | done | (simp [w2'])
  try simp only [Act.put, List.setIfInBounds_toArray, List.set_cons_zero, List.set_cons_succ]
  refine takeH 13 (v := ?vla69) rfl (by kernel_rfl) (by kernel_rfl) (by kernel_rfl) (fun _ _ _ h => h) hH rfl ?yla69 ?rla69
  case yla69 => intro W hSw; go_simp; try with_reducible rfl
  try simp only [Act.put, List.setIfInBounds_toArray, List.set_cons_zero, List.set_cons_succ]
  refine callH 14 rfl (by kernel_rfl) rfl (fun K hK => ?_)
  have y9 := HA.out.frozen h6 j
  have q9 := HA.out.at h6 (j := j) (by rw [HA.out.len]; omega)
  skip
  go_simp
  clear y9 q9
  have HA := Lib.hid (HA.out.store j (bj + s))
  refine hK.out _ _ ⟨HA.out.s2.cell 0 (v := .int .i64 i) rfl, HA.out.s2.cell 1 (v := .int .i64 j) rfl, HA.out.s2.cell 2 (v := .int .i64 s) rfl, HA.out.s2.cell 3 (v := .int .i64 ee) rfl, HA.out.s1.cell 0 (v := .slice (some ⟨b, off, none⟩) l.length cap) rfl, HA.out.s4.cell 0 (v := .slice (some ⟨g, 0, none⟩) l.length vc) rfl, HCJ.out _ HA.out.bel⟩ (fun hH => ?_)
  clear hK K
  try simp only [Act.put, List.setIfInBounds_toArray, List.set_cons_zero, List.set_cons_succ]
  generalize (wd.setCell ⟨g, j, none⟩ (.int .i64 (bj + s))) = w5ss at *
  refine wpAnyH_done (by kernel_rfl) ?_ _
  try simp only [Act.put]
  clear hH
  have x0 := HA.out.s2.cell 0 (v := .int .i64 i) rfl
  have x1 := HA.out.s2.cell 1 (v := .int .i64 j) rfl
  have x2 := HA.out.s2.cell 2 (v := .int .i64 s) rfl
  have x3 := HA.out.s2.cell 3 (v := .int .i64 ee) rfl
  have l0 := HA.out.s1.cell 0 (v := .slice (some ⟨b, off, none⟩) l.length cap) rfl
  have l1 := HA.out.s1.cell 1 (v := .int .i64 n) rfl
  have o1 := HA.out.s4.cell 1 (v := .int .i64 n) rfl
  have fo := HA.out.s4.frozen 1
  have HA := Lib.hid (HA.out.fee (n + ee))
  have sF := HA.out.fin
  obtain ⟨sf, oF, bF⟩ := sF
  have y0 := HA.out.s3.frozen 0
  have y1 := HA.out.s3.frozen 1
  have q0 := HA.out.s3.cell 0 (v := .slice none 0 0) rfl
  have q1 := HA.out.s3.cell 1 (v := .int .i64 0) rfl
  have o0 := HA.out.s4.cell 0 (v := .slice (some ⟨g, 0, none⟩) l.length vc) rfl
  have o1 := HA.out.s4.cell 1 (v := .int .i64 (n + ee)) rfl
  have e0 := sf.cell 0 (v := .slice (some ⟨g, 0, none⟩) l.length vc) rfl
  have e1 := sf.cell 1 (v := .int .i64 (n + ee)) rfl
  have OF := Lib.hid oF; have BF := Lib.hid bF; clear oF bF sf
  go_wp2
  skip
  refine bodyPost_ret (v := .tuple #[.agg #[.slice (some ⟨g, 0, none⟩) l.length vc, .int .i64 (n + ee)], .bool true]) (by simp [results, Try.f40, go_sem, e0, e1]) rfl ?_
  exact Hpost.out _ _ _ _ _ _ rfl OF.out BF.out (HY.out Hok.out) (ap_yes (l := l) Hok.out).2.symm Hok.out.symm

end Go.Proofs.Ytadgdjjibmofpab

/- LedgerValid, LedgerTotal and LedgerApply of the program, and LedgerApply of the reference, each by a walk of its text; condition: the list is shorter than 2^40. -/
namespace Go.Proofs.Ytadgdjjibmofpab
open Go.RowKit

def laL (l : List Int) (n : Int) (x : Tx) : List Int := if roomB l n 1 then apL l x else []
def laF (l : List Int) (n : Int) (x : Tx) : Int := if roomB l n 1 then apF l n x else 0
def laO (l : List Int) (n : Int) (x : Tx) : Bool := roomB l n 1 && okT l x
theorem la_no {l : List Int} {n : Int} {x : Tx} (h : roomB l n 1 = false) : laL l n x = [] ∧ laF l n x = 0 ∧ laO l n x = false := by unfold laL laF laO; rw [h]; exact ⟨rfl, rfl, rfl⟩
theorem la_yes {l : List Int} {n : Int} {x : Tx} (h : roomB l n 1 = true) : laL l n x = apL l x ∧ laF l n x = apF l n x ∧ laO l n x = okT l x := by unfold laL laF laO; rw [h]; exact ⟨rfl, rfl, rfl⟩
theorem room_iff {l : List Int} {n m : Int} : roomB l n m = true ↔ ldB l n = true ∧ n ≤ 5994 - 9 * m := by unfold roomB; rw [Bool.and_eq_true, decide_eq_true_eq]
theorem la_len {l : List Int} {n : Int} {x : Tx} (h : l.length ≤ 6) : (laL l n x).length ≤ 6 := by
  unfold laL; split
  · rw [ap_len]; exact h
  · simp
theorem la_len6 (l : List Int) (n : Int) (x : Tx) : (laL l n x).length ≤ 6 := by
  unfold laL; split
  · rename_i h
    rw [ap_len, (ldB_iff.1 (room_iff.1 h).1).2.1]; exact Nat.le_refl 6
  · simp
theorem la_room {l : List Int} {n : Int} {x : Tx} (h : laO l n x = true) : roomB l n 1 = true := by unfold laO at h; rw [Bool.and_eq_true] at h; exact h.1
theorem la_true {l : List Int} {n : Int} {x : Tx} (h : laO l n x = true) : ldB l n = true ∧ okT l x = true ∧ laL l n x = apL l x ∧ laF l n x = n + x.e := by
  have hr := la_room h
  obtain ⟨h1, h2, h3⟩ := la_yes (x := x) hr
  have ho : okT l x = true := by rw [← h3]; exact h
  exact ⟨(room_iff.1 hr).1, ho, h1, by rw [h2]; exact (ap_yes ho).2⟩
theorem la_back {l G : List Int} {n F f t s : Int} (hr : roomB l n 1 = true) (hok : okT l ⟨f, t, s, 0⟩ = true) (hG : G = apL l ⟨f, t, s, 0⟩) (hF : F = laF l n ⟨f, t, s, 0⟩) :
    laL G F ⟨t, f, s, 0⟩ = l ∧ laF G F ⟨t, f, s, 0⟩ = n ∧ laO G F ⟨t, f, s, 0⟩ = true := by
  obtain ⟨hv, hn⟩ := room_iff.1 hr
  rw [(la_yes hr).2.1] at hF
  obtain ⟨q1, q2, q3⟩ := ap_back hv hok rfl
  have hFn : F = n := by rw [hF, (ap_yes hok).2]; simp
  have hr2 : roomB G F 1 = true := room_iff.2 ⟨by rw [hG, hF]; exact ap_valid _ hv (by omega), by omega⟩
  obtain ⟨h1, h2, h3⟩ := la_yes (x := ⟨t, f, s, 0⟩) hr2
  rw [h1, h2, h3, hG, hF]
  exact ⟨q2, q3, q1⟩
/-- What LedgerApply answers. -/
def LaP (E : TypeId) (w : World) (l : List Int) (n : Int) (x : Tx) (e : Ending) (w' : World) : Prop := ∃ v, e = .returned (.tuple #[.agg #[v, .int .i64 (laF l n x)], .bool (laO l n x)]) ∧ Own E w' w.heap.size v (laL l n x) ∧ Below w.heap.size w w'
theorem LaP.no {E : TypeId} {w w' : World} {l : List Int} {n : Int} {x : Tx} {e : Ending} (h : roomB l n 1 = false) (he : e = .returned (.tuple #[.agg #[.slice none 0 0, .int .i64 0], .bool false])) (hb : Below w.heap.size w w') : LaP E w l n x e w' := by
  obtain ⟨h1, h2, h3⟩ := la_no (x := x) h
  unfold LaP; rw [h1, h2, h3]
  exact ⟨_, he, Own.nil _ _ _, hb⟩
theorem LaP.yes {E : TypeId} {w w' : World} {l : List Int} {n : Int} {x : Tx} {e : Ending} {v : Value} (h : roomB l n 1 = true) (he : e = .returned (.tuple #[.agg #[v, .int .i64 (apF l n x)], .bool (okT l x)])) (ho : Own E w' w.heap.size v (apL l x)) (hb : Below w.heap.size w w') : LaP E w l n x e w' := by
  obtain ⟨h1, h2, h3⟩ := la_yes (x := x) h
  unfold LaP; rw [h1, h2, h3]
  exact ⟨_, he, ho, hb⟩

set_option maxHeartbeats 2000000 in
theorem impl_LedgerValid (a : Option Addr) (cap : Nat) (l : List Int) (n : Int) (w : World) (hbig : l.length ≤ 1099511627776) (hl : IntsAt w a l) :
    Calls Try.prog 14 #[.agg #[.slice a l.length cap, .int .i64 n]] w fun e w' => e = .returned (.bool (ldB l n)) ∧ Below w.heap.size w w' := by
  have hb0 : Below w.heap.size w (w.alloc (.cells #[.slice a l.length cap, .int .i64 n] 33)) := (Below.refl _ _).alloc (Nat.le_refl _) _
  have s1 := Str.new w 33 #[.slice a l.length cap, .int .i64 n]
  have hl0 := hl.below hb0
  have k0 := s1.cell 0 (v := .slice a l.length cap) rfl
  have k1 := s1.cell 1 (v := .int .i64 n) rfl
  have Hb := Lib.hid hb0; have Hl := Lib.hid hl0; clear s1 hb0 hl0 hl
  have hbv : ldB l n = true ∨ ldB l n = false := by cases ldB l n <;> simp
  rcases hbv with hbv | hbv
  case inr =>
    have HN := Lib.hid (fun W (h : IntsAt W a l) => lg_ledgerOf_no a cap l n W hbig h hbv)
    have Hr := Lib.hid hbv
    clear hbv
    go_enter Try.func14, Try.ntmps14
    go_wp2_with fail
    generalize (w.alloc (.cells #[.slice a l.length cap, .int .i64 n] 33)) = W0 at *
    refine (HN.out _ Hl.out).mono ?_
    rintro e w1 ⟨rfl, hb1⟩
    have Hb := Lib.hid (below_step Hb.out Hb.out.size hb1)
    clear hb1 k0 k1
    go_wp2
    go_ret
    exact ⟨by rw [Hr.out]; rfl, Hb.out⟩
  have HY := Lib.hid (fun W (h : IntsAt W a l) => lg_ledgerOf a cap l n W hbig h hbv)
  have Hr := Lib.hid hbv
  clear hbv
  go_enter Try.func14, Try.ntmps14
  go_wp2_with fail
  generalize (w.alloc (.cells #[.slice a l.length cap, .int .i64 n] 33)) = W0 at *
  refine (HY.out _ Hl.out).mono ?_
  rintro e w1 ⟨B, rfl, hB1, hB2, hs, hb1⟩
  have Hb := Lib.hid (below_step Hb.out Hb.out.size hb1)
  clear hb1 k0 k1 hs
  go_wp2
  go_ret
  exact ⟨by rw [Hr.out]; rfl, Hb.out⟩

set_option maxHeartbeats 2000000 in
theorem impl_LedgerTotal (a : Option Addr) (cap : Nat) (l : List Int) (n : Int) (w : World) (hbig : l.length ≤ 1099511627776) (hl : IntsAt w a l) :
    Calls Try.prog 17 #[.agg #[.slice a l.length cap, .int .i64 n]] w fun e w' => e = .returned (.int .i64 (totZ l n)) ∧ Below w.heap.size w w' := by
  have hb0 : Below w.heap.size w (w.alloc (.cells #[.slice a l.length cap, .int .i64 n] 33)) := (Below.refl _ _).alloc (Nat.le_refl _) _
  have s1 := Str.new w 33 #[.slice a l.length cap, .int .i64 n]
  have hl0 := hl.below hb0
  have k0 := s1.cell 0 (v := .slice a l.length cap) rfl
  have k1 := s1.cell 1 (v := .int .i64 n) rfl
  have Hb := Lib.hid hb0; have Hl := Lib.hid hl0; clear s1 hb0 hl0 hl
  have hbv : ldB l n = true ∨ ldB l n = false := by cases ldB l n <;> simp
  rcases hbv with hbv | hbv
  case inr =>
    have HN := Lib.hid (fun W (h : IntsAt W a l) => lg_ledgerOf_no a cap l n W hbig h hbv)
    have Hr := Lib.hid (show totZ l n = -1 by unfold totZ; rw [hbv]; rfl)
    clear hbv
    go_enter Try.func17, Try.ntmps17
    go_wp2_with fail
    generalize (w.alloc (.cells #[.slice a l.length cap, .int .i64 n] 33)) = W0 at *
    refine (HN.out _ Hl.out).mono ?_
    rintro e w1 ⟨rfl, hb1⟩
    have Hb := Lib.hid (below_step Hb.out Hb.out.size hb1)
    clear hb1 k0 k1
    go_wp2
    go_ret
    exact ⟨by rw [Hr.out]; rfl, Hb.out⟩
  have HY := Lib.hid (fun W (h : IntsAt W a l) => lg_ledgerOf a cap l n W hbig h hbv)
  have Hr := Lib.hid (show totZ l n = l.sum + n by unfold totZ; rw [hbv]; rfl)
  have HS := Lib.hid (fun W B (h : Lg 66 W B l n) => lg_sum B l n W hbv h)
  obtain ⟨hv1, hv2, hn0, hn1⟩ := ldB_iff.1 hbv
  have hsb := sum_take_bd hv1 l.length (Nat.le_refl _)
  rw [List.take_length, hv2] at hsb
  clear hbv hv1 hv2
  generalize l.sum = S at *
  have hwr : IntKind.i64.wrap (S + n) = S + n := IntWalk.i64_in _ (by omega)
  go_enter Try.func17, Try.ntmps17
  go_wp2_with fail
  generalize (w.alloc (.cells #[.slice a l.length cap, .int .i64 n] 33)) = W0 at *
  refine (HY.out _ Hl.out).mono ?_
  rintro e w1 ⟨B, rfl, hB1, hB2, hs, hb1⟩
  have Hb := Lib.hid (below_step Hb.out Hb.out.size hb1)
  have S9 := Lib.hid hs
  clear hb1 k0 k1 hs
  go_wp2_with fail
  refine wp_region_held_drew (S := fun w' => w'.cell? ⟨B, 6, none⟩ = some (.int .i64 n)) (by kernel_rfl) S9.out.fees (fun hH => ?_)
  have S9 := Lib.hid (show Lg 66 w1.drew B l n from S9.out)
  have Hb := Lib.hid Hb.out.drew
  generalize w1.drew = wd at *
  refine takeH 0 (v := ?vlv1) rfl (by kernel_rfl) (by kernel_rfl) (by kernel_rfl) (fun _ _ _ h => h) hH rfl ?ylv1 ?rlv1
  case ylv1 => intro W hSw; go_simp; try with_reducible rfl
  try simp only [Act.put, List.setIfInBounds_toArray, List.set_cons_zero, List.set_cons_succ]
  refine takeH 1 (v := ?vlv2) rfl (by kernel_rfl) (by kernel_rfl) (by kernel_rfl) (fun _ _ _ h => h) hH rfl ?ylv2 ?rlv2
  case ylv2 => intro W hSw; go_simp; try with_reducible rfl
  try simp only [Act.put, List.setIfInBounds_toArray, List.set_cons_zero, List.set_cons_succ]
  refine takeH 2 (v := ?vlv3) rfl (by kernel_rfl) (by kernel_rfl) (by kernel_rfl) (fun _ _ _ h => h) hH rfl ?ylv3 ?rlv3
  case ylv3 => intro W hSw; go_simp; try with_reducible rfl
  try simp only [Act.put, List.setIfInBounds_toArray, List.set_cons_zero, List.set_cons_succ]
  refine takeH 4 (v := ?vlv4) rfl (by kernel_rfl) (by kernel_rfl) (by kernel_rfl) (fun _ _ _ h => h) hH rfl ?ylv4 ?rlv4
  case ylv4 => intro W hSw; go_simp; try with_reducible rfl
  try simp only [Act.put, List.setIfInBounds_toArray, List.set_cons_zero, List.set_cons_succ]
  refine takeH 5 (v := ?vlv5) rfl (by kernel_rfl) (by kernel_rfl) (by kernel_rfl) (fun _ _ _ h => h) hH rfl ?ylv5 ?rlv5
  case ylv5 => intro W hSw; go_simp; try with_reducible rfl
  try simp only [Act.put, List.setIfInBounds_toArray, List.set_cons_zero, List.set_cons_succ]
  refine takeH 6 (v := ?vlv6) rfl (by kernel_rfl) (by kernel_rfl) (by kernel_rfl) (fun _ _ _ h => h) hH rfl ?ylv6 ?rlv6
  case ylv6 => intro W hSw; go_simp; try with_reducible rfl
  try simp only [Act.put, List.setIfInBounds_toArray, List.set_cons_zero, List.set_cons_succ]
  refine takeH 7 (v := ?vlv7) rfl (by kernel_rfl) (by kernel_rfl) (by kernel_rfl) (fun _ _ _ h => h) hH rfl ?ylv7 ?rlv7
  case ylv7 => intro W hSw; go_simp; try with_reducible rfl
  try simp only [Act.put, List.setIfInBounds_toArray, List.set_cons_zero, List.set_cons_succ]
  refine callH 3 rfl (by kernel_rfl) rfl (fun K hK => ?_)
  go_simp
  refine (HS.out _ _ S9.out).mono ?_
  rintro e w5 ⟨rfl, rfl⟩
  refine hK.out _ _ S9.out.fees (fun hH => ?_)
  clear hK K
  try simp only [Act.put, List.setIfInBounds_toArray, List.set_cons_zero, List.set_cons_succ]
  refine takeH 8 (v := .int .i64 (S + n)) rfl (by kernel_rfl) (by kernel_rfl) (by kernel_rfl) (fun _ _ _ h => h) hH rfl ?ylv8 ?rlv8
  case ylv8 => intro W hSw; go_simp; first | done | (simp [hwr])
  try simp only [Act.put, List.setIfInBounds_toArray, List.set_cons_zero, List.set_cons_succ]
  refine takeH 9 (v := ?vlv9) rfl (by kernel_rfl) (by kernel_rfl) (by kernel_rfl) (fun _ _ _ h => h) hH rfl ?ylv9 ?rlv9
  case ylv9 => intro W hSw; go_simp; try with_reducible rfl
  try simp only [Act.put, List.setIfInBounds_toArray, List.set_cons_zero, List.set_cons_succ]
  refine wpAnyH_done (by kernel_rfl) ?_ _
  try simp only [Act.put]
  clear hH
  go_wp2
  go_ret
  exact ⟨ret_int Hr.out.symm, Hb.out⟩

set_option maxHeartbeats 2000000 in
theorem spec_LedgerApply (a : Option Addr) (cap : Nat) (l : List Int) (n : Int) (x : Tx) (w : World) (hbig : l.length ≤ 1099511627776) (hl : IntsAt w a l) (hsrc : SrcAt w a cap l) :
    Calls Try.prog 18 #[.agg #[.slice a l.length cap, .int .i64 n], agT x] w (LaP 3 w l n x) := by
  have hb0 : Below w.heap.size w (((w.alloc (.cells #[.slice a l.length cap, .int .i64 n] 33)).alloc (.cells #[.int .i64 x.f, .int .i64 x.t, .int .i64 x.s, .int .i64 x.e] 25)).alloc (.cells #[.slice none 0 0, .int .i64 0] 33)) := (((Below.refl _ _).alloc (Nat.le_refl _) _).alloc (by simp only [World.size_alloc]; omega) _).alloc (by simp only [World.size_alloc]; omega) _
  have s1 := ((Str.new w 33 #[.slice a l.length cap, .int .i64 n]).alloc (.cells #[.int .i64 x.f, .int .i64 x.t, .int .i64 x.s, .int .i64 x.e] 25)).alloc (.cells #[.slice none 0 0, .int .i64 0] 33)
  have s2 := (Str.new (w.alloc (.cells #[.slice a l.length cap, .int .i64 n] 33)) 25 #[.int .i64 x.f, .int .i64 x.t, .int .i64 x.s, .int .i64 x.e]).alloc (.cells #[.slice none 0 0, .int .i64 0] 33)
  have s3 := Str.new ((w.alloc (.cells #[.slice a l.length cap, .int .i64 n] 33)).alloc (.cells #[.int .i64 x.f, .int .i64 x.t, .int .i64 x.s, .int .i64 x.e] 25)) 33 #[.slice none 0 0, .int .i64 0]
  simp only [World.size_alloc] at s2 s3
  have hl0 := hl.below hb0
  have hz : (((w.alloc (.cells #[.slice a l.length cap, .int .i64 n] 33)).alloc (.cells #[.int .i64 x.f, .int .i64 x.t, .int .i64 x.s, .int .i64 x.e] 25)).alloc (.cells #[.slice none 0 0, .int .i64 0] 33)).heap.size = w.heap.size + 3 := by simp
  have k0 := s1.cell 0 (v := .slice a l.length cap) rfl
  have k1 := s1.cell 1 (v := .int .i64 n) rfl
  have S1 := Lib.hid s1; have S2 := Lib.hid s2; have S3 := Lib.hid s3; have Hb := Lib.hid hb0; have Hl := Lib.hid hl0; have Hsrc := Lib.hid (hsrc.lies hl hb0); clear s1 s2 s3 hb0 hl0 hl hsrc
  have hno : ∀ e w', roomB l n 1 = false → e = .returned (.tuple #[.agg #[.slice none 0 0, .int .i64 0], .bool false]) → Below w.heap.size w w' → LaP 3 w l n x e w' := fun _ _ h he hb => LaP.no h he hb
  have hyes : ∀ e w' v, roomB l n 1 = true → e = .returned (.tuple #[.agg #[v, .int .i64 (apF l n x)], .bool (okT l x)]) → Own 3 w' w.heap.size v (apL l x) → Below w.heap.size w w' → LaP 3 w l n x e w' := fun _ _ _ h he ho hb => LaP.yes h he ho hb
  have Hno := Lib.hid hno; have Hyes := Lib.hid hyes; clear hno hyes
  generalize LaP 3 w l n x = POST at *
  unfold agT
  have hR := fun W (h : IntsAt W a l) => spec_l31Room a cap l n 1 W hbig h (by omega)
  have hbr : roomB l n 1 = true ∨ roomB l n 1 = false := by cases roomB l n 1 <;> simp
  rcases hbr with hbr | hbr
  case inr =>
    rw [hbr] at hR
    have HR := Lib.hid hR; have Hr := Lib.hid hbr; clear hR hbr
    go_enter Try.func18, Try.ntmps18
    go_wp2_with fail
    generalize (((w.alloc (.cells #[.slice a l.length cap, .int .i64 n] 33)).alloc (.cells #[.int .i64 x.f, .int .i64 x.t, .int .i64 x.s, .int .i64 x.e] 25)).alloc (.cells #[.slice none 0 0, .int .i64 0] 33)) = W0 at *
    refine (HR.out _ Hl.out).mono ?_
    rintro e w1 ⟨rfl, hb1⟩
    have Hb := Lib.hid (below_step Hb.out Hb.out.size hb1)
    have S3 := Lib.hid (show Str w1 (w.heap.size + 2) 33 #[.slice none 0 0, .int .i64 0] from (hb1.block _ S3.out.lt).trans S3.out)
    clear hb1 k0 k1 S1 S2
    have y0 := S3.out.frozen 0
    have y1 := S3.out.frozen 1
    have v0 := S3.out.cell 0 (v := .slice none 0 0) rfl
    have v1 := S3.out.cell 1 (v := .int .i64 0) rfl
    have sF := (S3.out.set 0 (.slice none 0 0)).set 1 (.int .i64 0)
    have bF := (Hb.out.setCell (p := ⟨w.heap.size + 2, 0, none⟩) (by simp only; omega) (.slice none 0 0)).setCell (p := ⟨w.heap.size + 2, 1, none⟩) (by simp only; omega) (.int .i64 0)
    have e0 := sF.cell 0 (v := .slice none 0 0) rfl
    have e1 := sF.cell 1 (v := .int .i64 0) rfl
    have BF := Lib.hid bF; clear bF sF
    go_wp2
    refine bodyPost_ret (v := .tuple #[.agg #[.slice none 0 0, .int .i64 0], .bool false]) (by simp [results, Try.f18, go_sem, e0, e1]) rfl ?_
    exact Hno.out _ _ Hr.out rfl BF.out
  rw [hbr] at hR
  have HA := Lib.hid (fun W (h : IntsAt W a l) (h2 : SrcAt W a cap l) => spec_l31Apply a cap l n x W (room_iff.1 hbr).1 h h2)
  have HR := Lib.hid hR; have Hr := Lib.hid hbr; clear hR hbr
  unfold ApP agT at HA
  go_enter Try.func18, Try.ntmps18
  go_wp2_with fail
  generalize (((w.alloc (.cells #[.slice a l.length cap, .int .i64 n] 33)).alloc (.cells #[.int .i64 x.f, .int .i64 x.t, .int .i64 x.s, .int .i64 x.e] 25)).alloc (.cells #[.slice none 0 0, .int .i64 0] 33)) = W0 at *
  refine (HR.out _ Hl.out).mono ?_
  rintro e w1 ⟨rfl, hb1⟩
  have Hb := Lib.hid (below_step Hb.out Hb.out.size hb1)
  have S1 := Lib.hid (show Str w1 (w.heap.size) 33 #[.slice a l.length cap, .int .i64 n] from (hb1.block _ S1.out.lt).trans S1.out)
  have S2 := Lib.hid (show Str w1 (w.heap.size + 1) 25 #[.int .i64 x.f, .int .i64 x.t, .int .i64 x.s, .int .i64 x.e] from (hb1.block _ S2.out.lt).trans S2.out)
  have S3 := Lib.hid (show Str w1 (w.heap.size + 2) 33 #[.slice none 0 0, .int .i64 0] from (hb1.block _ S3.out.lt).trans S3.out)
  have Hsrc := Lib.hid (Hsrc.out.lies Hl.out hb1)
  have Hl := Lib.hid (Hl.out.below hb1)
  have hs1 := hb1.size
  clear hb1 k0 k1
  have k0 := S1.out.cell 0 (v := .slice a l.length cap) rfl
  have k1 := S1.out.cell 1 (v := .int .i64 n) rfl
  have x0 := S2.out.cell 0 (v := .int .i64 x.f) rfl
  have x1 := S2.out.cell 1 (v := .int .i64 x.t) rfl
  have x2 := S2.out.cell 2 (v := .int .i64 x.s) rfl
  have x3 := S2.out.cell 3 (v := .int .i64 x.e) rfl
  go_wp2_with fail
  refine (HA.out _ Hl.out Hsrc.out).mono ?_
  rintro e w2 ⟨v, rfl, ho, hb2⟩
  obtain ⟨ua, uc, rfl, _, _⟩ := ho.ints
  have OL := Lib.hid ho
  have Hb := Lib.hid (below_step Hb.out Hb.out.size hb2)
  have S3 := Lib.hid (show Str w2 (w.heap.size + 2) 33 #[.slice none 0 0, .int .i64 0] from (hb2.block _ S3.out.lt).trans S3.out)
  clear hb2 ho k0 k1 x0 x1 x2 x3 S1 S2
  have hne : (Value.slice ua (apL l x).length uc).ownBlock ≠ some (w.heap.size + 2) := fun e => by have := (OL.out.lt _ e).1; omega
  have y0 := S3.out.frozen 0
  have y1 := S3.out.frozen 1
  have v0 := S3.out.cell 0 (v := .slice none 0 0) rfl
  have v1 := S3.out.cell 1 (v := .int .i64 0) rfl
  have sF := (S3.out.set 0 (.slice ua (apL l x).length uc)).set 1 (.int .i64 (apF l n x))
  have oF := (OL.out.set_other hne 0 (.slice ua (apL l x).length uc)).set_other hne 1 (.int .i64 (apF l n x))
  have bF := (Hb.out.setCell (p := ⟨w.heap.size + 2, 0, none⟩) (by simp only; omega) (.slice ua (apL l x).length uc)).setCell (p := ⟨w.heap.size + 2, 1, none⟩) (by simp only; omega) (.int .i64 (apF l n x))
  have e0 := sF.cell 0 (v := .slice ua (apL l x).length uc) rfl
  have e1 := sF.cell 1 (v := .int .i64 (apF l n x)) rfl
  have OF := Lib.hid (oF.mono (show w.heap.size ≤ _ by omega)); have BF := Lib.hid bF; clear bF sF oF hne
  go_wp2
  refine bodyPost_ret (v := .tuple #[.agg #[.slice ua (apL l x).length uc, .int .i64 (apF l n x)], .bool (okT l x)]) (by simp [results, Try.f18, go_sem, e0, e1]) rfl ?_
  exact Hyes.out _ _ _ Hr.out rfl OF.out BF.out

set_option maxHeartbeats 4000000 in
theorem impl_LedgerApply (a : Option Addr) (cap : Nat) (l : List Int) (n : Int) (x : Tx) (w : World) (hbig : l.length ≤ 1099511627776) (hl : IntsAt w a l) :
    Calls Try.prog 19 #[.agg #[.slice a l.length cap, .int .i64 n], agT x] w (LaP 3 w l n x) := by
  have hb0 : Below w.heap.size w (((w.alloc (.cells #[.slice a l.length cap, .int .i64 n] 33)).alloc (.cells #[.int .i64 x.f, .int .i64 x.t, .int .i64 x.s, .int .i64 x.e] 25)).alloc (.cells #[.slice none 0 0, .int .i64 0] 33)) := (((Below.refl _ _).alloc (Nat.le_refl _) _).alloc (by simp only [World.size_alloc]; omega) _).alloc (by simp only [World.size_alloc]; omega) _
  have s1 := ((Str.new w 33 #[.slice a l.length cap, .int .i64 n]).alloc (.cells #[.int .i64 x.f, .int .i64 x.t, .int .i64 x.s, .int .i64 x.e] 25)).alloc (.cells #[.slice none 0 0, .int .i64 0] 33)
  have s2 := (Str.new (w.alloc (.cells #[.slice a l.length cap, .int .i64 n] 33)) 25 #[.int .i64 x.f, .int .i64 x.t, .int .i64 x.s, .int .i64 x.e]).alloc (.cells #[.slice none 0 0, .int .i64 0] 33)
  have s3 := Str.new ((w.alloc (.cells #[.slice a l.length cap, .int .i64 n] 33)).alloc (.cells #[.int .i64 x.f, .int .i64 x.t, .int .i64 x.s, .int .i64 x.e] 25)) 33 #[.slice none 0 0, .int .i64 0]
  simp only [World.size_alloc] at s2 s3
  have hl0 := hl.below hb0
  have hz : (((w.alloc (.cells #[.slice a l.length cap, .int .i64 n] 33)).alloc (.cells #[.int .i64 x.f, .int .i64 x.t, .int .i64 x.s, .int .i64 x.e] 25)).alloc (.cells #[.slice none 0 0, .int .i64 0] 33)).heap.size = w.heap.size + 3 := by simp
  have k0 := s1.cell 0 (v := .slice a l.length cap) rfl
  have k1 := s1.cell 1 (v := .int .i64 n) rfl
  have S1 := Lib.hid s1; have S2 := Lib.hid s2; have S3 := Lib.hid s3; have Hb := Lib.hid hb0; have Hl := Lib.hid hl0; clear s1 s2 s3 hb0 hl0 hl
  have hno : ∀ e w', roomB l n 1 = false → e = .returned (.tuple #[.agg #[.slice none 0 0, .int .i64 0], .bool false]) → Below w.heap.size w w' → LaP 3 w l n x e w' := fun _ _ h he hb => LaP.no h he hb
  have hyes : ∀ e w' v, roomB l n 1 = true → e = .returned (.tuple #[.agg #[v, .int .i64 (apF l n x)], .bool (okT l x)]) → Own 3 w' w.heap.size v (apL l x) → Below w.heap.size w w' → LaP 3 w l n x e w' := fun _ _ _ h he ho hb => LaP.yes h he ho hb
  have Hno := Lib.hid hno; have Hyes := Lib.hid hyes; clear hno hyes
  generalize LaP 3 w l n x = POST at *
  unfold agT
  have hbv : ldB l n = true ∨ ldB l n = false := by cases ldB l n <;> simp
  rcases hbv with hbv | hbv
  case inr =>
    have HN := Lib.hid (fun W (h : IntsAt W a l) => lg_ledgerOf_no a cap l n W hbig h hbv)
    have Hr := Lib.hid (show roomB l n 1 = false by unfold roomB; rw [hbv]; rfl)
    clear hbv
    go_enter Try.func19, Try.ntmps19
    go_wp2_with fail
    generalize (((w.alloc (.cells #[.slice a l.length cap, .int .i64 n] 33)).alloc (.cells #[.int .i64 x.f, .int .i64 x.t, .int .i64 x.s, .int .i64 x.e] 25)).alloc (.cells #[.slice none 0 0, .int .i64 0] 33)) = W0 at *
    refine (HN.out _ Hl.out).mono ?_
    rintro e w1 ⟨rfl, hb1⟩
    have Hb := Lib.hid (below_step Hb.out Hb.out.size hb1)
    have S3 := Lib.hid (show Str w1 (w.heap.size + 2) 33 #[.slice none 0 0, .int .i64 0] from (hb1.block _ S3.out.lt).trans S3.out)
    clear hb1 k0 k1 S1 S2
    have y0 := S3.out.frozen 0
    have y1 := S3.out.frozen 1
    have v0 := S3.out.cell 0 (v := .slice none 0 0) rfl
    have v1 := S3.out.cell 1 (v := .int .i64 0) rfl
    have sF := (S3.out.set 0 (.slice none 0 0)).set 1 (.int .i64 0)
    have bF := (Hb.out.setCell (p := ⟨w.heap.size + 2, 0, none⟩) (by simp only; omega) (.slice none 0 0)).setCell (p := ⟨w.heap.size + 2, 1, none⟩) (by simp only; omega) (.int .i64 0)
    have e0 := sF.cell 0 (v := .slice none 0 0) rfl
    have e1 := sF.cell 1 (v := .int .i64 0) rfl
    have BF := Lib.hid bF; clear bF sF
    go_wp2
    refine bodyPost_ret (v := .tuple #[.agg #[.slice none 0 0, .int .i64 0], .bool false]) (by simp [results, Try.f19, go_sem, e0, e1]) rfl ?_
    exact Hno.out _ _ Hr.out rfl BF.out
  have HY := Lib.hid (fun W (h : IntsAt W a l) => lg_ledgerOf a cap l n W hbig h hbv)
  obtain ⟨-, h6, hn0, hn1⟩ := ldB_iff.1 hbv
  have H6 := Lib.hid h6; clear h6
  have HP := fun W B (h : Lg 66 W B l n) => lg_hasSpace B l n 1 W ⟨hn0, hn1⟩ (by omega) h
  have HE := Lib.hid (fun W B (h : Lg 66 W B l n) => lg_execute B l n x W hbv h)
  unfold agT at HE
  have Hv := Lib.hid hbv; clear hbv
  by_cases hsp : n ≤ 5985
  case neg =>
    have Hr := Lib.hid (show roomB l n 1 = false by unfold roomB; rw [decide_eq_false (show ¬ n ≤ 5994 - 9 * 1 by omega), Bool.and_false])
    rw [decide_eq_false (show ¬ n ≤ 5994 - 9 * 1 by omega)] at HP
    have HP := Lib.hid HP
    clear HE hsp
    go_enter Try.func19, Try.ntmps19
    go_wp2_with fail
    generalize (((w.alloc (.cells #[.slice a l.length cap, .int .i64 n] 33)).alloc (.cells #[.int .i64 x.f, .int .i64 x.t, .int .i64 x.s, .int .i64 x.e] 25)).alloc (.cells #[.slice none 0 0, .int .i64 0] 33)) = W0 at *
    refine (HY.out _ Hl.out).mono ?_
    rintro e w1 ⟨B, rfl, hB1, hB2, hs, hb1⟩
    have Hb := Lib.hid (below_step Hb.out Hb.out.size hb1)
    have S3 := Lib.hid (show Str w1 (w.heap.size + 2) 33 #[.slice none 0 0, .int .i64 0] from (hb1.block _ S3.out.lt).trans S3.out)
    have S9 := Lib.hid hs
    have hB3 : w.heap.size + 3 ≤ B := by omega
    clear hb1 k0 k1 hs
    clear S1 S2
    go_wp2_with fail
    refine (HP.out _ _ S9.out).mono ?_
    rintro e w2 ⟨rfl, rfl⟩
    have y0 := S3.out.frozen 0
    have y1 := S3.out.frozen 1
    have v0 := S3.out.cell 0 (v := .slice none 0 0) rfl
    have v1 := S3.out.cell 1 (v := .int .i64 0) rfl
    have sF := (S3.out.set 0 (.slice none 0 0)).set 1 (.int .i64 0)
    have bF := (Hb.out.setCell (p := ⟨w.heap.size + 2, 0, none⟩) (by simp only; omega) (.slice none 0 0)).setCell (p := ⟨w.heap.size + 2, 1, none⟩) (by simp only; omega) (.int .i64 0)
    have e0 := sF.cell 0 (v := .slice none 0 0) rfl
    have e1 := sF.cell 1 (v := .int .i64 0) rfl
    have BF := Lib.hid bF; clear bF sF
    go_wp2
    refine bodyPost_ret (v := .tuple #[.agg #[.slice none 0 0, .int .i64 0], .bool false]) (by simp [results, Try.f19, go_sem, e0, e1]) rfl ?_
    exact Hno.out _ _ Hr.out rfl BF.out
  have Hr := Lib.hid (show roomB l n 1 = true by unfold roomB; rw [Hv.out, decide_eq_true (show n ≤ 5994 - 9 * 1 by omega)]; rfl)
  rw [decide_eq_true (show n ≤ 5994 - 9 * 1 by omega)] at HP
  have HP := Lib.hid HP
  clear hsp
  have HC := Lib.hid (fun W B (h : Lg 66 W B (apL l x) (apF l n x)) => lg_copied B (apL l x) (apF l n x) W (by rw [ap_len]; exact H6.out) h)
  go_enter Try.func19, Try.ntmps19
  go_wp2_with fail
  generalize (((w.alloc (.cells #[.slice a l.length cap, .int .i64 n] 33)).alloc (.cells #[.int .i64 x.f, .int .i64 x.t, .int .i64 x.s, .int .i64 x.e] 25)).alloc (.cells #[.slice none 0 0, .int .i64 0] 33)) = W0 at *
  refine (HY.out _ Hl.out).mono ?_
  rintro e w1 ⟨B, rfl, hB1, hB2, hs, hb1⟩
  have Hb := Lib.hid (below_step Hb.out Hb.out.size hb1)
  have S2 := Lib.hid (show Str w1 (w.heap.size + 1) 25 #[.int .i64 x.f, .int .i64 x.t, .int .i64 x.s, .int .i64 x.e] from (hb1.block _ S2.out.lt).trans S2.out)
  have S3 := Lib.hid (show Str w1 (w.heap.size + 2) 33 #[.slice none 0 0, .int .i64 0] from (hb1.block _ S3.out.lt).trans S3.out)
  have S9 := Lib.hid hs
  have hB3 : w.heap.size + 3 ≤ B := by omega
  clear hb1 k0 k1 hs
  clear S1
  go_wp2_with fail
  refine (HP.out _ _ S9.out).mono ?_
  rintro e w2 ⟨rfl, rfl⟩
  have x0 := S2.out.cell 0 (v := .int .i64 x.f) rfl
  have x1 := S2.out.cell 1 (v := .int .i64 x.t) rfl
  have x2 := S2.out.cell 2 (v := .int .i64 x.s) rfl
  have x3 := S2.out.cell 3 (v := .int .i64 x.e) rfl
  go_wp2_with fail
  refine (HE.out _ _ S9.out).mono ?_
  rintro e w2 ⟨rfl, hs2, hg2⟩
  have S3 := Lib.hid (show Str w2 (w.heap.size + 2) 33 #[.slice none 0 0, .int .i64 0] from S3.out.kept hg2 (by simp; omega))
  have S9 := Lib.hid hs2
  have Hb := Lib.hid (Hb.out.grown hg2 Hb.out.size (fun g e => by cases e; omega))
  have hs2' := hg2.size
  clear hg2 hs2 x0 x1 x2 x3 S2
  go_wp2_with fail
  refine (HC.out _ _ S9.out).mono ?_
  rintro e w3 ⟨v, rfl, ho, hb3⟩
  obtain ⟨ua, uc, rfl, _, _⟩ := ho.ints
  have OL := Lib.hid ho
  have Hb := Lib.hid (below_step Hb.out Hb.out.size hb3)
  have S3 := Lib.hid (show Str w3 (w.heap.size + 2) 33 #[.slice none 0 0, .int .i64 0] from (hb3.block _ S3.out.lt).trans S3.out)
  clear hb3 ho S9
  have hne : (Value.slice ua (apL l x).length uc).ownBlock ≠ some (w.heap.size + 2) := fun e => by have := (OL.out.lt _ e).1; omega
  have y0 := S3.out.frozen 0
  have y1 := S3.out.frozen 1
  have v0 := S3.out.cell 0 (v := .slice none 0 0) rfl
  have v1 := S3.out.cell 1 (v := .int .i64 0) rfl
  have sF := (S3.out.set 0 (.slice ua (apL l x).length uc)).set 1 (.int .i64 (apF l n x))
  have oF := (OL.out.set_other hne 0 (.slice ua (apL l x).length uc)).set_other hne 1 (.int .i64 (apF l n x))
  have bF := (Hb.out.setCell (p := ⟨w.heap.size + 2, 0, none⟩) (by simp only; omega) (.slice ua (apL l x).length uc)).setCell (p := ⟨w.heap.size + 2, 1, none⟩) (by simp only; omega) (.int .i64 (apF l n x))
  have e0 := sF.cell 0 (v := .slice ua (apL l x).length uc) rfl
  have e1 := sF.cell 1 (v := .int .i64 (apF l n x)) rfl
  have OF := Lib.hid (oF.mono (show w.heap.size ≤ _ by omega)); have BF := Lib.hid bF; clear bF sF oF hne
  go_wp2
  refine bodyPost_ret (v := .tuple #[.agg #[.slice ua (apL l x).length uc, .int .i64 (apF l n x)], .bool (okT l x)]) (by simp [results, Try.f19, go_sem, e0, e1]) rfl ?_
  exact Hyes.out _ _ _ Hr.out rfl OF.out BF.out

end Go.Proofs.Ytadgdjjibmofpab

/- A region that draws its order and keeps a condition up to its last operation: either of two operations may come up next. A general step; nothing here speaks of the program. -/
namespace Go.Proofs.Ytadgdjjibmofpab
open Go.RowKit
section
variable {P : Program} {md : Region.Mode} {l : List Oper} {Q : Exit → Act → World → Prop} {S : World → Prop} {oi oj : Oper} {rest rest' : List Oper} {fuel m : Nat} {listed : Array Bool} {a : Act} {w : World}
/-- Number i or number j may come up, neither is the last. -/
theorem twoL (i j : Nat) (hi : l.drop i = oi :: rest) (hj : l.drop j = oj :: rest') (hr : Region.ready md l.toArray listed = [i, j]) (hw : Region.wanted oi (yielded l.toArray a.tmps) = true) (hw' : Region.wanted oj (yielded l.toArray a.tmps) = true)
    (h : ∀ K' : Act → World → Prop, Shut (∀ a w, S w → (S w → wpAnyL P md l.toArray Q m S fuel (listed.setIfInBounds i true) a w) → K' a w) → Oper.wp P oi a w K' Q)
    (h' : ∀ K' : Act → World → Prop, Shut (∀ a w, S w → (S w → wpAnyL P md l.toArray Q m S fuel (listed.setIfInBounds j true) a w) → K' a w) → Oper.wp P oj a w K' Q) : wpAnyL P md l.toArray Q m S (fuel + 1) listed a w := by
  refine ⟨fun h0 => absurd (hr ▸ h0) (by simp), fun k hk => ?_⟩
  rw [hr] at hk
  have hk' : k = i ∨ k = j := by simpa using hk
  rcases hk' with e | e
  · subst e
    exact wpOp_step (drop_at hi) fun K' hK => by rw [if_pos hw]; exact h K' fun a w hS hW => hK a w ⟨fun _ => hS, hW hS⟩
  · subst e
    exact wpOp_step (drop_at hj) fun K' hK => by rw [if_pos hw']; exact h' K' fun a w hS hW => hK a w ⟨fun _ => hS, hW hS⟩
end
end Go.Proofs.Ytadgdjjibmofpab
