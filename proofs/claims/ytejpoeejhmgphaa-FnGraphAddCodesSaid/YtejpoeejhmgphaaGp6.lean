/- impl's list of a graph of pointers, by a walk of its text; conditions: lists are shorter than 2^40 (a graph: 2^20), the graph's vertices lie in order and in range. -/
import Derived.Test.YtejpoeejhmgphaaRows
import Derived.Test.YtejpoeejhmgphaaGp5
import Derived.Deep.MidRow
import Derived.Laws.Rows
import Derived.Laws.CopyRow
namespace Go.Proofs.Ytejpoeejhmgphaa
open Go.RowKit

theorem arrP_extract (n : Nat) (f : Nat → Value) (o k : Nat) (h : o + k ≤ n) : (arrP n f).extract o (o + k) = arrP k fun a => f (o + a) := by
  apply Array.ext
  · simp [arrP]; omega
  · intro j h1 h2
    simp [arrP]
theorem arrP_one {n : Nat} {f : Nat → Value} (h : ∀ i, i < n → (f i).oneCell' = true) : (arrP n f).all (·.oneCell') = true := by
  rw [Array.all_eq_true_iff_forall_mem]
  intro v hv
  simp only [arrP, List.mem_toArray, List.mem_map, List.mem_range] at hv
  obtain ⟨i, hi, rfl⟩ := hv
  exact h i hi
theorem run_index_row {P : Program} {T E : TypeId} {n k s : Nat} {d : TypeDesc} {cs : Array Value} (hu : P.underlying T = some (.array n E)) (hE : P.underlying E = some d) (hd : (match d with | .struct _ | .array _ _ => true | _ => false) = true)
    (hs : (P.info? E).map (·.size) = some s) (hk : k < n) (w : World) : (Instr.index T (.agg cs) (.int .i64 k)).run P w = .ok (.agg (cs.extract (k * s) (k * s + s))) w := by
  have h1 := run_underlying hu w
  have h2 : (isAgg E).run P w = .ok true w := by
    unfold isAgg; rw [Sem.run_bind, run_underlying hE w]; cases d <;> simp_all
  cases hq : P.info? E with
  | none => simp [hq] at hs
  | some i =>
    have hz : i.size = s := by simpa [hq] using hs
    simp [Instr.index, asIntOf, Sem.run_bind, h1, part, h2, sizeOf, typeInfo, hq, hz, hk]
theorem run_index_one {P : Program} {T E : TypeId} {n k : Nat} {d : TypeDesc} {cs : Array Value} {v : Value} (hu : P.underlying T = some (.array n E)) (hE : P.underlying E = some d) (hd : (match d with | .struct _ | .array _ _ => true | _ => false) = false)
    (hs : (P.info? E).map (·.size) = some 1) (hk : k < n) (hc : cs[k]? = some v) (w : World) : (Instr.index T (.agg cs) (.int .i64 k)).run P w = .ok v w := by
  have h1 := run_underlying hu w
  have h2 : (isAgg E).run P w = .ok false w := by
    unfold isAgg; rw [Sem.run_bind, run_underlying hE w]; cases d <;> simp_all
  cases hq : P.info? E with
  | none => simp [hq] at hs
  | some i =>
    have hz : i.size = 1 := by simpa [hq] using hs
    simp [Instr.index, asIntOf, Sem.run_bind, h1, part, h2, sizeOf, typeInfo, hq, hz, hk, hc]
theorem setRow_strP {W : World} {B : Nat} {t : TypeId} {vs : Array Value} (h : Str W B t vs) (cs : Array Value) : Str (W.setRow B cs) B t cs := setRow_heap W B vs cs t (0, 0) h
theorem grownBy_setRowP (W : World) (B : Nat) (cs : Array Value) : W.grownBy (W.setRow B cs) (some B) := ⟨rfl, rfl, rfl, by simp [World.setRow], fun k _ hk => setRow_other W B k cs (fun e => hk (by rw [e]))⟩

theorem Lk.cases {w0 w : World} {hi G : Nat} {mv : Value} {h : Nat → Value} {g : List Vx} (l : Lk w0 w hi G mv h g) (r a : Nat) (hr : r < 31) (ha : a < 7) :
    (∃ y ∈ g, y.r = r ∧ y.a = a ∧ ∃ q, h (1 + (r * 7 + a)) = ptrV q ∧ Nd w0 w hi G h q y) ∨ (h (1 + (r * 7 + a)) = .pointer none ∧ ∀ y ∈ g, ¬ (y.r = (r : Int) ∧ y.a = (a : Int))) := by
  have hp : plN (r : Int) (a : Int) = 1 + (r * 7 + a) := by unfold plN; simp
  by_cases he : ∃ y ∈ g, y.r = r ∧ y.a = a
  · obtain ⟨y, hy, er, ea⟩ := he
    obtain ⟨q, hq, hn⟩ := l.has y hy
    rw [er, ea, hp] at hq
    exact .inl ⟨y, hy, er, ea, q, hq, hn⟩
  · have hn : ∀ y ∈ g, ¬ (y.r = (r : Int) ∧ y.a = (a : Int)) := fun y hy e => he ⟨y, hy, e⟩
    have := l.non r a (by omega) (by omega) (by omega) (by omega) hn
    rw [hp] at this
    exact .inr ⟨this, hn⟩
theorem Lk.one {w0 w : World} {hi G : Nat} {mv : Value} {h : Nat → Value} {g : List Vx} (l : Lk w0 w hi G mv h g) (i : Nat) (hi : i < 217) : (h (1 + i)).oneCell' = true := by
  have e : i = i / 7 * 7 + i % 7 := by omega
  rcases l.cases (i / 7) (i % 7) (by omega) (by omega) with ⟨_, _, _, _, q, hq, _⟩ | ⟨hq, _⟩
  · rw [← e] at hq; rw [hq]; rfl
  · rw [← e] at hq; rw [hq]; rfl

set_option maxRecDepth 8000 in
set_option maxHeartbeats 4000000 in
theorem graph_list (w0 w : World) (hi G : Nat) (mv : Value) (h : Nat → Value) (g : List Vx) (hb : Below w0.heap.size w0 w) (hL : Lk w0 w hi G mv h g) (hsrt : Srt g) (hin : ∀ y ∈ g, inPl y) (hgp : ∀ y ∈ g, y.ps.length ≤ 1099511627776) (hbig : g.length ≤ 1048577) :
    Calls Try.prog 42 #[.pointer (some ⟨G, 0, none⟩)] w fun e w' => ∃ u, e = .returned u ∧ OwnR 30 3 4 w' w.heap.size w'.heap.size u (g.map Vx.fd) ∧ Below w.heap.size w w' := by
  have hb0 : Below w.heap.size w (w.alloc (.cells #[] 30)) := (Below.refl _ _).alloc (Nat.le_refl _) _
  have hv0 : OwnR 30 3 4 (w.alloc (.cells #[] 30)) w.heap.size (w.alloc (.cells #[] 30)).heap.size (.slice (some ⟨w.heap.size, 0, none⟩) 0 0) [] := .nil (World.ownsRow_made w #[] 0 (Nat.le_refl _) (by simp) (by simp)) (fun g e => by cases e; simp)
  have hrange : (w.alloc (.cells #[] 30)).rangeAt G 1 (arrP 217 fun i => h (1 + i)).toList := by
    have h1 := World.rangeAt_of_block (hL.under hb0).str 1 217
    rwa [arrP_extract 218 h 1 217 (by omega)] at h1
  have HL := Lib.hid (fun W (hW : Below w.heap.size w W) => hL.under hW)
  have H1 := Lib.hid hL.one
  have Hv0 := Lib.hid hv0; clear hv0
  have Hz := Lib.hid (outZ_zero hin)
  have Hrow := Lib.hid (outZ_row hin)
  have Hend := Lib.hid (outZ_end hin)
  have Hyes := Lib.hid (fun (r a : Nat) (x : Vx) => outZ_yes (r := r) (a := a) (x := x) hsrt)
  have Hno := Lib.hid (fun (r a : Nat) => outZ_no (r := r) (a := a) hsrt)
  have Hgp := Lib.hid hgp
  have HB := Lib.hid hb
  have Hrange := Lib.hid hrange
  have hlen := outZ_len g
  have Hlen := Lib.hid hlen
  clear hb hL hsrt hin hgp hrange hlen
  go_enter Try.func42, Try.ntmps42
  go_wp2_with (refine wpList_load_mid rfl 67 _ rfl G 1 rfl (arrP 217 fun i => h (1 + i)).toList _ Hrange.out Try.underlying67 rfl (by rw [Array.length_toList, arrP_size]; kernel_rfl) ?_)
  generalize hcs : arrP 217 (fun i => h (1 + i)) = cs
  have Hcs := Lib.hid hcs; clear hcs
  clear Hrange
  go_loopw [3, 13] (fun u i wr => ∃ r : Nat, r ≤ 31 ∧ i = .int .i64 r ∧ OwnR 30 3 4 wr w.heap.size wr.heap.size u ((outZ g r 0).map Vx.fd) ∧ Below w.heap.size w wr) (fun _ i _ => 31 - (intOf i).toNat)
  case atStart => exact ⟨0, Nat.zero_le _, rfl, by rw [Hz.out]; exact Hv0.out, hb0⟩
  case round =>
    obtain ⟨r, hk, rfl, hbld, hbel⟩ := hrel
    obtain ⟨Wo, hWo⟩ : ∃ Wo, Wo = wr := ⟨_, rfl⟩
    subst hWo
    clear hb0
    by_cases hlt : r < 31
    · have hlt' : (r : Int) < 31 := by omega
      have hx1 := fun W => run_index_row (P := Try.prog) (cs := cs) Try.underlying67 Try.underlying65 rfl (s := 7) (by kernel_rfl) hlt W
      rw [← Hcs.out, arrP_extract 217 _ (r * 7) 7 (by omega), Hcs.out] at hx1
      generalize hrw : arrP 7 (fun a => h (1 + (r * 7 + a))) = row at *
      have h7 : row.size = 7 := by rw [← hrw]; exact arrP_size _ _
      have h71 : row.all (·.oneCell') = true := by rw [← hrw]; exact arrP_one fun i hi => H1.out _ (by omega)
      have hget : ∀ a, a < 7 → row[a]? = some (h (1 + (r * 7 + a))) := fun a ha => by rw [← hrw]; exact arrP_get ha
      have Hget := Lib.hid hget; clear hget hrw
      have hbA : Below Wo.heap.size Wo (Wo.alloc (.cells #[.pointer none, .pointer none, .pointer none, .pointer none, .pointer none, .pointer none, .pointer none] 65)) := (Below.refl _ _).alloc (Nat.le_refl _) _
      have sN := Str.new Wo 65 #[.pointer none, .pointer none, .pointer none, .pointer none, .pointer none, .pointer none, .pointer none]
      have hzA : (Wo.alloc (.cells #[.pointer none, .pointer none, .pointer none, .pointer none, .pointer none, .pointer none, .pointer none] 65)).heap.size = Wo.heap.size + 1 := by simp
      have hgA := grownBy_trans (World.grownBy_alloc Wo (.cells #[.pointer none, .pointer none, .pointer none, .pointer none, .pointer none, .pointer none, .pointer none] 65) (some Wo.heap.size)) (grownBy_setRowP (Wo.alloc (.cells #[.pointer none, .pointer none, .pointer none, .pointer none, .pointer none, .pointer none, .pointer none] 65)) Wo.heap.size row)
      have hsR := setRow_strP sN row
      have Hsz := Lib.hid h7
      have Hone := Lib.hid h71
      have HsN := Lib.hid sN
      have HsR := Lib.hid hsR
      have hbR := hbel.grown hgA hbel.size (fun g e => by cases e; exact hbel.size)
      have hbldR := hbld.same (w' := (Wo.alloc (.cells #[.pointer none, .pointer none, .pointer none, .pointer none, .pointer none, .pointer none, .pointer none] 65)).setRow Wo.heap.size row) (fun b _ hb2 => hgA.block b hb2 (by intro e; cases e; omega))
      have hbldR' := hbldR.mono (hi' := ((Wo.alloc (.cells #[.pointer none, .pointer none, .pointer none, .pointer none, .pointer none, .pointer none, .pointer none] 65)).setRow Wo.heap.size row).heap.size) hgA.size
      have HbR := Lib.hid hbR
      have HbldR := Lib.hid hbldR'
      clear hbld hbldR hbldR' hbR hsR hgA sN h7 h71 hbA hzA
      go_wp2_with (first
        | refine wpList_store_row rfl 65 _ _ rfl Wo.heap.size row rfl rfl 65 #[.pointer none, .pointer none, .pointer none, .pointer none, .pointer none, .pointer none, .pointer none] HsN.out (by rw [Hsz.out]; kernel_rfl) (by rw [Hsz.out]; rfl) Hone.out ?_
        | refine wpList_load_row rfl 65 _ rfl Wo.heap.size rfl 65 row (0, 0) _ HsR.out Try.underlying65 rfl (by rw [Hsz.out]; kernel_rfl) ?_)
      generalize (Wo.alloc (.cells #[.pointer none, .pointer none, .pointer none, .pointer none, .pointer none, .pointer none, .pointer none] 65)).setRow Wo.heap.size row = W1 at *
      clear HsN HsR hbel hlt'
      go_loopw [3, 17] (fun u i wr => ∃ a : Nat, a ≤ 7 ∧ i = .int .i64 a ∧ OwnR 30 3 4 wr w.heap.size wr.heap.size u ((outZ g r a).map Vx.fd) ∧ Below w.heap.size w wr) (fun _ i _ => 7 - (intOf i).toNat)
      case atStart => exact ⟨0, Nat.zero_le _, rfl, HbldR.out, HbR.out⟩
      case round =>
        obtain ⟨a, ha, rfl, hbld, hbel⟩ := hrel
        have Hbld := Lib.hid hbld; clear hbld
        have Hbel := Lib.hid hbel; clear hbel
        by_cases hla : a < 7
        · have hla' : (a : Int) < 7 := by omega
          have hcs := HL.out wr Hbel.out
          have hx2 := fun W => run_index_one (P := Try.prog) (cs := row) Try.underlying65 Try.underlying64 rfl (by kernel_rfl) hla (Hget.out a hla) W
          rcases hcs.cases r a hlt hla with ⟨y, hy, er, ea, q, hq, hn⟩ | ⟨hq, hn⟩
          · rw [hq] at hx2
            unfold ptrV at hx2
            have hstep := Hyes.out r a y hy er ea
            have hpy := Hgp.out y hy
            obtain ⟨pa, pc, pv, qs, sq, iq, srq, _⟩ := hn.ex
            have hb0w := below_step HB.out HB.out.size Hbel.out
            have Hcall := Lib.hid (impl_copyOfVertex y.r y.a y.d pa pc y.ps wr hpy (srq.under iq hb0w) (iq.below hb0w))
            have q0 := sq.cell 0 (v := .int .i64 y.r) rfl
            have q1 := sq.cell 1 (v := .int .i64 y.a) rfl
            have q2 := sq.cell 2 (v := .slice pa y.ps.length pc) rfl
            have q3 := sq.cell 3 (v := .int .i64 y.d) rfl
            have Hex := Lib.hid (show (outZ g r (a + 1)).map Vx.fd = (outZ g r a).map Vx.fd ++ [[.i y.r, .i y.a, .l y.ps, .i y.d]] by rw [hstep, List.map_append]; rfl)
            have hel : ((outZ g r a).map Vx.fd).length ≤ 1048576 := by have := Hlen.out r (a + 1); rw [hstep, List.length_append] at this; simp at this ⊢; omega
            clear hcs hn sq iq srq hpy hstep hb0w er ea hq hy
            generalize (outZ g r a).map Vx.fd = es at *
            obtain ⟨xr, xa, xp, xd⟩ := y
            dsimp only at *
            go_wp2_with fail
            refine Hcall.out.mono ?_
            rintro e w6 ⟨v2, rfl, hown2, hb6⟩
            obtain ⟨a2, c2, rfl, _, _⟩ := hown2.ints
            have hbw6 := below_step Hbel.out Hbel.out.size hb6
            have hB6 := hbw6.size
            have hs6 := hb6.size
            have Hbld6 := Lib.hid (Hbld.out.below hb6 (Nat.le_refl _))
            obtain ⟨hfd, hap, hnew⟩ := vertex_new (B := w.heap.size) xr xa xd hown2 Hbel.out.size
            have Hfd := Lib.hid hfd; clear hfd
            have Hap := Lib.hid hap; clear hap
            have Hnew := Lib.hid hnew; clear hnew hown2 q0 q1 q2 q3
            go_wp2_with (at_builtin; refine wpList_push_own (Ei := 3) Try.underlying24 vertex_inf rfl (by decide) (by decide) rfl (.tmp 22) (.tmp 28) rfl w.heap.size _ es _ _ _ rfl rfl (by intro u hu; simp at hu; rcases hu with rfl | rfl | rfl | rfl <;> rfl) rfl rfl Hfd.out Hap.out wr.heap.size Hbld6.out hs6 Hnew.out hel rfl hB6 ?_; intro v8 w8 hbld8 hg8 hat8)
            go_roundw
            case rel => exact ⟨a + 1, by omega, by go_num, by rw [Hex.out]; exact hbld8, hbw6.grown hg8 hB6 (fun g e => (Hbld.out.lt g e).1)⟩
            case measure => simp [intOf]; omega
          · rw [hq] at hx2
            have Hs := Lib.hid (Hno.out r a hn)
            clear hcs hn hq
            go_wp2
            go_roundw
            case rel => exact ⟨a + 1, by omega, by go_num, by rw [Hs.out]; exact Hbld.out, Hbel.out⟩
            case measure => simp [intOf]; omega
        · have e7 : a = 7 := by omega
          subst e7
          have Hs := Lib.hid (Hrow.out r)
          go_wp2
          go_roundw
          case rel => exact ⟨r + 1, by omega, by go_num, by rw [← Hs.out]; exact Hbld.out, Hbel.out⟩
          case measure => simp [intOf]; omega
    · have e31 : r = 31 := by omega
      subst e31
      have Hbld := Lib.hid hbld; clear hbld
      go_wp2
      go_ret
      exact ⟨_, rfl, by rw [Hend.out] at Hbld; exact Hbld.out, hbel⟩

end Go.Proofs.Ytejpoeejhmgphaa
