/- The reference's copies of vertices and graphs, their sameness, the authors of a round, each by a walk of its text; conditions: lists are shorter than 2^40 (a graph that is copied: 2^20). -/
import Derived.Test.YtejpoeejhmgphaaRows
import Derived.Test.YtejpoeejhmgphaaGv2
import Derived.Test.YtejpoeejhmgphaaPush
import Derived.Test.YtejpoeejhmgphaaEx
namespace Go.Proofs.Ytejpoeejhmgphaa
open Go.RowKit

theorem TIg : IntT Try.prog 23 3 := ⟨Try.underlying23, by kernel_rfl⟩

theorem SrcAt.under {w w' : World} {a : Option Addr} {c : Nat} {xs : List Int} (h : SrcAt w a c xs) (hi : IntsAt w a xs) (hb : Below w.heap.size w w') : SrcAt w' a c xs := by
  rcases h with h | ⟨ad, rfl, hc⟩
  · exact .inl h
  · refine .inr ⟨ad, rfl, fun j hj => ?_⟩
    obtain ⟨b, off, e, hbb, _⟩ := hi.cell (by omega)
    cases e
    have := hc j hj
    rw [addr_add'] at this ⊢
    exact (hb.cell (p := ⟨b, off + j, none⟩) hbb).trans this

set_option maxHeartbeats 1000000 in
theorem spec_l11One (r a d : Int) (pa : Option Addr) (pc : Nat) (ps : List Int) (w : World) (hbp : ps.length ≤ 1099511627776) (hs : SrcAt w pa pc ps) (hi : IntsAt w pa ps) :
    Calls Try.prog 62 #[.agg #[.int .i64 r, .int .i64 a, .slice pa ps.length pc, .int .i64 d]] w fun e w' => ∃ v, e = .returned (.agg #[.int .i64 r, .int .i64 a, v, .int .i64 d]) ∧ Own 3 w' w.heap.size v ps ∧ Below w.heap.size w w' := by
  have hbW : Below w.heap.size w ((w.alloc (.cells #[.int .i64 r, .int .i64 a, .slice pa ps.length pc, .int .i64 d] 30)).alloc (.cells #[.int .i64 0, .int .i64 0, .slice none 0 0, .int .i64 0] 30)) := ((Below.refl _ w).alloc (Nat.le_refl _) _).alloc (by simp) _
  have hb2 : Below w.heap.size w (((w.alloc (.cells #[.int .i64 r, .int .i64 a, .slice pa ps.length pc, .int .i64 d] 30)).alloc (.cells #[.int .i64 0, .int .i64 0, .slice none 0 0, .int .i64 0] 30)).alloc (.cells #[] 3)) := hbW.alloc (by simp; omega) _
  have s0 := ((Str.new w 30 #[.int .i64 r, .int .i64 a, .slice pa ps.length pc, .int .i64 d]).alloc (.cells #[.int .i64 0, .int .i64 0, .slice none 0 0, .int .i64 0] 30)).alloc (.cells #[] 3)
  have s1 := (Str.new (w.alloc (.cells #[.int .i64 r, .int .i64 a, .slice pa ps.length pc, .int .i64 d] 30)) 30 #[.int .i64 0, .int .i64 0, .slice none 0 0, .int .i64 0]).alloc (.cells #[] 3)
  have ho := own_empty 3 ((w.alloc (.cells #[.int .i64 r, .int .i64 a, .slice pa ps.length pc, .int .i64 d] 30)).alloc (.cells #[.int .i64 0, .int .i64 0, .slice none 0 0, .int .i64 0] 30)) (Nat.le_refl _)
  have hsrc : SrcAt (((w.alloc (.cells #[.int .i64 r, .int .i64 a, .slice pa ps.length pc, .int .i64 d] 30)).alloc (.cells #[.int .i64 0, .int .i64 0, .slice none 0 0, .int .i64 0] 30)).alloc (.cells #[] 3)) pa pc ps := by
    rcases hs with h | ⟨ad, rfl, hc⟩
    · exact .inl h
    · refine .inr ⟨ad, rfl, fun j hj => ?_⟩
      obtain ⟨b, off, e, hb, _⟩ := hi.cell (by omega)
      cases e
      have := hc j hj
      rw [addr_add'] at this ⊢
      exact (hb2.cell (p := ⟨b, off + j, none⟩) hb).trans this
  have hz : ((w.alloc (.cells #[.int .i64 r, .int .i64 a, .slice pa ps.length pc, .int .i64 d] 30)).alloc (.cells #[.int .i64 0, .int .i64 0, .slice none 0 0, .int .i64 0] 30)).heap.size = w.heap.size + 2 := by simp
  have hzs : (((w.alloc (.cells #[.int .i64 r, .int .i64 a, .slice pa ps.length pc, .int .i64 d] 30)).alloc (.cells #[.int .i64 0, .int .i64 0, .slice none 0 0, .int .i64 0] 30)).alloc (.cells #[] 3)).heap.size = w.heap.size + 3 := by simp
  have hz1 : (w.alloc (.cells #[.int .i64 r, .int .i64 a, .slice pa ps.length pc, .int .i64 d] 30)).heap.size = w.heap.size + 1 := by simp
  rw [hz1] at s1
  rw [hz] at ho
  have k2 := s0.cell 2 (v := .slice pa ps.length pc) rfl
  have Ho := Lib.hid ho
  have Hs0 := Lib.hid s0
  have Hs1 := Lib.hid s1
  have Hsrc := Lib.hid hsrc
  have Hb2 := Lib.hid hb2
  clear ho s0 s1 hsrc hb2 hbW hs hi hz hz1
  go_enter Try.func62, Try.ntmps62
  go_wp2_with (at_builtin; refine wpList_appI TIg rfl (.tmp 3) (.tmp 5) rfl (w.heap.size + 2) (.slice (some ⟨w.heap.size + 2, 0, none⟩) 0 0) [] ps _ _ rfl Ho.out rfl Hsrc.out (by simp; omega) (by rw [hzs]; omega) ?_; intro v5 w5 hown hg5; (rw [List.nil_append] at hown); (generalize ((w.alloc (.cells #[.int .i64 r, .int .i64 a, .slice pa ps.length pc, .int .i64 d] 30)).alloc (.cells #[.int .i64 0, .int .i64 0, .slice none 0 0, .int .i64 0] 30)).alloc (.cells #[] 3) = W2 at *); (have t0 := Hs0.out.kept hg5 (by simp [Value.ownBlock])); (have t1 := Hs1.out.kept hg5 (by simp [Value.ownBlock])); (have Hlt := Lib.hid hown.lt); (have Hown := Lib.hid hown); (have Hb5 := Lib.hid (Hb2.out.grown hg5 (by omega) (fun g e => by have := (Ho.out.lt g e).1; omega))); (obtain ⟨a5, c5, rfl, _, _⟩ := Hown.out.ints); (clear hown hg5 hzs Ho Hs0 Hs1 Hsrc Hb2 k2); (have k0 := t0.cell 0 (v := .int .i64 r) rfl); (have k1 := t0.cell 1 (v := .int .i64 a) rfl); (have k2 := t0.cell 2 (v := .slice pa ps.length pc) rfl); (have k3 := t0.cell 3 (v := .int .i64 d) rfl); (have f2 := t0.frozen 2); (have j0 := t1.cell 0 (v := .int .i64 0) rfl); (have j1 := t1.cell 1 (v := .int .i64 0) rfl); (have j2 := t1.cell 2 (v := .slice none 0 0) rfl); (have j3 := t1.cell 3 (v := .int .i64 0) rfl); (have g0 := t1.frozen 0); (have g1 := t1.frozen 1); (have g2 := t1.frozen 2); (have g3 := t1.frozen 3); (have hne : w.heap.size + 1 ≠ w.heap.size := by omega); (have u := ((((t1.other hne 2 (.slice a5 ps.length c5)).set 0 (.int .i64 r)).set 1 (.int .i64 a)).set 2 (.slice a5 ps.length c5)).set 3 (.int .i64 d)); (have e0 := u.cell 0 (v := .int .i64 r) rfl); (have e1 := u.cell 1 (v := .int .i64 a) rfl); (have e2 := u.cell 2 (v := .slice a5 ps.length c5) rfl); (have e3 := u.cell 3 (v := .int .i64 d) rfl); (clear u t0 t1))
  refine bodyPost_ret (v := .agg #[.int .i64 r, .int .i64 a, .slice a5 ps.length c5, .int .i64 d]) (by simp [results, Try.f62, go_sem, e0, e1, e2, e3]) rfl ?_
  have n1 : (Value.slice a5 ps.length c5).ownBlock ≠ some (w.heap.size) := fun e => by have := Hlt.out _ e; omega
  have n2 : (Value.slice a5 ps.length c5).ownBlock ≠ some (w.heap.size + 1) := fun e => by have := Hlt.out _ e; omega
  exact ⟨_, rfl, ((((((Hown.out.mono (by omega)).set_other n1 2 _).set_other n2 0 _).set_other n2 1 _).set_other n2 2 _).set_other n2 3 _), (((((Hb5.out.setCell (p := ⟨w.heap.size, 2, none⟩) (by simp only; omega) _).setCell (p := ⟨w.heap.size + 1, 0, none⟩) (by simp only; omega) _).setCell (p := ⟨w.heap.size + 1, 1, none⟩) (by simp only; omega) _).setCell (p := ⟨w.heap.size + 1, 2, none⟩) (by simp only; omega) _).setCell (p := ⟨w.heap.size + 1, 3, none⟩) (by simp only; omega) _)⟩

set_option maxHeartbeats 1000000 in
theorem spec_l11Copy (g : List Vx) (v : Value) (fp : List Nat) (w : World) (hbig : g.length ≤ 1048576) (hps : ∀ x ∈ g, x.ps.length ≤ 1099511627776) (hr : Gr w g v fp) :
    Calls Try.prog 68 #[v] w fun e w' => ∃ u, e = .returned u ∧ OwnR 30 3 4 w' w.heap.size w'.heap.size u (g.map Vx.fd) ∧ Below w.heap.size w w' := by
  obtain ⟨va, vc, rfl⟩ := hr.slice
  have hb0 : Below w.heap.size w (w.alloc (.cells #[] 30)) := (Below.refl _ _).alloc (Nat.le_refl _) _
  have hv0 : OwnR 30 3 4 (w.alloc (.cells #[] 30)) w.heap.size (w.alloc (.cells #[] 30)).heap.size (.slice (some ⟨w.heap.size, 0, none⟩) 0 0) [] := .nil (World.ownsRow_made w #[] 0 (Nat.le_refl _) (by simp) (by simp)) (fun g e => by cases e; simp)
  have Hv0 := Lib.hid hv0; clear hv0
  have Hr := Lib.hid hr; clear hr
  have HP := Lib.hid hps; clear hps
  go_enter Try.func68, Try.ntmps68
  go_wp2_with fail
  go_loopw [3, 4] (fun u i wr => ∃ k : Nat, k ≤ g.length ∧ i = .int .i64 k ∧ OwnR 30 3 4 wr w.heap.size wr.heap.size u ((g.take k).map Vx.fd) ∧ Below w.heap.size w wr) (fun _ i _ => g.length - (intOf i).toNat)
  case atStart => exact ⟨0, Nat.zero_le _, rfl, by simpa using Hv0.out, hb0⟩
  case round =>
    obtain ⟨k, hk, rfl, hbld, hbel⟩ := hrel
    have Hbld := Lib.hid hbld; clear hbld
    have Hbel := Lib.hid hbel; clear hbel
    by_cases hlt : k < g.length
    · obtain ⟨b, off, rfl, hb, hat⟩ := (Hr.out.under Hbel.out).at (by omega)
      obtain ⟨q0, q1, ⟨pa, pc, q2, i2, s2⟩, q3⟩ := hat k hlt
      have hps := HP.out _ (List.getElem_mem hlt)
      have Hex := Lib.hid (show (g.take (k + 1)).map Vx.fd = (g.take k).map Vx.fd ++ [[.i g[k].r, .i g[k].a, .l g[k].ps, .i g[k].d]] by rw [List.take_succ_eq_append_getElem hlt, List.map_append]; rfl)
      have hel : ((g.take k).map Vx.fd).length ≤ 1048576 := by simp; omega
      have Hcall := Lib.hid (spec_l11One g[k].r g[k].a g[k].d pa pc g[k].ps wr hps s2 i2)
      clear hat s2 i2 hps
      generalize (g.take k).map Vx.fd = es at *
      generalize g[k] = x at *
      obtain ⟨xr, xa, xp, xd⟩ := x
      dsimp only at *
      go_wp2_with fail
      refine Hcall.out.mono ?_
      rintro e w6 ⟨v2, rfl, hown2, hb6⟩
      obtain ⟨a2, c2, rfl, _, _⟩ := hown2.ints
      have hbw6 := below_step Hbel.out Hbel.out.size hb6
      have hB6 := hbw6.size
      have hs6 := hb6.size
      have Hbld6 := Lib.hid (Hbld.out.below hb6 (Nat.le_refl _))
      obtain ⟨hfd, hap, hnew⟩ := vertex_new (B := w.heap.size) xr xa xd hown2 Hbel.out.size
      have Hfd := Lib.hid hfd; clear hfd
      have Hap := Lib.hid hap; clear hap
      have Hnew := Lib.hid hnew; clear hnew hown2 q0 q1 q2 q3
      go_wp2_with (at_builtin; refine wpList_push_own (Ei := 3) Try.underlying24 vertex_inf rfl (by decide) (by decide) rfl (.tmp 12) (.tmp 18) rfl w.heap.size _ es _ _ _ rfl rfl (by intro u hu; simp at hu; rcases hu with rfl | rfl | rfl | rfl <;> rfl) rfl rfl Hfd.out Hap.out wr.heap.size Hbld6.out hs6 Hnew.out hel rfl hB6 ?_; intro v8 w8 hbld8 hg8 hat8)
      go_roundw
      case rel => exact ⟨k + 1, by omega, by go_num, by rw [Hex.out]; exact hbld8, hbw6.grown hg8 hB6 (fun g e => (Hbld.out.lt g e).1)⟩
      case measure => simp [intOf]; omega
    · have hke : k = g.length := by omega
      subst hke
      rw [List.take_length] at Hbld
      go_wp2
      go_ret
      exact ⟨_, rfl, Hbld.out, Hbel.out⟩

def authP (r : Int) (x : Vx) : Bool := decide (x.r = r)
/-- The authors of a round. -/
def authZ (g : List Vx) (r : Int) : List Int := (g.filter (authP r)).map (·.a)
theorem authZ_len (g : List Vx) (r : Int) : (authZ g r).length ≤ g.length := by unfold authZ; rw [List.length_map]; exact List.length_filter_le _ _
theorem authZ_yes {g : List Vx} {r : Int} {k : Nat} (hk : k < g.length) (h : g[k].r = r) : authZ (g.take (k + 1)) r = authZ (g.take k) r ++ [g[k].a] := by
  unfold authZ; rw [List.take_succ_eq_append_getElem hk, List.filter_append, List.map_append]; simp [authP, h]
theorem authZ_no {g : List Vx} {r : Int} {k : Nat} (hk : k < g.length) (h : ¬ g[k].r = r) : authZ (g.take (k + 1)) r = authZ (g.take k) r := by
  unfold authZ; rw [List.take_succ_eq_append_getElem hk, List.filter_append, List.map_append]; simp [authP, h]
theorem spec_l11Authors (g : List Vx) (v : Value) (fp : List Nat) (r : Int) (w : World) (hbig : g.length ≤ 1099511627776) (hr : Gr w g v fp) :
    Calls Try.prog 61 #[v, .int .i64 r] w fun e w' => ∃ u, e = .returned u ∧ Own 3 w' w.heap.size u (authZ g r) ∧ Below w.heap.size w w' := by
  obtain ⟨va, vc, rfl⟩ := hr.slice
  have hb0 : Below w.heap.size w (w.alloc (.cells #[] 3)) := (Below.refl _ _).alloc (Nat.le_refl _) _
  have Hr := Lib.hid hr; clear hr
  go_enter Try.func61, Try.ntmps61
  go_wp2_with fail
  go_loopw [5, 6] (fun u i wr => ∃ k : Nat, k ≤ g.length ∧ i = .int .i64 k ∧ Own 3 wr w.heap.size u (authZ (g.take k) r) ∧ Below w.heap.size w wr) (fun _ i _ => g.length - (intOf i).toNat)
  case atStart => exact ⟨0, Nat.zero_le _, rfl, own_empty _ _ (Nat.le_refl _), hb0⟩
  case round =>
    obtain ⟨k, hk, rfl, hown, hbel⟩ := hrel
    have Hown := Lib.hid hown; clear hown
    have Hbel := Lib.hid hbel; clear hbel
    by_cases hlt : k < g.length
    · obtain ⟨b, off, rfl, hb, hat⟩ := (Hr.out.under Hbel.out).at (by omega)
      obtain ⟨q0, q1, _, _⟩ := hat k hlt
      clear hat
      by_cases e : g[k].r = r
      · have Hs := Lib.hid (authZ_yes hlt e)
        have e1 : (g[k].r == r) = true := by simpa using e
        have hl := authZ_len (g.take k) r
        rw [List.length_take] at hl
        have hB := Hbel.out.size
        clear e
        generalize authZ (g.take k) r = out at *
        generalize g[k].a = x at *
        generalize g[k].r = y at *
        go_wp2_with (at_builtin; refine wpList_push TIg rfl (.tmp 21) (.tmp 27) rfl w.heap.size _ out _ rfl Hown.out (by omega) rfl hB ?_; intro v8 w8 hown8 hg8)
        go_roundw
        case rel => exact ⟨k + 1, by omega, by go_num, by rw [Hs.out]; exact hown8, Hbel.out.grown hg8 hB (fun g e => (Hown.out.lt g e).1)⟩
        case measure => simp [intOf]; omega
      · have Hs := Lib.hid (authZ_no hlt e)
        have e1 : (g[k].r == r) = false := by simpa using e
        clear e
        go_wp2
        go_roundw
        case rel => exact ⟨k + 1, by omega, by go_num, by rw [Hs.out]; exact Hown.out, Hbel.out⟩
        case measure => simp [intOf]; omega
    · have hke : k = g.length := by omega
      subst hke
      rw [List.take_length] at Hown
      go_wp2
      go_ret
      exact ⟨_, rfl, Hown.out, Hbel.out⟩

/-- The index of a vertex in a graph, or -1. -/
def gfZ (c : List Int) (g : List Vx) (r a : Int) : Int := if graphB c g = true then findZ g r a else -1
theorem spec_GraphFind (ac : Option Addr) (capc : Nat) (c : List Int) (g : List Vx) (v : Value) (fp : List Nat) (r a : Int) (w : World) (hn : c.length ≤ 1099511627776) (hbig : g.length ≤ 1099511627776) (hps : ∀ x ∈ g, x.ps.length ≤ 1099511627776) (hc : IntsAt w ac c) (hg : Gr w g v fp) :
    Calls Try.prog 13 #[.slice ac c.length capc, v, .int .i64 r, .int .i64 a] w fun e w' => e = .returned (.int .i64 (gfZ c g r a)) ∧ Below w.heap.size w w' := by
  have hV := spec_GraphValid ac capc c g v fp w hn hbig hps hc hg
  have HF := Lib.hid (fun W (h : Gr W g v fp) => spec_l11Find g v fp r a W hbig h)
  have Hg := Lib.hid hg; clear hg
  cases hb : graphB c g with
  | false =>
    rw [hb] at hV
    have hz : gfZ c g r a = -1 := by unfold gfZ; rw [hb]; rfl
    have HV := Lib.hid hV; clear hV
    have Hz := Lib.hid hz; clear hz
    go_enter Try.func13, Try.ntmps13
    go_wp2_with fail
    refine HV.out.mono ?_
    rintro e w1 ⟨rfl, hb1⟩
    go_wp2
    go_ret
    exact ⟨by rw [Hz.out]; rfl, hb1⟩
  | true =>
    rw [hb] at hV
    have hz : gfZ c g r a = findZ g r a := by unfold gfZ; rw [hb]; rfl
    have HV := Lib.hid hV; clear hV
    have Hz := Lib.hid hz; clear hz
    go_enter Try.func13, Try.ntmps13
    go_wp2_with fail
    refine HV.out.mono ?_
    rintro e w1 ⟨rfl, hb1⟩
    go_wp2_with fail
    refine (HF.out w1 (Hg.out.under hb1)).mono ?_
    rintro e w2 ⟨rfl, rfl⟩
    go_wp2
    go_ret
    exact ⟨by rw [Hz.out]; rfl, hb1⟩

