/- Texts that the laws of this folder share, one behind another; no conditions. -/
import Derived.Test.YtjaacdapibokiabGreatDoorRows
import Derived.Test.YtjaacdapibokiabGreatDoorBu2
import Derived.Test.YtjaacdapibokiabGreatDoorBu1
import Derived.Deep.QuietTactic
import Derived.BigQuiet
import Derived.Test.YtjaacdapibokiabGreatDoorBu3
import Derived.Test.YtjaacdapibokiabGreatDoorBu0
import Derived.LaidEqlPtr
import Derived.WalkSmall
import Derived.Maps.AppendAt

/- impl's test of leaders, by walks of its texts; condition: lists are shorter than 2^40. -/
namespace Go.Proofs.YtjaacdapibokiabGreatDoor
open Go.RowKit

set_option maxHeartbeats 1000000 in
theorem committee_hasLeaders (ac : Option Addr) (capc : Nat) (n : Nat) (al : Option Addr) (cap : Nat) (ls : List Int) (w : World) (_hn : n ≤ 1099511627776) (hbig : ls.length ≤ 1099511627776) (hc : IntsAt w al ls) :
    Calls Tryz.prog 78 #[.slice ac n capc, .slice al ls.length cap] w fun e w' => e = .returned (.bool (ldsB n ls)) ∧ w = w' := by
  have Hc := Lib.hid hc; clear hc
  by_cases h15 : ls.length ≤ 15
  case neg =>
    have hz := Lib.hid (show ldsB n ls = false by unfold ldsB; rw [decide_eq_false h15]; simp)
    have h15' : decide ((15 : Int) < (ls.length : Int)) = true := decide_eq_true (by omega)
    have h15'' : (15 : Int) < (ls.length : Int) := by omega
    go_enter Tryz.func78, Tryz.ntmps78
    go_wp2
    go_ret
    exact ⟨by rw [hz.out]; rfl, rfl⟩
  have hz := Lib.hid (show ldsB n ls = allB (okLd n ls) ls.length by unfold ldsB; rw [decide_eq_true h15]; simp)
  have h15' : ¬ (15 : Int) < (ls.length : Int) := by omega
  go_enter Tryz.func78, Tryz.ntmps78
  go_wp2
  go_loopw [12] (fun i wr => ∃ k : Nat, k ≤ ls.length ∧ i = .int .i64 k ∧ Hid (Upto (okLd n ls) k) ∧ w = wr) (fun i _ => ls.length - (intOf i).toNat)
  case atStart => exact ⟨0, by omega, rfl, Lib.hid (upto_zero _), rfl⟩
  case round =>
    obtain ⟨k, hk, rfl, hup, rfl⟩ := hrel
    by_cases hlt : k < ls.length
    · obtain ⟨b, off, rfl, hb, hat⟩ := Hc.out.cell (by omega)
      have hcell := hat k hlt
      have hgd := getD_get hlt
      have hok : okLd n ls k = decide (0 ≤ ls[k] ∧ ls[k] ≤ (n : Int) - 1) := by unfold okLd; rw [hgd]
      have Hok := Lib.hid hok
      clear hat hgd hok
      generalize ls[k] = x at *
      by_cases h1 : x < 0
      · have hres := Lib.hid (show ldsB n ls = false by rw [hz.out]; exact allB_no hlt (Hok.out.trans (decide_eq_false (by omega))))
        go_wp2
        go_ret
        exact ⟨by rw [hres.out]; rfl, rfl⟩
      by_cases h2 : (n : Int) ≤ x
      · have hres := Lib.hid (show ldsB n ls = false by rw [hz.out]; exact allB_no hlt (Hok.out.trans (decide_eq_false (by omega))))
        go_wp2
        go_ret
        exact ⟨by rw [hres.out]; rfl, rfl⟩
      have Hs := Lib.hid (upto_step hup.out (Hok.out.trans (decide_eq_true (by omega))))
      go_wp2
      go_roundw
      case rel => exact ⟨k + 1, by omega, by go_num, Lib.hid Hs.out, trivial⟩
      case measure => simp [intOf]; omega
    · have hres := Lib.hid (show ldsB n ls = true by rw [hz.out, allB_yes hup.out (by omega)])
      go_wp2
      go_ret
      exact ⟨by rw [hres.out]; rfl, rfl⟩

theorem impl_LeadersValid (ac : Option Addr) (capc : Nat) (c : List Int) (al : Option Addr) (cap : Nat) (ls : List Int) (w : World) (hn : c.length ≤ 1099511627776) (hl : ls.length ≤ 1099511627776) (hc : IntsAt w ac c) (hi : IntsAt w al ls) :
    Calls Tryz.prog 53 #[.slice ac c.length capc, .slice al ls.length cap] w fun e w' => e = .returned (.bool (lvB c ls)) ∧ w = w' := by
  have HV := Lib.hid (impl_CommitteeValid ac capc c w hn hc)
  have HL := Lib.hid (committee_hasLeaders ac capc c.length al cap ls w hn hl hi)
  have Hres := Lib.hid (show lvB c ls = (validB c && ldsB c.length ls) from rfl)
  clear hc hi
  go_enter Tryz.func53, Tryz.ntmps53
  go_wp2_with fail
  refine HV.out.mono ?_
  rintro e w1 ⟨rfl, rfl⟩
  cases h1 : validB c with
  | false =>
    go_wp2
    go_ret
    exact ⟨ret_bool (by rw [Hres.out, h1]; rfl), rfl⟩
  | true =>
  go_wp2_with fail
  refine HL.out.mono ?_
  rintro e w2 ⟨rfl, rfl⟩
  go_wp2
  go_ret
  exact ⟨ret_bool (by rw [Hres.out, h1]; rfl), rfl⟩

end Go.Proofs.YtjaacdapibokiabGreatDoor

/- impl's graph with its leaders, each by a walk of its text; conditions: lists are shorter than 2^40 (a graph: 2^20). -/
namespace Go.Proofs.YtjaacdapibokiabGreatDoor
open Go.RowKit

/-- The graph with its leaders. -/
structure Lg (w0 w : World) (hi G q : Nat) (mv : Value) (h : Nat → Value) (g : List Vx) (al : Option Addr) (cap : Nat) (ls : List Int) : Prop where
  lk : Lk w0 w hi G mv h g
  st : Str w q 97 #[.pointer (some ⟨G, 0, none⟩), .slice al ls.length cap]
  hq : hi ≤ q
theorem Lg.under {w0 w w' : World} {hi G q : Nat} {mv : Value} {h : Nat → Value} {g : List Vx} {al : Option Addr} {cap : Nat} {ls : List Int} (l : Lg w0 w hi G q mv h g al cap ls) (hb : Below w.heap.size w w') : Lg w0 w' hi G q mv h g al cap ls :=
  ⟨l.lk.under hb, (hb.block _ l.st.lt).trans l.st, l.hq⟩
set_option maxRecDepth 8000 in
theorem ledGraphOf_no (ac : Option Addr) (capc : Nat) (c : List Int) (g : List Vx) (v : Value) (fp : List Nat) (al : Option Addr) (cap : Nat) (ls : List Int) (eN eI : Addr) (w : World) (hn : c.length ≤ 1099511627776) (hbig : g.length ≤ 1048576) (hps : ∀ x ∈ g, x.ps.length ≤ 1099511627776) (hl : ls.length ≤ 1099511627776) (hc : IntsAt w ac c) (hg : Gr w g v fp) (hi : IntsAt w al ls) (hs : Sen w eN eI) (hno : waB c g ls = false) :
    Calls Tryz.prog 31 #[.slice ac c.length capc, v, .slice al ls.length cap] w fun e w' => e = .returned (.tuple #[.pointer none, .iface 160 (.pointer (some eI))]) ∧ Below w.heap.size w w' := by
  cases hgb : graphB c g with
  | false =>
    have H := Lib.hid (graphOf_no ac capc c g v fp w hn hbig hps hc hg hgb)
    have Hs := Lib.hid hs
    clear hc hg hps hi hs hno hgb
    go_enter Tryz.func31, Tryz.ntmps31
    go_wp2_with fail
    refine H.out.mono ?_
    rintro e w1 ⟨rfl, hb⟩
    have hgI := (Hs.out.below hb).gI
    have Hb := Lib.hid hb; clear hb
    go_wp2_with fail
    go_quiet (fail)
    go_wp2
    go_ret2
    exact ⟨rfl, below_step Hb.out Hb.out.size (((Drawn.refl _).drewN _).below _)⟩
  | true =>
    have hlv : lvB c ls = false := by
      unfold waB at hno; rw [hgb] at hno
      unfold lvB
      rw [show ldsB c.length ls = false by simpa using hno]; simp
    have H := Lib.hid (graphOf_yes ac capc c g v fp w hn hbig hps hc hg hgb)
    have HL := Lib.hid (fun W (hb : Below w.heap.size w W) => impl_LeadersValid ac capc c al cap ls W hn hl (hc.below hb) (hi.below hb))
    rw [hlv] at HL
    have Hs := Lib.hid hs
    clear hc hg hps hi hs hno hgb hlv
    go_enter Tryz.func31, Tryz.ntmps31
    go_wp2_with fail
    refine H.out.mono ?_
    rintro e w1 ⟨G, rfl, hb, _⟩
    have hgI := (Hs.out.below hb).gI
    have Hb := Lib.hid hb; clear hb
    go_wp2_with fail
    refine (HL.out w1 Hb.out).mono ?_
    rintro e w2 ⟨rfl, rfl⟩
    go_wp2_with fail
    go_quiet (fail)
    go_wp2
    go_ret2
    exact ⟨rfl, below_step Hb.out Hb.out.size (((Drawn.refl _).drewN _).below _)⟩
set_option maxRecDepth 8000 in
theorem ledGraphOf_yes (ac : Option Addr) (capc : Nat) (c : List Int) (g : List Vx) (v : Value) (fp : List Nat) (al : Option Addr) (cap : Nat) (ls : List Int) (w : World) (hn : c.length ≤ 1099511627776) (hbig : g.length ≤ 1048576) (hps : ∀ x ∈ g, x.ps.length ≤ 1099511627776) (hl : ls.length ≤ 1099511627776) (hc : IntsAt w ac c) (hg : Gr w g v fp) (hi : IntsAt w al ls) (hyes : waB c g ls = true) :
    Calls Tryz.prog 31 #[.slice ac c.length capc, v, .slice al ls.length cap] w fun e w' => ∃ q G hi' h, e = .returned (.tuple #[.pointer (some ⟨q, 0, none⟩), .nilIface]) ∧ Below w.heap.size w w' ∧ w.heap.size ≤ q ∧ Lg w w' hi' G q (.slice ac c.length capc) h g al cap ls := by
  have hgb : graphB c g = true := by unfold waB at hyes; simp only [Bool.and_eq_true] at hyes; exact hyes.1
  have hv : validB c = true := by have h := hgb; unfold graphB at h; simp only [Bool.and_eq_true] at h; exact h.1
  have hlv : lvB c ls = true := by
    unfold waB at hyes; simp only [Bool.and_eq_true] at hyes
    unfold lvB; rw [hv, hyes.2]; rfl
  have H := Lib.hid (graphOf_yes ac capc c g v fp w hn hbig hps hc hg hgb)
  have HL := Lib.hid (fun W (hb : Below w.heap.size w W) => impl_LeadersValid ac capc c al cap ls W hn hl (hc.below hb) (hi.below hb))
  rw [hlv] at HL
  clear hc hg hps hi hyes hgb hlv hv
  go_enter Tryz.func31, Tryz.ntmps31
  go_wp2_with fail
  refine H.out.mono ?_
  rintro e w1 ⟨G, rfl, hb, hG, hi', h, hL⟩
  have HLk := Lib.hid hL
  have Hb := Lib.hid hb; clear hb hL
  go_wp2_with fail
  refine (HL.out w1 Hb.out).mono ?_
  rintro e w2 ⟨rfl, rfl⟩
  have hal : Below w1.heap.size w1 (w1.alloc (.cells #[.pointer (some ⟨G, 0, none⟩), .slice al ls.length cap] 97)) := (Below.refl _ _).alloc (Nat.le_refl _) _
  have Hal := Lib.hid hal; clear hal
  have HS := Lib.hid (Str.new w1 97 #[.pointer (some ⟨G, 0, none⟩), .slice al ls.length cap])
  go_wp2
  go_ret2
  exact ⟨w1.heap.size, G, hi', h, rfl, below_step Hb.out Hb.out.size Hal.out, Hb.out.size, HLk.out.under Hal.out, HS.out, HLk.out.le⟩

end Go.Proofs.YtjaacdapibokiabGreatDoor

/- impl's leader vertex of a wave, by walks of its text; condition: there are at most 15 leaders, each from 0 to 6. -/
namespace Go.Proofs.YtjaacdapibokiabGreatDoor
open Go.RowKit

section
variable {w0 w : World} {hi G q : Nat} {mv : Value} {h : Nat → Value} {g : List Vx} {al : Option Addr} {cap : Nat} {ls : List Int} {eN eI : Addr}
set_option maxRecDepth 8000 in
theorem led_leader_bad (l : Lg w0 w hi G q mv h g al cap ls) (hs : Sen w eN eI) (k : Int) (_hl : ls.length ≤ 15) (hk : ¬ (1 ≤ k ∧ k ≤ ls.length)) :
    Calls Tryz.prog 44 #[.pointer (some ⟨q, 0, none⟩), .int .i64 k] w fun e w' => e = .returned (.tuple #[.pointer none, .iface 160 (.pointer (some eI))]) ∧ Drawn w w' := by
  have c1 := l.st.cell 1 (v := .slice al ls.length cap) rfl
  have hgI := hs.gI
  by_cases h1 : k < 1
  · have h1' : decide (k < 1) = true := decide_eq_true h1
    clear hs l hk
    go_enter Tryz.func44, Tryz.ntmps44
    go_wp2_with fail
    go_quiet (fail)
    go_wp2
    go_ret2
    exact ⟨rfl, (Drawn.refl _).drewN _⟩
  · have h1' : decide (k < 1) = false := decide_eq_false h1
    have h2 : (ls.length : Int) < k := by omega
    have h2' : decide ((ls.length : Int) < k) = true := decide_eq_true h2
    clear hs l hk
    go_enter Tryz.func44, Tryz.ntmps44
    go_wp2_with fail
    go_quiet (fail)
    go_wp2
    go_ret2
    exact ⟨rfl, (Drawn.refl _).drewN _⟩

/-- What the walk needs of a wave that exists. -/
theorem led_at (l : Lg w0 w hi G q mv h g al cap ls) (k : Nat) (hk : 1 ≤ k ∧ k ≤ ls.length) (hl : ls.length ≤ 15) (hls : ∀ j (hj : j < ls.length), 0 ≤ ls[j] ∧ ls[j] ≤ 6) (hi' : IntsAt w al ls) :
    ∃ (L : Int) (b off : Nat), L = ls.getD (k - 1) 0 ∧ 0 ≤ L ∧ L ≤ 6 ∧ al = some ⟨b, off, none⟩ ∧ w.cell? ⟨b, off + (k - 1), none⟩ = some (.int .i64 L) ∧ w.cell? ⟨G, plN (2 * (k : Int) - 1) L, none⟩ = some (h (plN (2 * (k : Int) - 1) L)) := by
  obtain ⟨b, off, rfl, hb, hat⟩ := hi'.cell (by omega)
  have h0 := hls (k - 1) (by omega)
  have hgd : ls.getD (k - 1) 0 = ls[k - 1]'(by omega) := getD_get (by omega)
  refine ⟨ls[k - 1]'(by omega), b, off, hgd.symm, h0.1, h0.2, rfl, hat (k - 1) (by omega), ?_⟩
  exact l.lk.cell (plN_bd (by omega) h0.2).2
set_option maxRecDepth 8000 in
set_option maxHeartbeats 1000000 in
theorem led_leader (l : Lg w0 w hi G q mv h g al cap ls) (hs : Sen w eN eI) (k : Nat) (hk : 1 ≤ k ∧ k ≤ ls.length) (hl : ls.length ≤ 15) (hls : ∀ j (hj : j < ls.length), 0 ≤ ls[j] ∧ ls[j] ≤ 6) (hi' : IntsAt w al ls) (hp : ∀ y ∈ g, inPl y) :
    Calls Tryz.prog 44 #[.pointer (some ⟨q, 0, none⟩), .int .i64 k] w fun e w' => ((ldZ g ls k = -1 ∧ e = .returned (.tuple #[.pointer none, .iface 160 (.pointer (some eN))])) ∨
      ∃ (j : Nat) (hj : j < g.length) (p : Nat), ldZ g ls k = j ∧ h (plN g[j].r g[j].a) = ptrV p ∧ e = .returned (.tuple #[.pointer (some ⟨p, 0, none⟩), .nilIface])) ∧ Drawn w w' := by
  obtain ⟨L, b, off, hL, hL0, hL6, rfl, hlc, hpc⟩ := led_at l k hk hl hls hi'
  obtain ⟨hk1, hk2⟩ := hk
  have c0 := l.st.cell 0 (v := .pointer (some ⟨G, 0, none⟩)) rfl
  have c1 := l.st.cell 1 (v := .slice (some ⟨b, off, none⟩) ls.length cap) rfl
  have hgN := hs.gN
  obtain ⟨o1, ho1, ho2⟩ := run_place G (2 * (k : Int) - 1) L (by omega) (by omega) hL0 hL6
  have Hz := Lib.hid (show ldZ g ls k = findZ g (2 * (k : Int) - 1) L by unfold ldZ; rw [hL])
  have e1 : IntKind.i64.wrap ((k : Int) - 1) = k - 1 := IntWalk.i64_in _ (by omega)
  have e2 : ((k : Int) - 1).toNat = k - 1 := by omega
  have e3 : 0 ≤ (k : Int) - 1 := by omega
  have e4 : (k : Int) - 1 < ls.length := by omega
  have e5 : 1 ≤ (k : Int) := by omega
  have e6 : (k : Int) ≤ 15 := by omega
  have e7 : decide ((k : Int) < 1) = false := decide_eq_false (by omega)
  have e8 : decide ((ls.length : Int) < (k : Int)) = false := decide_eq_false (by omega)
  have Hcase := Lib.hid (findZ_cases g (2 * (k : Int) - 1) L)
  have HLk := Lib.hid l
  have Hp := Lib.hid hp
  clear hs hls hi' hL l hp
  by_cases hz : ∃ (j : Nat) (hj : j < g.length), findZ g (2 * (k : Int) - 1) L = j ∧ g[j].r = 2 * (k : Int) - 1 ∧ g[j].a = L
  · obtain ⟨j, hj, ez, er, ea⟩ := hz
    obtain ⟨p, hq', _⟩ := HLk.out.lk.has g[j] (List.getElem_mem hj)
    have Hq := Lib.hid hq'
    rw [er, ea] at hq'
    rw [hq'] at hpc
    unfold ptrV at hpc
    have Hr := Lib.hid (show ldZ g ls k = j by rw [Hz.out, ez])
    clear hq' er ea ez
    go_enter Tryz.func44, Tryz.ntmps44
    go_wp2_with fail
    go_quiet (fail)
    go_wp2
    go_ret2
    exact ⟨.inr ⟨j, hj, p, Hr.out, Hq.out, rfl⟩, (Drawn.refl _).drewN _⟩
  · have hno : findZ g (2 * (k : Int) - 1) L = -1 ∧ ∀ y ∈ g, ¬ (y.r = 2 * (k : Int) - 1 ∧ y.a = L) := by
      rcases Hcase.out with ⟨e, hn⟩ | ⟨j, hj, e, hy, _⟩
      · exact ⟨e, fun y hy e2 => by have := hn y hy; unfold sameRA at this; simp at this; omega⟩
      · exact absurd ⟨j, hj, e, of_decide_eq_true hy⟩ hz
    have Hr := Lib.hid (show ldZ g ls k = -1 by rw [Hz.out]; exact hno.1)
    rw [HLk.out.lk.non _ _ (by omega) (by omega) hL0 hL6 hno.2] at hpc
    clear hno hz
    go_enter Tryz.func44, Tryz.ntmps44
    go_wp2_with fail
    go_quiet (fail)
    go_wp2_with fail
    go_quiet (fail)
    go_wp2
    go_ret2
    exact ⟨.inl ⟨Hr.out, rfl⟩, ((Drawn.refl _).drewN _).drewN _⟩
end

end Go.Proofs.YtjaacdapibokiabGreatDoor

/- impl's votes for a leader vertex and the library's search among pointers, each by a walk of its text; conditions: the graph and the leaders are valid, lists are shorter than 2^40. -/
namespace Go.Proofs.YtjaacdapibokiabGreatDoor
open Go.RowKit

/-- All that holds of a valid graph with valid leaders. -/
structure Good21 (c : List Int) (g : List Vx) (ls : List Int) : Prop where
  gb : graphB c g = true
  hv : validB c = true
  srt : Srt g
  pl : ∀ y ∈ g, inPl y
  aut : ∀ y ∈ g, 0 ≤ y.a ∧ y.a < (c.length : Int)
  par : Par g
  r0 : ∀ y ∈ g, y.r = 0 → y.ps.length = 0
  ps : ∀ y ∈ g, y.ps.length ≤ 1099511627776
  l15 : ls.length ≤ 15
  l6 : ∀ j (hj : j < ls.length), 0 ≤ ls[j] ∧ ls[j] ≤ 6
theorem good21 {c : List Int} {g : List Vx} {ls : List Int} (h : waB c g ls = true) (hps : ∀ x ∈ g, x.ps.length ≤ 1099511627776) : Good21 c g ls := by
  unfold waB at h; simp only [Bool.and_eq_true] at h
  obtain ⟨hgb, hl⟩ := h
  have hv : validB c = true := by have h := hgb; unfold graphB at h; simp only [Bool.and_eq_true] at h; exact h.1
  have hvx := graph_vtx hgb
  have hc7 := (validB_len hv).2
  obtain ⟨h15, h6⟩ := ldAt hl
  refine ⟨hgb, hv, graph_sorted hgb, fun y hy => vtx_pl hv (hvx y hy), fun y hy => by have := vtx_author (hvx y hy); exact this, ?_, fun y hy e => vtx_r0 (hvx y hy) e, hps, h15, fun j hj => by have := h6 j hj; omega⟩
  intro y hy p hp
  obtain ⟨i, hi, rfl⟩ := List.mem_iff_getElem.1 hy
  obtain ⟨k, hk, rfl⟩ := List.mem_iff_getElem.1 hp
  obtain ⟨j, hj, e⟩ := graph_parents hgb i hi k hk
  rcases findZ_cases g (g[i].r - 1) g[i].ps[k] with ⟨e', _⟩ | ⟨j', hj', e', hs, _⟩
  · omega
  · exact ⟨g[j'], List.getElem_mem hj', (of_decide_eq_true hs).1, (of_decide_eq_true hs).2⟩

/-! the votes, place by place -/
theorem votSum_filter {f : Vx → Int} {p : Vx → Bool} : ∀ (g : List Vx), (∀ y ∈ g, p y = false → f y = 0) → ((g.filter p).map f).sum = (g.map f).sum
  | [], _ => rfl
  | x :: g, h => by
    have ih := votSum_filter g fun y hy => h y (List.mem_cons_of_mem _ hy)
    cases hp : p x with
    | true => rw [List.filter_cons, if_pos hp, List.map_cons, List.map_cons, List.sum_cons, List.sum_cons, ih]
    | false => rw [List.filter_cons, if_neg (by rw [hp]; simp), List.map_cons, List.sum_cons, ih, h x (by simp) hp]; omega
def votP (c : List Int) (L : Int) (r : Nat) (g : List Vx) (a : Nat) : Int := ((outZ g r a).map (votC c L r)).sum
theorem votP_zero {c : List Int} {L : Int} {r : Nat} {g : List Vx} (h : ∀ v ∈ g, inPl v) : votP c L r g 0 = 0 := by
  unfold votP
  have : ∀ (l : List Vx), (∀ y ∈ l, y.r < (r : Int)) → (l.map (votC c L r)).sum = 0 := by
    intro l
    induction l with
    | nil => intro _; rfl
    | cons x l ih =>
      intro hl
      rw [List.map_cons, List.sum_cons, ih fun y hy => hl y (List.mem_cons_of_mem _ hy)]
      have := hl x (by simp)
      unfold votC
      rw [if_neg (by omega)]; omega
  refine this _ fun y hy => ?_
  unfold outZ at hy
  obtain ⟨hm, hp⟩ := List.mem_filter.1 hy
  have := h y hm
  unfold inPl at this
  unfold plB at hp
  simp at hp; omega
theorem votP_all {c : List Int} {L : Int} {r : Nat} {g : List Vx} (h : ∀ v ∈ g, inPl v) : votP c L r g 7 = votTo c L r g g.length := by
  unfold votP votTo outZ
  rw [List.take_length]
  refine votSum_filter g fun y hy hp => ?_
  have := h y hy
  unfold inPl at this
  unfold plB at hp
  simp at hp
  unfold votC
  rw [if_neg (by omega)]
theorem votP_yes {c : List Int} {L : Int} {r a : Nat} {g : List Vx} {y : Vx} (hs : Srt g) (hy : y ∈ g) (hr : y.r = r) (ha : y.a = a) : votP c L r g (a + 1) = votP c L r g a + (if hasB y.ps L = true then c.getD a 0 else 0) := by
  unfold votP
  rw [outZ_yes hs hy hr ha, List.map_append, List.sum_append]
  congr 1
  show votC c L r y + 0 = _
  unfold votC
  rw [ha, Int.toNat_natCast]
  by_cases hh : hasB y.ps L = true
  · rw [if_pos ⟨hr, hh⟩, if_pos hh]; omega
  · rw [if_neg (fun e => hh e.2), if_neg hh]; rfl
theorem votP_no {c : List Int} {L : Int} {r a : Nat} {g : List Vx} (hs : Srt g) (hn : ∀ v ∈ g, ¬ (v.r = (r : Int) ∧ v.a = (a : Int))) : votP c L r g (a + 1) = votP c L r g a := by
  unfold votP
  rw [outZ_no hs hn]
theorem votP_bd {c : List Int} {L : Int} {r a : Nat} {g : List Vx} (hv : validB c = true) : 0 ≤ votP c L r g a ∧ votP c L r g a ≤ 9 * g.length := by
  have h := votTo_bd (c := c) (L := L) (r := r) (g := outZ g r a) hv _ (Nat.le_refl _)
  have hl := outZ_len g r a
  unfold votTo at h
  rw [List.take_length] at h
  unfold votP
  omega

/-- A pointer is among a vertex's parents exactly if its author is. -/
theorem nd_has {w0 w : World} {hi G : Nat} {mv : Value} {h : Nat → Value} {g : List Vx} (l : Lk w0 w hi G mv h g) (hpar : Par g) {y z : Vx} (hy : y ∈ g) (hz : z ∈ g) (hr : z.r = y.r - 1) {p : Nat} (hp : h (plN z.r z.a) = ptrV p) {qs : List Nat} (hl : qs.length = y.ps.length)
    (hq : ∀ j (hj : j < qs.length) (hj' : j < y.ps.length), h (plN (y.r - 1) y.ps[j]) = ptrV qs[j]) : p ∈ qs ↔ hasB y.ps z.a = true := by
  have hinj : ∀ a b : Nat, ptrV a = ptrV b → a = b := fun a b e => by unfold ptrV at e; simpa using e
  constructor
  · intro hm
    obtain ⟨i, hi', e⟩ := List.mem_iff_getElem.1 hm
    have hii : i < y.ps.length := by omega
    obtain ⟨x, hx, hxr, hxa⟩ := hpar y hy y.ps[i] (List.getElem_mem hii)
    obtain ⟨qx, hqx, nx⟩ := l.has x hx
    obtain ⟨qz, hqz, nz⟩ := l.has z hz
    have h1 := hq i hi' hii
    rw [hxr, hxa, h1] at hqx
    have e1 := hinj _ _ hqx
    rw [hp] at hqz
    have e2 := hinj _ _ hqz
    have e3 : qx = qz := by rw [← e1, ← e2, e]
    obtain ⟨_, _, _, _, sx, _⟩ := nx.ex
    obtain ⟨_, _, _, _, sz, _⟩ := nz.ex
    rw [e3] at sx
    have e4 := (sx.cell 1 (v := .int .i64 x.a) rfl).symm.trans (sz.cell 1 (v := .int .i64 z.a) rfl)
    have e5 : x.a = z.a := by simpa using e4
    rw [← e5, hxa]
    exact hasB_yes hii
  · intro hh
    have hm : z.a ∈ y.ps := of_decide_eq_true hh
    obtain ⟨i, hi', e⟩ := List.mem_iff_getElem.1 hm
    have h1 := hq i (by omega) hi'
    rw [e, ← hr, hp] at h1
    rw [hinj _ _ h1]
    exact List.getElem_mem _

theorem lv_size : (Tryz.prog.info? 66).map (·.size) = some 5 := by kernel_rfl
set_option maxRecDepth 8000 in
theorem lib_IndexP (pp : Option Addr) (pcap : Nat) (qs : List Nat) (p B : Nat) (w : World) (hbig : qs.length ≤ 1099511627776) (ho : OwnP 62 w B (.slice pp qs.length pcap) qs) (hb : ∀ x, x = p ∨ x ∈ qs → ∃ c t, w.heap[x]? = some (.cells c t (0, 0))) :
    Calls Tryz.prog 107 #[.slice pp qs.length pcap, .pointer (some ⟨p, 0, none⟩)] w fun e w' => (∃ z : Int, e = .returned (.int .i64 z) ∧ (p ∈ qs → 0 ≤ z) ∧ (p ∉ qs → z = -1)) ∧ w = w' := by
  obtain ⟨i5, hi5, hsz⟩ := Option.map_eq_some_iff.1 lv_size
  have Ho := Lib.hid ho; have Hb := Lib.hid hb
  clear ho hb
  go_enter Tryz.func107, Tryz.ntmps107
  go_wp2
  go_loopw [8] (fun i wr => ∃ k : Nat, k ≤ qs.length ∧ i = .int .i64 k ∧ Hid (∀ j (hj : j < qs.length), j < k → qs[j] ≠ p) ∧ w = wr) (fun i _ => qs.length - (intOf i).toNat)
  case atStart => exact ⟨0, by omega, rfl, Lib.hid (fun j _ h => by omega), rfl⟩
  case round =>
    obtain ⟨k, hk, rfl, hup, rfl⟩ := hrel
    by_cases hlt : k < qs.length
    · obtain ⟨gb, cap', hpe, _, _, hcell⟩ := Ho.out.cell k hlt
      obtain ⟨rfl, rfl⟩ : pp = some ⟨gb, 0, none⟩ ∧ pcap = cap' := by simpa using hpe
      unfold ptrV at hcell
      clear hpe
      by_cases e : qs[k] = p
      · have hcell2 : w.cell? ⟨gb, k, none⟩ = some (.pointer (some ⟨p, 0, none⟩)) := by rw [hcell, e]
        have heq := run_eql_ptr_same (P := Tryz.prog) w ⟨p, 0, none⟩ Tryz.underlying62 hi5
        have hm : p ∈ qs := by rw [← e]; exact List.getElem_mem hlt
        have Hm := Lib.hid hm
        clear hcell hm e
        go_wp2
        go_ret
        exact ⟨⟨_, rfl, fun _ => by omega, fun h => absurd Hm.out h⟩, rfl⟩
      · obtain ⟨ca, ta, ha⟩ := Hb.out p (.inl rfl)
        obtain ⟨cb, tb, hb⟩ := Hb.out qs[k] (.inr (List.getElem_mem hlt))
        have heq := run_eql_ptr_other (P := Tryz.prog) w (a := ⟨p, 0, none⟩) (b := ⟨qs[k], 0, none⟩) Tryz.underlying62 hi5 (by rw [hsz]; decide) (fun h => e (by injection h with h1; exact h1.symm)) ha hb
        have Hs := Lib.hid (show ∀ j (hj : j < qs.length), j < k + 1 → qs[j] ≠ p from fun j hj hjk => by
          by_cases e2 : j = k
          · subst e2; exact e
          · exact hup.out j hj (by omega))
        clear e ha hb hup
        generalize qs[k] = y at *
        go_wp2
        go_roundw
        case rel => exact ⟨k + 1, by omega, by go_num, Lib.hid Hs.out, trivial⟩
        case measure => simp [intOf]; omega
    · go_wp2
      go_ret
      refine ⟨⟨_, rfl, fun h => ?_, fun _ => rfl⟩, rfl⟩
      obtain ⟨j, hj, e⟩ := List.mem_iff_getElem.1 h
      exact absurd e (hup.out j hj (by omega))

theorem lib_ContainsP (pp : Option Addr) (pcap : Nat) (qs : List Nat) (p B : Nat) (w : World) (hbig : qs.length ≤ 1099511627776) (ho : OwnP 62 w B (.slice pp qs.length pcap) qs) (hb : ∀ x, x = p ∨ x ∈ qs → ∃ c t, w.heap[x]? = some (.cells c t (0, 0))) :
    Calls Tryz.prog 96 #[.slice pp qs.length pcap, .pointer (some ⟨p, 0, none⟩)] w fun e w' => e = .returned (.bool (decide (p ∈ qs))) ∧ w = w' := by
  have H := Lib.hid (lib_IndexP pp pcap qs p B w hbig ho hb)
  clear ho hb
  go_enter Tryz.func96, Tryz.ntmps96
  go_wp2_with fail
  refine H.out.mono ?_
  rintro e w1 ⟨⟨z, rfl, h1, h2⟩, rfl⟩
  by_cases hm : p ∈ qs
  · have hz := h1 hm
    have Hr := Lib.hid (show decide (p ∈ qs) = true from decide_eq_true hm)
    have hz' : decide (0 ≤ z) = true := decide_eq_true hz
    clear h1 h2 hm
    go_wp2
    go_ret
    exact ⟨by rw [Hr.out]; rfl, rfl⟩
  · have hz := h2 hm
    subst hz
    have Hr := Lib.hid (show decide (p ∈ qs) = false from decide_eq_false hm)
    clear h1 h2 hm
    go_wp2
    go_ret
    exact ⟨by rw [Hr.out]; rfl, rfl⟩

end Go.Proofs.YtjaacdapibokiabGreatDoor

/- Plain arithmetic of sets of members and their weights; no walk and no condition of our own. -/
namespace Go.Proofs.YtjaacdapibokiabGreatDoor

/-- Ascending members below n. -/
def AscP (n : Nat) (ms : List Int) : Prop := ms.Pairwise (· < ·) ∧ ∀ m ∈ ms, 0 ≤ m ∧ m < n
theorem ascP_of {n : Nat} {ms : List Int} (h : membersB n ms = true) : AscP n ms := by
  have step : ∀ d i (hi : i + 1 + d < ms.length), ms[i] < ms[i + 1 + d] := by
    intro d
    induction d with
    | zero =>
      intro i hi
      have := okAt_bd hi (allB_upto h (i + 1) hi)
      rcases this.2.2 with h0 | h0
      · omega
      · rw [show i + 1 + 0 - 1 = i by omega, getD_get (by omega)] at h0; exact h0
    | succ d ih =>
      intro i hi
      have h1 := ih i (by omega)
      have := okAt_bd hi (allB_upto h (i + 1 + (d + 1)) hi)
      rcases this.2.2 with h0 | h0
      · omega
      · rw [show i + 1 + (d + 1) - 1 = i + 1 + d by omega, getD_get (by omega)] at h0
        exact Int.lt_trans h1 h0
  refine ⟨List.pairwise_iff_getElem.2 fun i j hi hj hij => ?_, fun m hm => ?_⟩
  · have := step (j - i - 1) i (by omega)
    simpa [show i + 1 + (j - i - 1) = j by omega] using this
  · obtain ⟨j, hj, rfl⟩ := List.mem_iff_getElem.1 hm
    exact membersB_at h j hj
theorem of_ascP {n : Nat} {ms : List Int} (h : AscP n ms) : membersB n ms = true := by
  unfold membersB
  refine allB_yes (k := ms.length) (fun j hj => ?_) (Nat.le_refl _)
  have hb := h.2 ms[j] (List.getElem_mem hj)
  refine okAt_yes hj hb.1 hb.2 ?_
  by_cases h0 : j = 0
  · exact .inl h0
  · refine .inr ?_
    rw [getD_get (by omega)]
    exact List.pairwise_iff_getElem.1 h.1 (j - 1) j (by omega) hj (by omega)
theorem ascP_filter {n : Nat} {ms : List Int} (p : Int → Bool) (h : AscP n ms) : AscP n (ms.filter p) :=
  ⟨h.1.filter p, fun m hm => h.2 m (List.mem_filter.1 hm).1⟩
theorem ascP_rangeF (p : Nat → Bool) (n : Nat) : AscP n (rangeF p n) := by
  induction n with
  | zero => exact ⟨by simp [rangeF], by simp [rangeF]⟩
  | succ n ih =>
    cases hp : p n with
    | false => rw [rangeF_no hp]; exact ⟨ih.1, fun m hm => by have := ih.2 m hm; omega⟩
    | true =>
      rw [rangeF_yes hp]
      refine ⟨List.pairwise_append.2 ⟨ih.1, by simp, fun a ha b hb => ?_⟩, fun m hm => ?_⟩
      · simp at hb; subst hb; exact (ih.2 a ha).2
      · rcases List.mem_append.1 hm with hm | hm
        · have := ih.2 m hm; omega
        · simp at hm; omega
theorem mem_rangeF {p : Nat → Bool} {n i : Nat} : (i : Int) ∈ rangeF p n ↔ i < n ∧ p i = true := by
  unfold rangeF
  simp only [List.mem_map, List.mem_filter, List.mem_range]
  constructor
  · rintro ⟨a, h, e⟩
    obtain rfl : a = i := by omega
    exact h
  · intro h; exact ⟨i, h, rfl⟩

/-- f 0 + .. + f (n - 1). -/
def isum (f : Nat → Int) : Nat → Int
  | 0 => 0
  | n + 1 => isum f n + f n
theorem isum_congr {f g : Nat → Int} {n : Nat} (h : ∀ i, i < n → f i = g i) : isum f n = isum g n := by
  induction n with
  | zero => rfl
  | succ n ih => simp only [isum]; rw [ih (fun i hi => h i (by omega)), h n (by omega)]
theorem isum_add (f g : Nat → Int) (n : Nat) : isum (fun i => f i + g i) n = isum f n + isum g n := by
  induction n with
  | zero => rfl
  | succ n ih => simp only [isum]; rw [ih]; omega
theorem isum_le {f g : Nat → Int} {n : Nat} (h : ∀ i, i < n → f i ≤ g i) : isum f n ≤ isum g n := by
  induction n with
  | zero => exact Int.le_refl _
  | succ n ih => simp only [isum]; have := ih (fun i hi => h i (by omega)); have := h n (by omega); omega
theorem isum_total (c : List Int) : isum (fun i => c.getD i 0) c.length = totalZ c := by
  have : ∀ k, k ≤ c.length → isum (fun i => c.getD i 0) k = sumTo c k := by
    intro k
    induction k with
    | zero => intro _; rfl
    | succ k ih => intro hk; simp only [isum]; rw [ih (by omega), sumTo_succ (by omega), getD_get (by omega)]
  exact this _ (Nat.le_refl _)

/-- The weight of i if it is among ms. -/
def wAt (c ms : List Int) (i : Nat) : Int := if hasB ms i = true then c.getD i 0 else 0
theorem weightTo_app (c ms : List Int) (x : Int) : weightZ c (ms ++ [x]) = weightZ c ms + c.getD x.toNat 0 := by
  unfold weightZ
  rw [List.length_append]
  simp only [List.length_cons, List.length_nil]
  rw [weightTo_succ (by simp)]
  congr 1
  · unfold weightTo; simp
  · simp
theorem weight_isum (c : List Int) : ∀ (n : Nat) (ms : List Int), AscP n ms → weightZ c ms = isum (wAt c ms) n := by
  intro n
  induction n with
  | zero =>
    intro ms h
    cases ms with
    | nil => rfl
    | cons m ms => have := h.2 m (by simp); omega
  | succ n ih =>
    intro ms h
    simp only [isum]
    rcases List.eq_nil_or_concat ms with rfl | ⟨l, x, rfl⟩
    · rw [← ih [] ⟨by simp, by simp⟩]; simp [wAt, hasB]
    · rw [List.concat_eq_append] at h ⊢
      have hp := List.pairwise_append.1 h.1
      have hx := h.2 x (by simp)
      have hl : ∀ m ∈ l, 0 ≤ m ∧ m < x := fun m hm => ⟨(h.2 m (by simp [hm])).1, hp.2.2 m hm x (by simp)⟩
      by_cases hxn : x = n
      · subst hxn
        have h1 := ih l ⟨hp.1, fun m hm => ⟨(hl m hm).1, by have := hl m hm; omega⟩⟩
        rw [weightTo_app, h1]
        congr 1
        · refine isum_congr fun i hi => ?_
          unfold wAt hasB
          have : ((i : Int) ∈ l ++ [(n : Int)]) = ((i : Int) ∈ l) := by
            rw [List.mem_append]; simp; omega
          simp only [this]
        · unfold wAt hasB; simp
      · have h1 := ih (l ++ [x]) ⟨h.1, fun m hm => by
          have := h.2 m hm
          rcases List.mem_append.1 hm with hm | hm
          · have := hl m hm; omega
          · simp at hm; omega⟩
        rw [h1]
        have : wAt c (l ++ [x]) n = 0 := by
          unfold wAt hasB
          rw [if_neg]
          rw [decide_eq_true_eq]
          intro hm
          rcases List.mem_append.1 hm with hm | hm
          · have := hl _ hm; omega
          · simp at hm; omega
        omega

theorem hasB_common (a b : List Int) (i : Int) : hasB (commonZ a b) i = (hasB a i && hasB b i) := by
  rw [commonZ_eq, Bool.eq_iff_iff]
  simp [hasB, List.mem_filter]
theorem c_nonneg {c : List Int} (h : validB c = true) (i : Nat) (hi : i < c.length) : 0 ≤ c.getD i 0 := by have := good_getD h hi; omega

/-- Two sets weigh no more together than all members and what is common. -/
theorem weights_meet {c a b : List Int} (h : validB c = true) (ha : AscP c.length a) (hb : AscP c.length b) : weightZ c a + weightZ c b ≤ totalZ c + weightZ c (commonZ a b) := by
  have hc : AscP c.length (commonZ a b) := by rw [commonZ_eq]; exact ascP_filter _ ha
  rw [weight_isum c _ a ha, weight_isum c _ b hb, weight_isum c _ _ hc, ← isum_total, ← isum_add, ← isum_add]
  refine isum_le fun i hi => ?_
  have := c_nonneg h i hi
  unfold wAt
  rw [hasB_common]
  generalize c.getD i 0 = x at *
  cases hasB a i <;> cases hasB b i <;> simp <;> omega
/-- Weights are added. -/
theorem weights_add {c a b : List Int} (ha : AscP c.length a) (hb : AscP c.length b) :
    weightZ c a + weightZ c b = weightZ c (rangeF (fun i => hasB a i || hasB b i) c.length) + weightZ c (commonZ a b) := by
  have hc : AscP c.length (commonZ a b) := by rw [commonZ_eq]; exact ascP_filter _ ha
  have hu := ascP_rangeF (fun i => hasB a i || hasB b i) c.length
  rw [weight_isum c _ a ha, weight_isum c _ b hb, weight_isum c _ _ hc, weight_isum c _ _ hu, ← isum_add, ← isum_add]
  refine isum_congr fun i hi => ?_
  unfold wAt
  rw [hasB_common]
  have : hasB (rangeF (fun i => hasB a i || hasB b i) c.length) i = (hasB a i || hasB b i) := by
    rw [Bool.eq_iff_iff]; unfold hasB; rw [decide_eq_true_eq, mem_rangeF]; simp [hi]
  rw [this]
  cases hasB a i <;> cases hasB b i <;> simp

/-- The weight of all members. -/
theorem weight_all {c : List Int} (h : validB c = true) : weightZ c (rangeF (bitB 127) c.length) = totalZ c := by
  rw [weight_isum c _ _ (ascP_rangeF _ _), ← isum_total]
  refine isum_congr fun i hi => ?_
  have hl := validB_len h
  have h7 : bitB 127 i = true := by
    have : i < 7 := by omega
    match i, this with
    | 0, _ => rfl
    | 1, _ => rfl
    | 2, _ => rfl
    | 3, _ => rfl
    | 4, _ => rfl
    | 5, _ => rfl
    | 6, _ => rfl
  have : hasB (rangeF (bitB 127) c.length) i = true := decide_eq_true (mem_rangeF.2 ⟨hi, h7⟩)
  unfold wAt
  rw [if_pos this]

theorem mwZ_of {c ms : List Int} (h : validB c = true) (hm : AscP c.length ms) : mwZ c ms = weightZ c ms := mwZ_yes (by rw [mvB_yes h]; exact of_ascP hm)
theorem mwZ_rangeF {c : List Int} (h : validB c = true) (p : Nat → Bool) : mwZ c (rangeF p c.length) = weightZ c (rangeF p c.length) := mwZ_of h (ascP_rangeF p _)

theorem weight_bd {c a : List Int} (h : validB c = true) (ha : AscP c.length a) : 0 ≤ weightZ c a ∧ weightZ c a ≤ totalZ c := by
  have h0 : isum (fun _ => 0) c.length = 0 := by
    generalize c.length = n
    induction n with
    | zero => rfl
    | succ n ih => simp only [isum]; rw [ih]; rfl
  rw [weight_isum c _ a ha, ← isum_total]
  refine ⟨Int.le_trans (Int.le_of_eq h0.symm) (isum_le fun i hi => ?_), isum_le fun i hi => ?_⟩ <;> (have := c_nonneg h i hi; unfold wAt; split <;> omega)
theorem ascP_common {n : Nat} {a b : List Int} (ha : AscP n a) : AscP n (commonZ a b) := by rw [commonZ_eq]; exact ascP_filter _ ha
theorem common_pos {c a b : List Int} (h : 0 < weightZ c (commonZ a b)) : 0 < (commonZ a b).length := by
  rcases Nat.eq_zero_or_pos (commonZ a b).length with h0 | h0
  · rw [List.eq_nil_of_length_eq_zero h0] at h; exact absurd h (by simp [weightZ, weightTo])
  · exact h0

theorem validB_iff (c : List Int) : validB c = true ↔ (1 ≤ c.length ∧ c.length ≤ 7) ∧ ∀ x ∈ c, 1 ≤ x ∧ x ≤ 9 := by
  unfold validB goodB
  rw [Bool.and_eq_true, decide_eq_true_eq, List.all_eq_true]
  simp
theorem valid_less {c : List Int} {k : Nat} (h : validB c = true) (hk : k < c.length) (h1 : c.length ≠ 1) : validB (c.take k ++ c.drop (k + 1)) = true := by
  rw [validB_iff] at h ⊢
  refine ⟨?_, fun x hx => h.2 x ?_⟩
  · rw [List.length_append, List.length_take, List.length_drop]; omega
  · rcases List.mem_append.1 hx with hx | hx
    · exact List.mem_of_mem_take hx
    · exact List.mem_of_mem_drop hx
theorem valid_zero {c : List Int} {k : Nat} (hk : k < c.length) : validB (c.set k 0) = false := by
  rw [Bool.eq_false_iff]
  intro h
  rw [validB_iff] at h
  have := h.2 0 (List.mem_set hk 0)
  omega

theorem members_less {n : Nat} {ms : List Int} {k : Nat} (h : AscP n ms) : AscP n (ms.take k ++ ms.drop (k + 1)) := by
  have hsub : (ms.take k ++ ms.drop (k + 1)).Sublist ms := by rw [← List.eraseIdx_eq_take_drop_succ]; exact List.eraseIdx_sublist ms k
  exact ⟨h.1.sublist hsub, fun m hm => h.2 m (hsub.subset hm)⟩
theorem members_twice {n : Nat} {ms : List Int} {k : Nat} (hk : k < ms.length) : membersB n (ms.take (k + 1) ++ ms.drop k) = false := by
  rw [Bool.eq_false_iff]
  intro h
  have hp := (List.pairwise_append.1 (ascP_of h).1).2.2 ms[k] (by rw [List.mem_take_iff_getElem]; exact ⟨k, by omega, rfl⟩) ms[k] (by rw [List.mem_drop_iff_getElem]; exact ⟨0, by omega, by simp⟩)
  omega

end Go.Proofs.YtjaacdapibokiabGreatDoor

/- A wave that is committed directly is reached by every later vertex: a quorum and a supporting set have a member in common; plain facts, nothing here speaks of the program. -/
namespace Go.Proofs.YtjaacdapibokiabGreatDoor
open Go.RowKit

/-- Whether the author i votes in round r for the vertex of L. -/
def vB (g : List Vx) (L : Int) (r : Nat) (i : Nat) : Bool := g.any fun y => decide (y.r = (r : Int) ∧ y.a = (i : Int)) && hasB y.ps L
theorem vB_of {g : List Vx} {L : Int} {r i : Nat} (h : vB g L r i = true) : ∃ y ∈ g, y.r = (r : Int) ∧ y.a = (i : Int) ∧ L ∈ y.ps := by
  unfold vB at h
  obtain ⟨y, hy, hh⟩ := List.any_eq_true.1 h
  simp only [Bool.and_eq_true, decide_eq_true_eq] at hh
  exact ⟨y, hy, hh.1.1, hh.1.2, of_decide_eq_true hh.2⟩
theorem votP_isum {c : List Int} {L : Int} {r : Nat} {g : List Vx} (hs : Srt g) (hp : ∀ v ∈ g, inPl v) : ∀ a, votP c L r g a = isum (fun i => if vB g L r i = true then c.getD i 0 else 0) a
  | 0 => by rw [votP_zero hp]; rfl
  | a + 1 => by
    have ih := votP_isum (c := c) (L := L) (r := r) hs hp a
    by_cases he : ∃ y ∈ g, y.r = (r : Int) ∧ y.a = (a : Int)
    · obtain ⟨y, hy, er, ea⟩ := he
      rw [votP_yes hs hy er ea, ih]
      have e : vB g L r a = hasB y.ps L := by
        rw [Bool.eq_iff_iff]
        constructor
        · intro h
          obtain ⟨z, hz, zr, za, hm⟩ := vB_of h
          have : z = y := srt_uni hs hz hy (by omega) (by omega)
          rw [← this]; exact decide_eq_true hm
        · intro h
          unfold vB
          exact List.any_eq_true.2 ⟨y, hy, by rw [h, decide_eq_true ⟨er, ea⟩]; rfl⟩
      show _ = isum _ a + (if vB g L r a = true then c.getD a 0 else 0)
      rw [e]
    · have hn : ∀ v ∈ g, ¬ (v.r = (r : Int) ∧ v.a = (a : Int)) := fun v hv e => he ⟨v, hv, e⟩
      rw [votP_no hs hn, ih]
      have e : vB g L r a = false := by
        cases h : vB g L r a with
        | false => rfl
        | true =>
          obtain ⟨z, hz, zr, za, _⟩ := vB_of h
          exact absurd ⟨zr, za⟩ (hn z hz)
      show _ = isum _ a + (if vB g L r a = true then c.getD a 0 else 0)
      rw [e]; simp

theorem isum_cut {f : Nat → Int} : ∀ (d n : Nat), (∀ i, n ≤ i → f i = 0) → isum f (n + d) = isum f n
  | 0, _, _ => rfl
  | d + 1, n, h => by rw [← Nat.add_assoc]; show isum f (n + d) + f (n + d) = _; rw [isum_cut d n h, h (n + d) (by omega)]; omega
theorem voZ_isum {c : List Int} {g : List Vx} {ls : List Int} {w : Nat} (ok : Good21 c g ls) (h0 : 0 ≤ ldZ g ls w) : voZ c g ls w = isum (fun i => if vB g (ls.getD (w - 1) 0) (2 * w) i = true then c.getD i 0 else 0) c.length := by
  have h7 := (validB_len ok.hv).2
  unfold voZ
  rw [if_pos h0, show (2 * (w : Int)) = ((2 * w : Nat) : Int) by omega, ← votP_all ok.pl, votP_isum ok.srt ok.pl]
  have := isum_cut (f := fun i => if vB g (ls.getD (w - 1) 0) (2 * w) i = true then c.getD i 0 else 0) (7 - c.length) c.length (fun i hi => by
    split
    · simp [List.getD, List.getElem?_eq_none hi]
    · rfl)
  rw [← this, show c.length + (7 - c.length) = 7 by omega]
/-- A quorum and the voters for a wave that is committed directly have a member in common. -/
theorem quo_meet {c : List Int} {g : List Vx} {ls : List Int} {w : Nat} (ok : Good21 c g ls) (hd : dirB c g ls w = true) {ps : List Int} (hm : membersB c.length ps = true) (hq : quorumZ c ≤ weightZ c ps) :
    ∃ y ∈ g, y.r = 2 * (w : Int) ∧ y.a ∈ ps ∧ ls.getD (w - 1) 0 ∈ y.ps := by
  have h0 := dir_has ok.hv hd
  have hd := of_decide_eq_true hd
  rw [voZ_isum ok h0] at hd
  rw [weight_isum c _ ps (ascP_of hm)] at hq
  have hbd := totalZ_bd ok.hv
  unfold quorumZ at hq
  by_cases he : ∃ i, i < c.length ∧ hasB ps i = true ∧ vB g (ls.getD (w - 1) 0) (2 * w) i = true
  · obtain ⟨i, hi, h1, h2⟩ := he
    obtain ⟨y, hy, yr, ya, hl⟩ := vB_of h2
    exact ⟨y, hy, by omega, by rw [ya]; exact of_decide_eq_true h1, hl⟩
  · have hle : isum (fun i => wAt c ps i + (if vB g (ls.getD (w - 1) 0) (2 * w) i = true then c.getD i 0 else 0)) c.length ≤ isum (fun i => c.getD i 0) c.length := isum_le fun i hi => by
      have hc := c_nonneg ok.hv i hi
      have hn : ¬ (hasB ps i = true ∧ vB g (ls.getD (w - 1) 0) (2 * w) i = true) := fun h => he ⟨i, hi, h.1, h.2⟩
      unfold wAt
      by_cases h1 : hasB ps i = true
      · rw [if_pos h1, if_neg (fun h => hn ⟨h1, h⟩)]; omega
      · rw [if_neg h1]
        split <;> omega
    rw [isum_add, isum_total] at hle
    omega

/-- One vertex is reached from another by way of parents. -/
inductive Rch (g : List Vx) : Vx → Vx → Prop where
  | refl (x : Vx) : Rch g x x
  | step {x z y : Vx} (hz : z ∈ g) (hr : z.r = x.r - 1) (ha : z.a ∈ x.ps) (h : Rch g z y) : Rch g x y
theorem Rch.snoc {g : List Vx} {x y z : Vx} (h : Rch g x y) (hz : z ∈ g) (hr : z.r = y.r - 1) (ha : z.a ∈ y.ps) : Rch g x z := by
  induction h with
  | refl x => exact .step hz hr ha (.refl _)
  | step h1 h2 h3 _ ih => exact .step h1 h2 h3 (ih hr ha)
/-- The past of a vertex is what it reaches. -/
theorem past_rch {c : List Int} {g : List Vx} (h : graphB c g = true) {a b : Nat} (ha : a < g.length) (hb : b < g.length) : (pastB g a).getD b false = true ↔ Rch g g[a] g[b] := by
  have hs := graph_sorted h
  obtain ⟨hcl, hca, _⟩ := past_closed h ha
  constructor
  · have key : ∀ n b, (hb : b < g.length) → g.length - b ≤ n → (pastB g a).getD b false = true → Rch g g[a] g[b] := by
      intro n
      induction n with
      | zero => intro b hb hn; omega
      | succ n ih =>
        intro b hb hn hbt
        by_cases e : b = a
        · subst e; exact .refl _
        · obtain ⟨i, hi, hji, hbi, _, er, ep⟩ := past_least h ha b hbt e
          exact (ih i hi (by omega) hbi).snoc (List.getElem_mem hb) (by omega) ep
    exact key (g.length - b) b hb (Nat.le_refl _)
  · have key : ∀ x y, Rch g x y → ∀ i (hi : i < g.length), g[i] = x → (pastB g a).getD i false = true → ∀ j (hj : j < g.length), g[j] = y → (pastB g a).getD j false = true := by
      intro x y hr
      induction hr with
      | refl x =>
        intro i hi e hbt j hj e2
        rwa [pair_uni hs hi hj (by rw [e, e2]) (by rw [e, e2])] at hbt
      | @step x z y hz hzr hza _ ih =>
        intro i hi e hbt j hj e2
        subst e
        obtain ⟨k, hk, ek⟩ := List.mem_iff_getElem.1 hza
        have h1 := hcl i hi (Nat.zero_le _) hbt k hk
        obtain ⟨m, hm, em, em2⟩ := findZ_mem hs hz
        rw [ek, ← hzr, em, Int.toNat_natCast] at h1
        exact ih m hm em2 h1 j hj e2
    intro hr
    exact key _ _ hr a ha rfl hca b hb rfl

/-- What a wave's leader vertex is, as an index. -/
theorem ld_at {g : List Vx} {ls : List Int} {w : Nat} (h : 0 ≤ ldZ g ls w) : ∃ j, ∃ hj : j < g.length, ldZ g ls w = (j : Int) ∧ g[j].r = 2 * (w : Int) - 1 ∧ g[j].a = ls.getD (w - 1) 0 := by
  rcases findZ_cases g (2 * (w : Int) - 1) (ls.getD (w - 1) 0) with ⟨e, _⟩ | ⟨j, hj, e, hsm, _⟩
  · exact absurd (show ldZ g ls w = -1 from e) (by omega)
  · have h2 : g[j].r = 2 * (w : Int) - 1 ∧ g[j].a = ls.getD (w - 1) 0 := of_decide_eq_true hsm
    exact ⟨j, hj, e, h2.1, h2.2⟩
/-- Every later vertex reaches the leader vertex of a wave that is committed directly. -/
theorem dir_reach {c : List Int} {g : List Vx} {ls : List Int} {w : Nat} (ok : Good21 c g ls) (hvx : ∀ y ∈ g, vtxB c y = true) (hw : 1 ≤ w) (hd : dirB c g ls w = true) {L : Vx} (hL : L ∈ g) (hLr : L.r = 2 * (w : Int) - 1) (hLa : L.a = ls.getD (w - 1) 0) :
    ∀ (n : Nat) (v : Vx), v ∈ g → v.r = 2 * (w : Int) + 1 + n → Rch g v L := by
  have quo : ∀ v ∈ g, 1 ≤ v.r → membersB c.length v.ps = true ∧ quorumZ c ≤ weightZ c v.ps := by
    intro v hv h1
    have := hvx v hv
    unfold vtxB quoB at this
    simp only [Bool.and_eq_true] at this
    rw [if_neg (by omega)] at this
    exact ⟨this.2.2.1, of_decide_eq_true this.2.2.2.2⟩
  intro n
  induction n with
  | zero =>
    intro v hv hr
    obtain ⟨hm, hq⟩ := quo v hv (by omega)
    obtain ⟨y, hy, yr, ya, yl⟩ := quo_meet ok hd hm hq
    exact .step hy (by omega) ya (.step hL (by omega) (by rw [hLa]; exact yl) (.refl _))
  | succ n ih =>
    intro v hv hr
    obtain ⟨hm, hq⟩ := quo v hv (by omega)
    have hne : v.ps ≠ [] := by
      intro e
      rw [e] at hq
      have : weightZ c [] = 0 := rfl
      have hbd := totalZ_bd ok.hv
      unfold quorumZ at hq
      omega
    obtain ⟨p, hp⟩ := List.exists_mem_of_ne_nil _ hne
    obtain ⟨z, hz, zr, za⟩ := ok.par v hv p hp
    exact .step hz zr (by rw [za]; exact hp) (ih z hz (by omega))
theorem dir_link {c : List Int} {g : List Vx} {ls : List Int} (ok : Good21 c g ls) (m u : Nat) (hm : 1 ≤ m) (hd : dirB c g ls m = true) (hmu : m < u) (hu : 0 ≤ ldZ g ls u) : lkB g ls u m = true := by
  obtain ⟨j, hj, ej, rj, aj⟩ := ld_at (dir_has ok.hv hd)
  obtain ⟨k, hk, ek, rk, ak⟩ := ld_at hu
  have hr := dir_reach ok (graph_vtx ok.gb) hm hd (List.getElem_mem hj) rj aj (2 * u - 2 - 2 * m) g[k] (List.getElem_mem hk) (by omega)
  unfold lkB linkB
  rw [ej, ek, Int.toNat_natCast, (past_rch ok.gb hk hj).2 hr]
  simp
/-- The committed waves are the whole chain back from the last one that is committed directly. -/
theorem cw_full {c : List Int} {g : List Vx} {ls : List Int} (ok : Good21 c g ls) (m : Nat) : (wvs c g ls m).1 = if (wvs c g ls m).2 = 0 then [] else (fuW (lkB g ls) (wvs c g ls m).2).map Int.ofNat :=
  wvs_full ok.hv (fun m u h1 h2 h3 h4 => dir_link ok m u h1 h2 h3 h4) m

/-- The votes, whether or not there is a leader vertex: without it nobody refers to it. -/
theorem vo_all {c : List Int} {g : List Vx} {ls : List Int} (ok : Good21 c g ls) (w : Nat) : voZ c g ls w = votTo c (ls.getD (w - 1) 0) (2 * (w : Int)) g g.length := by
  unfold voZ
  by_cases h0 : 0 ≤ ldZ g ls w
  · rw [if_pos h0]
  · rw [if_neg h0]
    have hz : ∀ l : List Vx, (∀ y ∈ l, y ∈ g) → (l.map (votC c (ls.getD (w - 1) 0) (2 * (w : Int)))).sum = 0 := by
      intro l
      induction l with
      | nil => intro _; rfl
      | cons y l ih =>
        intro hl
        rw [List.map_cons, List.sum_cons, ih fun z hz => hl z (List.mem_cons_of_mem _ hz)]
        have hy := hl y (by simp)
        unfold votC
        rw [if_neg]
        · omega
        · rintro ⟨hr, hh⟩
          obtain ⟨z, hz, zr, za⟩ := ok.par y hy _ (of_decide_eq_true hh)
          obtain ⟨j, hj, ej, _⟩ := findZ_mem ok.srt hz
          have : ldZ g ls w = j := by unfold ldZ; rw [← ej, zr, za, hr]
          omega
    unfold votTo
    rw [List.take_length]
    exact (hz g fun y hy => hy).symm

theorem hasB_idx {bs : List Bool} {n j : Nat} (hj : j < n) (h : bs.getD j false = true) : hasB (idxTo bs n) (j : Int) = true := by
  unfold hasB idxTo
  refine decide_eq_true (List.mem_map.2 ⟨j, List.mem_filter.2 ⟨List.mem_range.2 hj, h⟩, rfl⟩)
/-- What is committed, element by element. -/
structure CwOk (c : List Int) (g : List Vx) (ls : List Int) (O : List Nat) : Prop where
  ok : waB c g ls = true
  asc : O.Pairwise (· < ·)
  mem : ∀ y ∈ O, 1 ≤ y ∧ y ≤ ls.length ∧ 0 ≤ ldZ g ls y
  lkd : Lkd (lkB g ls) O
  last : ∀ h : O ≠ [], dirB c g ls (O.getLast h) = true
  all : ∀ w, 1 ≤ w → w ≤ ls.length → dirB c g ls w = true → w ∈ O
theorem getLast_snoc {l : List Nat} {x : Nat} (h : l ++ [x] ≠ []) : (l ++ [x]).getLast h = x := by simp
theorem cw_ok {c : List Int} {g : List Vx} {ls : List Int} (ok : waB c g ls = true) (hps : ∀ x ∈ g, x.ps.length ≤ 1099511627776) : ∃ O : List Nat, cwZ c g ls = O.map Int.ofNat ∧ CwOk c g ls O := by
  have gk := good21 ok hps
  have hl := wvs_last (c := c) (g := g) (ls := ls) ls.length
  have hf := cw_full gk ls.length
  have hcw : cwZ c g ls = (wvs c g ls ls.length).1 := by unfold cwZ; rw [if_pos ok]
  by_cases h0 : (wvs c g ls ls.length).2 = 0
  · rw [if_pos h0] at hf
    refine ⟨[], by rw [hcw, hf]; rfl, ok, .nil, (fun y hy => by cases hy), trivial, (fun h => absurd rfl h), fun w h1 h2 h3 => ?_⟩
    have := hl.2.2 w h1 h2 h3
    omega
  · rw [if_neg h0] at hf
    have hd := hl.2.1.resolve_left h0
    have hh := dir_has gk.hv hd
    have hlk : ∀ u x, lkB g ls u x = true → 0 ≤ ldZ g ls x := fun u x => lk_has
    refine ⟨_, by rw [hcw, hf], ok, fuW_asc hlk (by omega), fun y hy => ?_, fuW_lkd _, fun h => ?_, fun w h1 h2 h3 => ?_⟩
    · have := fuW_mem (has := fun u => 0 ≤ ldZ g ls u) hlk (by omega) hh y hy
      exact ⟨this.1, by omega, this.2.2⟩
    · rw [show (fuW (lkB g ls) (wvs c g ls ls.length).2).getLast h = (wvs c g ls ls.length).2 from getLast_snoc h]
      exact hd
    · have hw := hl.2.2 w h1 h2 h3
      have hp := fuW_pre (has := fun u => 0 ≤ ldZ g ls u) hlk h1 hw (fun u hu hh => dir_link gk w u h1 h3 hu hh) hh
      exact hp.subset (by unfold fuW; simp)
theorem cw_none {c : List Int} {g : List Vx} {ls : List Int} (h : waB c g ls = false) : cwZ c g ls = [] := by unfold cwZ; rw [h]; rfl
theorem wl_at {c : List Int} {g : List Vx} {ls : List Int} {y : Nat} (ok : waB c g ls = true) (h1 : 1 ≤ y) (h2 : y ≤ ls.length) : wlZ c g ls (y : Int) = ldZ g ls y ∧ wdB c g ls (y : Int) = dirB c g ls y ∧ wvZ c g ls (y : Int) = voZ c g ls y := by
  have hwl : wlB c g ls (y : Int) = true := by unfold wlB; rw [ok, decide_eq_true ⟨by omega, by omega⟩]; rfl
  refine ⟨?_, ?_, ?_⟩
  · unfold wlZ; rw [hwl]; simp
  · unfold wdB dirB; rw [hwl]; simp
  · unfold wvZ; rw [hwl]; simp

theorem cw_laws {c : List Int} {g : List Vx} {ls : List Int} (h0 : ¬ (cwZ c g ls).length = 0) (hps : ∀ x ∈ g, x.ps.length ≤ 1099511627776) :
    (∀ i, i < (cwZ c g ls).length → 0 ≤ wlZ c g ls ((cwZ c g ls).getD i 0)) ∧ (∀ i, i < (cwZ c g ls).length → 0 < i → (cwZ c g ls).getD (i - 1) 0 < (cwZ c g ls).getD i 0) ∧ wdB c g ls ((cwZ c g ls).getD ((cwZ c g ls).length - 1) 0) = true := by
  cases hw : waB c g ls with
  | false => rw [cw_none hw] at h0; exact absurd rfl h0
  | true =>
  obtain ⟨O, hO, ok⟩ := cw_ok hw hps
  have hl : (cwZ c g ls).length = O.length := by rw [hO]; simp
  have hat : ∀ i (h : i < O.length), (cwZ c g ls).getD i 0 = ((O[i] : Nat) : Int) := fun i h => by rw [getD_get (by omega)]; simp [hO]
  refine ⟨fun i h => ?_, fun i h hi => ?_, ?_⟩
  · have hm := ok.mem _ (List.getElem_mem (show i < O.length by omega))
    rw [hat i (by omega), (wl_at hw hm.1 hm.2.1).1]; exact hm.2.2
  · rw [hat i (by omega), hat (i - 1) (by omega)]
    have := List.pairwise_iff_getElem.1 ok.asc (i - 1) i (by omega) (by omega) (by omega)
    omega
  · have hne : O ≠ [] := by intro e; rw [e] at hl; exact h0 hl
    have hm := ok.mem _ (List.getElem_mem (show (cwZ c g ls).length - 1 < O.length by omega))
    rw [hat _ (by omega), (wl_at hw hm.1 hm.2.1).2.1]
    have := ok.last hne
    rw [List.getLast_eq_getElem] at this
    simpa [hl] using this

theorem cw_links {c : List Int} {g : List Vx} {ls : List Int} (hps : ∀ x ∈ g, x.ps.length ≤ 1099511627776) (i : Nat) (hi : i < (cwZ c g ls).length) (h0 : 0 < i) :
    ∃ k : Nat, (cwZ c g ls).getD i 0 = (k : Int) ∧ 1 ≤ k ∧ k ≤ ls.length ∧ k ≤ 15 ∧ hasB (gpZ c g (2 * (k : Int) - 1) (ls.getD (k - 1) 0)) (wlZ c g ls ((cwZ c g ls).getD (i - 1) 0)) = true := by
  cases hw : waB c g ls with
  | false => rw [cw_none hw] at hi; simp at hi
  | true =>
  obtain ⟨O, hO, ok⟩ := cw_ok hw hps
  have gk := good21 hw hps
  have hl : (cwZ c g ls).length = O.length := by rw [hO]; simp
  have hat : ∀ i (h : i < O.length), (cwZ c g ls).getD i 0 = ((O[i] : Nat) : Int) := fun i h => by rw [getD_get (by omega)]; simp [hO]
  have hm := ok.mem _ (List.getElem_mem (show i < O.length by omega))
  have hm' := ok.mem _ (List.getElem_mem (show i - 1 < O.length by omega))
  have h15 := gk.l15
  refine ⟨O[i]'(by omega), hat i (by omega), hm.1, hm.2.1, by omega, ?_⟩
  rw [hat (i - 1) (by omega), (wl_at hw hm'.1 hm'.2.1).1]
  have hlk := lkd_at O ok.lkd (i - 1) (by omega)
  have e : O[i - 1 + 1]'(by omega) = O[i]'(by omega) := by congr 1; omega
  rw [e] at hlk
  unfold lkB linkB at hlk
  obtain ⟨j, hj, ej, _⟩ := ld_at hm'.2.2
  rw [ej] at hlk ⊢
  simp only [Bool.and_eq_true] at hlk
  have hgp : gpZ c g (2 * ((O[i]'(by omega) : Nat) : Int) - 1) (ls.getD ((O[i]'(by omega)) - 1) 0) = idxTo (pastB g (ldZ g ls (O[i]'(by omega)))) g.length := by unfold gpZ; rw [if_pos gk.gb]; rfl
  rw [hgp]
  exact hasB_idx hj hlk.2

theorem cw_reach {c : List Int} {g : List Vx} {ls : List Int} (hgb : graphB c g = true) (hps : ∀ x ∈ g, x.ps.length ≤ 1099511627776) (k : Nat) (hk : k < g.length) (m : Nat) (hm : 1 ≤ m) (hm2 : m ≤ ls.length) (hr : 2 * (m : Int) < g[k].r) (hd : wdB c g ls (m : Int) = true) :
    hasB (gpZ c g g[k].r g[k].a) (wlZ c g ls (m : Int)) = true := by
  have hw : waB c g ls = true := (wl_ok (by unfold wdB at hd; simp only [Bool.and_eq_true] at hd; exact hd.1)).1
  have gk := good21 hw hps
  obtain ⟨e1, e2, _⟩ := wl_at hw hm hm2
  rw [e2] at hd
  obtain ⟨j, hj, ej, rj, aj⟩ := ld_at (dir_has gk.hv hd)
  have hrch := dir_reach gk (graph_vtx gk.gb) hm hd (List.getElem_mem hj) rj aj (g[k].r - 2 * (m : Int) - 1).toNat g[k] (List.getElem_mem hk) (by omega)
  have hfz : findZ g g[k].r g[k].a = k := by
    obtain ⟨i, hi, e, e3⟩ := findZ_mem gk.srt (List.getElem_mem hk)
    rw [e, pair_uni gk.srt hi hk (by rw [e3]) (by rw [e3])]
  rw [e1, ej, show gpZ c g g[k].r g[k].a = idxTo (pastB g k) g.length by unfold gpZ; rw [if_pos hgb, hfz]]
  exact hasB_idx hj ((past_rch hgb hk hj).2 hrch)

end Go.Proofs.YtjaacdapibokiabGreatDoor

/- What a part of a graph commits is a first part of what the whole commits; so is what fewer leaders commit; plain facts, nothing here speaks of the program. -/
namespace Go.Proofs.YtjaacdapibokiabGreatDoor
open Go.RowKit

/-! fewer leaders -/
theorem ldZ_take {g : List Vx} {ls : List Int} {k w : Nat} (h1 : 1 ≤ w) (h2 : w ≤ k) : ldZ g (ls.take k) w = ldZ g ls w ∧ (ls.take k).getD (w - 1) 0 = ls.getD (w - 1) 0 := by
  have e : (ls.take k).getD (w - 1) 0 = ls.getD (w - 1) 0 := by
    simp only [List.getD_eq_getElem?_getD]
    rw [List.getElem?_take_of_lt (by omega)]
  exact ⟨by unfold ldZ; rw [e], e⟩
theorem chZ_take {g : List Vx} {ls : List Int} {k lo : Nat} : ∀ (x : Nat) (ch : List Int) (at' : Int), x ≤ k → chZ g (ls.take k) lo x ch at' = chZ g ls lo x ch at'
  | 0, _, _, _ => rfl
  | x + 1, ch, at', h => by
    have e := (ldZ_take (g := g) (ls := ls) (k := k) (w := x + 1) (by omega) h).1
    have el : linkB g (ls.take k) at' (x + 1) = linkB g ls at' (x + 1) := by unfold linkB; rw [e]
    unfold chZ
    rw [el, e, chZ_take x _ _ (by omega), chZ_take x _ _ (by omega)]
theorem voZ_take {c : List Int} {g : List Vx} {ls : List Int} {k w : Nat} (h1 : 1 ≤ w) (h2 : w ≤ k) : voZ c g (ls.take k) w = voZ c g ls w := by
  obtain ⟨e1, e2⟩ := ldZ_take (g := g) (ls := ls) h1 h2
  unfold voZ
  rw [e1, e2]
theorem wvs_take {c : List Int} {g : List Vx} {ls : List Int} {k : Nat} : ∀ m, m ≤ k → wvs c g (ls.take k) m = wvs c g ls m
  | 0, _ => rfl
  | m + 1, h => by
    have ih := wvs_take (c := c) (g := g) (ls := ls) (k := k) m (by omega)
    unfold wvs
    rw [ih, voZ_take (by omega) h, (ldZ_take (g := g) (ls := ls) (by omega) h).1, chZ_take m _ _ (by omega)]
theorem wvs_mono {c : List Int} {g : List Vx} {ls : List Int} (k : Nat) : ∀ d, (wvs c g ls k).1 <+: (wvs c g ls (k + d)).1
  | 0 => List.prefix_refl _
  | d + 1 => by
    refine (wvs_mono k d).trans ?_
    show _ <+: (wvs c g ls (k + d + 1)).1
    rw [wvs.eq_2]
    split
    · exact List.prefix_refl _
    · exact List.prefix_append _ _
theorem ldsB_take {n : Nat} {ls : List Int} {k : Nat} (h : ldsB n ls = true) : ldsB n (ls.take k) = true := by
  obtain ⟨h15, h6⟩ := ldAt h
  unfold ldsB
  rw [Bool.and_eq_true, decide_eq_true_eq]
  refine ⟨allB_yes (k := (ls.take k).length) (fun j hj => ?_) (by omega), by rw [List.length_take]; omega⟩
  have hj' : j < (ls.take k).length := hj
  unfold okLd
  rw [getD_get hj', List.getElem_take]
  have := h6 j (by rw [List.length_take] at hj'; omega)
  exact decide_eq_true (by omega)
theorem cw_take {c : List Int} {g : List Vx} {ls : List Int} {k : Nat} (hk : k ≤ ls.length) (h : waB c g ls = true) : cwZ c g (ls.take k) <+: cwZ c g ls := by
  have hw : waB c g (ls.take k) = true := by
    unfold waB at h ⊢
    simp only [Bool.and_eq_true] at h ⊢
    exact ⟨h.1, ldsB_take h.2⟩
  unfold cwZ
  rw [if_pos h, if_pos hw, List.length_take, Nat.min_eq_left hk, wvs_take k (Nat.le_refl _)]
  have := wvs_mono (c := c) (g := g) (ls := ls) k (ls.length - k)
  rwa [show k + (ls.length - k) = ls.length by omega] at this

/-! a part of a graph -/
theorem srt_key {g : List Vx} (h : Srt g) {x y : Vx} (hx : x ∈ g) (hy : y ∈ g) (hr : x.r = y.r) (ha : x.a = y.a) : x = y := srt_uni h hx hy hr ha
section
variable {c : List Int} {g g' : List Vx} {ls : List Int} (ok : Good21 c g ls) (ok' : Good21 c g' ls) (hs : ∀ y ∈ g', y ∈ g)
include ok ok' hs
omit ok' in
theorem ld_part {u : Nat} (h : 0 ≤ ldZ g' ls u) : ∃ i, ∃ hi : i < g'.length, ∃ j, ∃ hj : j < g.length, ldZ g' ls u = (i : Int) ∧ ldZ g ls u = (j : Int) ∧ g'[i] = g[j] := by
  obtain ⟨i, hi, ei, ri, ai⟩ := ld_at h
  have hm := hs _ (List.getElem_mem hi)
  obtain ⟨j, hj, ej, e2⟩ := findZ_mem ok.srt hm
  exact ⟨i, hi, j, hj, ei, by unfold ldZ; rw [← ri, ← ai]; exact ej, e2.symm⟩
theorem rch_part {x y : Vx} (hx : x ∈ g') : Rch g' x y ↔ Rch g x y := by
  constructor
  · intro h
    clear hx
    induction h with
    | refl x => exact .refl _
    | step hz hr ha _ ih => exact .step (hs _ hz) hr ha ih
  · intro h
    induction h with
    | refl x => exact .refl _
    | @step x z y hz hr ha _ ih =>
      obtain ⟨z', hz', hr', ha'⟩ := ok'.par x hx z.a ha
      have e : z' = z := srt_uni ok.srt (hs _ hz') hz (by omega) ha'
      subst e
      exact .step hz' hr' ha (ih hz')
theorem rch_in {x y : Vx} (hx : x ∈ g') (h : Rch g x y) : y ∈ g' := by
  induction h with
  | refl x => exact hx
  | @step x z y hz hr ha _ ih =>
    obtain ⟨z', hz', hr', ha'⟩ := ok'.par x hx z.a ha
    have e : z' = z := srt_uni ok.srt (hs _ hz') hz (by omega) ha'
    subst e
    exact ih hz'
theorem lk_part (u x : Nat) (h : 0 ≤ ldZ g' ls u) : lkB g' ls u x = lkB g ls u x := by
  obtain ⟨i, hi, j, hj, ei, ej, e⟩ := ld_part ok hs h
  rw [Bool.eq_iff_iff]
  unfold lkB linkB
  rw [ei, ej]
  simp only [Bool.and_eq_true, decide_eq_true_eq]
  constructor
  · rintro ⟨h0, h1⟩
    obtain ⟨a, ha, b, hb, ea, eb, e2⟩ := ld_part ok hs h0
    rw [ea, Int.toNat_natCast] at h1
    rw [eb, Int.toNat_natCast]
    refine ⟨by omega, (past_rch ok.gb hj hb).2 ?_⟩
    have := (past_rch ok'.gb hi ha).1 h1
    rw [rch_part ok ok' hs (List.getElem_mem hi), e, e2] at this
    exact this
  · rintro ⟨h0, h1⟩
    obtain ⟨b, hb, eb, rb, ab⟩ := ld_at h0
    rw [eb, Int.toNat_natCast] at h1
    have hr := (past_rch ok.gb hj hb).1 h1
    rw [← e] at hr
    have hin := rch_in ok ok' hs (List.getElem_mem hi) hr
    obtain ⟨a, ha, ea, e3⟩ := findZ_mem ok'.srt hin
    have ea' : ldZ g' ls x = a := by unfold ldZ; rw [← rb, ← ab]; exact ea
    rw [ea', Int.toNat_natCast]
    refine ⟨by omega, (past_rch ok'.gb hi ha).2 ?_⟩
    rw [rch_part ok ok' hs (List.getElem_mem hi), e3]
    exact hr
theorem dir_part {w : Nat} (h : dirB c g' ls w = true) : dirB c g ls w = true := by
  have h0' := dir_has ok'.hv h
  obtain ⟨i, hi, j, hj, ei, ej, e⟩ := ld_part ok hs h0'
  have hle : voZ c g' ls w ≤ voZ c g ls w := by
    rw [voZ_isum ok' h0', voZ_isum ok (by omega)]
    refine isum_le fun a ha => ?_
    have hc := c_nonneg ok.hv a ha
    by_cases h1 : vB g' (ls.getD (w - 1) 0) (2 * w) a = true
    · have h2 : vB g (ls.getD (w - 1) 0) (2 * w) a = true := by
        obtain ⟨y, hy, yr, ya, hl⟩ := vB_of h1
        unfold vB
        exact List.any_eq_true.2 ⟨y, hs y hy, by rw [decide_eq_true ⟨yr, ya⟩, show hasB y.ps _ = true from decide_eq_true hl]; rfl⟩
      rw [if_pos h1, if_pos h2]; exact Int.le_refl _
    · rw [if_neg h1]; split <;> omega
  have := of_decide_eq_true h
  exact decide_eq_true (by omega)
theorem cw_part' : (wvs c g' ls ls.length).1 <+: (wvs c g ls ls.length).1 := by
  have hf := cw_full ok ls.length
  have hf' := cw_full ok' ls.length
  have hl := wvs_last (c := c) (g := g) (ls := ls) ls.length
  have hl' := wvs_last (c := c) (g := g') (ls := ls) ls.length
  by_cases h0' : (wvs c g' ls ls.length).2 = 0
  · rw [hf', if_pos h0']; exact List.nil_prefix
  · have hd' := hl'.2.1.resolve_left h0'
    have hd := dir_part ok ok' hs hd'
    have hle := hl.2.2 _ (by omega) hl'.1 hd
    have h0 : ¬ (wvs c g ls ls.length).2 = 0 := by omega
    have hdl := hl.2.1.resolve_left h0
    rw [hf, hf', if_neg h0, if_neg h0']
    have he : fuW (lkB g' ls) (wvs c g' ls ls.length).2 = fuW (lkB g ls) (wvs c g' ls ls.length).2 := by
      unfold fuW
      rw [chF_same (has' := fun u => 0 ≤ ldZ g' ls u) (fun u x => lk_has) (fun u x h => lk_part ok ok' hs u x h) 0 _ _ (dir_has ok'.hv hd')]
    rw [he]
    exact (fuW_pre (has := fun u => 0 ≤ ldZ g ls u) (fun u x => lk_has) (by omega) hle (fun u hu hh => dir_link ok _ u (by omega) hd hu hh) (dir_has ok.hv hdl)).map _
end
/-- What a part of a graph commits is a first part of what the graph commits. -/
theorem cw_part {c : List Int} {g g' : List Vx} {ls : List Int} (hgb : graphB c g = true) (hps : ∀ x ∈ g, x.ps.length ≤ 1099511627776) (hs : ∀ y ∈ g', y ∈ g) : cwZ c g' ls <+: cwZ c g ls := by
  cases hw' : waB c g' ls with
  | false => rw [cw_none hw']; exact List.nil_prefix
  | true =>
    have hw : waB c g ls = true := by
      unfold waB at hw' ⊢
      simp only [Bool.and_eq_true] at hw' ⊢
      exact ⟨hgb, hw'.2⟩
    have := cw_part' (good21 hw hps) (good21 hw' fun x hx => hps x (hs x hx)) hs
    unfold cwZ
    rw [if_pos hw, if_pos hw']
    exact this

/-- prefixInts. -/
def preB (a b : List Int) : Bool := decide (a.length ≤ b.length) && eqB a (b.take a.length)
theorem preB_of {a b : List Int} (h : a <+: b) : preB a b = true := by
  unfold preB
  rw [decide_eq_true h.length_le, ← List.prefix_iff_eq_take.1 h]
  exact decide_eq_true rfl
theorem preB_two {a b o : List Int} (ha : a <+: o) (hb : b <+: o) : preB a b = true ∨ preB b a = true := by
  by_cases h : a.length ≤ b.length
  · exact .inl (preB_of (List.prefix_of_prefix_length_le ha hb h))
  · exact .inr (preB_of (List.prefix_of_prefix_length_le hb ha (by omega)))

end Go.Proofs.YtjaacdapibokiabGreatDoor

/- The order of vertices: which wave orders a vertex and in which order they stand; plain facts on lists, nothing here is walked. -/
namespace Go.Proofs.YtjaacdapibokiabGreatDoor
open Go.RowKit

/-- Vertex k lies in the past of wave w's leader and not beyond the horizon. -/
def hitB (g : List Vx) (ls : List Int) (w k : Nat) : Bool := (pastB g (ldZ g ls w)).getD k false && decide (2 * (w : Int) - 7 ≤ (g.getD k vx0).r)
/-- The wave that orders vertex k, or 0. -/
def owN (g : List Vx) (ls : List Int) (O : List Nat) (k : Nat) : Nat := (O.find? fun w => hitB g ls w k).getD 0
/-- The places of the ordered vertices, in their order. -/
def ordI (g : List Vx) (ls : List Int) (O : List Nat) : List Nat := O.flatMap fun w => (List.range g.length).filter fun k => owN g ls O k == w
/-- The wave's leader vertex. -/
def ldV (g : List Vx) (ls : List Int) (w : Nat) : Vx := g.getD (ldZ g ls w).toNat vx0

section
variable {g : List Vx} {ls : List Int} {O : List Nat}
theorem ow_find {k : Nat} (h : owN g ls O k ≠ 0) : owN g ls O k ∈ O ∧ hitB g ls (owN g ls O k) k = true := by
  unfold owN at h ⊢
  cases e : O.find? fun w => hitB g ls w k with
  | none => rw [e] at h; exact absurd rfl h
  | some w => exact ⟨List.mem_of_find?_eq_some e, List.find?_some (p := fun w => hitB g ls w k) e⟩
theorem ow_le : ∀ {O : List Nat}, O.Pairwise (· < ·) → ∀ {w k : Nat}, w ∈ O → hitB g ls w k = true → owN g ls O k ≤ w ∧ (owN g ls O k ∈ O)
  | [], _, w, k, hw, _ => by cases hw
  | a :: r, hs, w, k, hw, hh => by
    obtain ⟨h1, h2⟩ := List.pairwise_cons.1 hs
    by_cases ha : hitB g ls a k = true
    · have e : owN g ls (a :: r) k = a := by unfold owN; simp [List.find?, ha]
      rw [e]
      rcases List.mem_cons.1 hw with rfl | hw
      · exact ⟨Nat.le_refl _, by simp⟩
      · exact ⟨Nat.le_of_lt (h1 w hw), by simp⟩
    · have e : owN g ls (a :: r) k = owN g ls r k := by unfold owN; simp [List.find?, ha]
      rw [e]
      rcases List.mem_cons.1 hw with rfl | hw
      · exact absurd hh ha
      · obtain ⟨h3, h4⟩ := ow_le h2 hw hh
        exact ⟨h3, List.mem_cons_of_mem _ h4⟩
theorem ord_mem (h1 : ∀ w ∈ O, 1 ≤ w) {k : Nat} : k ∈ ordI g ls O ↔ k < g.length ∧ owN g ls O k ≠ 0 := by
  unfold ordI
  simp only [List.mem_flatMap, List.mem_filter, List.mem_range, beq_iff_eq]
  constructor
  · rintro ⟨w, hw, hk, e⟩
    exact ⟨hk, by have := h1 w hw; omega⟩
  · rintro ⟨hk, h⟩
    exact ⟨_, (ow_find h).1, hk, rfl⟩
/-- Waves ascend, and within a wave the places do. -/
theorem ord_asc : ∀ {O' : List Nat}, O'.Pairwise (· < ·) → (O'.flatMap fun w => (List.range g.length).filter fun k => owN g ls O k == w).Pairwise fun a b => owN g ls O a < owN g ls O b ∨ owN g ls O a = owN g ls O b ∧ a < b
  | [], _ => by simp
  | w :: r, hs => by
    obtain ⟨h1, h2⟩ := List.pairwise_cons.1 hs
    rw [List.flatMap_cons]
    refine List.pairwise_append.2 ⟨?_, ord_asc h2, ?_⟩
    · refine List.Pairwise.imp_of_mem ?_ ((List.pairwise_lt_range).filter _)
      intro a b ha hb hab
      have ea : owN g ls O a = w := by simpa using (List.mem_filter.1 ha).2
      have eb : owN g ls O b = w := by simpa using (List.mem_filter.1 hb).2
      exact .inr ⟨by omega, hab⟩
    · intro a ha b hb
      have ea : owN g ls O a = w := by simpa using (List.mem_filter.1 ha).2
      obtain ⟨v, hv, hb⟩ := List.mem_flatMap.1 hb
      have eb : owN g ls O b = v := by simpa using (List.mem_filter.1 hb).2
      exact .inl (by have := h1 v hv; omega)
theorem ord_nodup (hs : O.Pairwise (· < ·)) : (ordI g ls O).Nodup := (ord_asc (O := O) (g := g) (ls := ls) hs).imp fun {a b} h e => by subst e; omega
end

section
variable {c : List Int} {g : List Vx} {ls : List Int} {O : List Nat} (ok : Good21 c g ls) (cw : CwOk c g ls O)
include ok
theorem hit_iff {w k : Nat} (h0 : 0 ≤ ldZ g ls w) (hk : k < g.length) : hitB g ls w k = true ↔ Rch g (ldV g ls w) g[k] ∧ 2 * (w : Int) - 7 ≤ g[k].r := by
  obtain ⟨j, hj, ej, _, _⟩ := ld_at h0
  unfold hitB ldV
  rw [ej, Int.toNat_natCast, getV hj, getV hk, Bool.and_eq_true, decide_eq_true_eq, past_rch ok.gb hj hk]
omit ok in
theorem ldV_at {w : Nat} (h0 : 0 ≤ ldZ g ls w) : ldV g ls w ∈ g ∧ (ldV g ls w).r = 2 * (w : Int) - 1 ∧ (ldV g ls w).a = ls.getD (w - 1) 0 := by
  obtain ⟨j, hj, ej, er, ea⟩ := ld_at h0
  unfold ldV
  rw [ej, Int.toNat_natCast, getV hj]
  exact ⟨List.getElem_mem hj, er, ea⟩
omit ok in
theorem rch_round {x y : Vx} (h : Rch g x y) : y.r ≤ x.r := by
  induction h with
  | refl => exact Int.le_refl _
  | step _ hr _ _ ih => omega
include cw
/-- P89: what the past of a committed leader holds up to the horizon is ordered. -/
theorem ord_past {w k : Nat} (hw : w ∈ O) (hk : k < g.length) (hr : Rch g (ldV g ls w) g[k]) (hh : 2 * (w : Int) - 7 ≤ g[k].r) : k ∈ ordI g ls O ∧ owN g ls O k ≤ w := by
  obtain ⟨h1, h2⟩ := ow_le cw.asc hw ((hit_iff ok (cw.mem w hw).2.2 hk).2 ⟨hr, hh⟩)
  exact ⟨(ord_mem fun v hv => (cw.mem v hv).1).2 ⟨hk, by have := (cw.mem _ h2).1; omega⟩, h1⟩
/-- The leader of a committed wave is ordered by its own wave. -/
theorem ow_leader {w j : Nat} (hw : w ∈ O) (hj : j < g.length) (e : g[j] = ldV g ls w) : owN g ls O j = w := by
  have h0 := (cw.mem w hw).2.2
  obtain ⟨_, er, _⟩ := ldV_at h0
  have hit : hitB g ls w j = true := (hit_iff ok h0 hj).2 ⟨by rw [e]; exact .refl _, by rw [e, er]; omega⟩
  obtain ⟨h1, h2⟩ := ow_le cw.asc hw hit
  have hne : owN g ls O j ≠ 0 := by have := (cw.mem _ h2).1; omega
  have h3 := (ow_find hne).2
  have h4 := ((hit_iff ok (cw.mem _ h2).2.2 hj).1 h3).1
  have h5 := rch_round h4
  have h6 := (ldV_at (cw.mem _ h2).2.2).2.1
  rw [e, er, h6] at h5
  omega
/-- P88: a parent that is ordered too is ordered first. -/
theorem ord_causal {i j : Nat} (hi : i < g.length) (hj : j < g.length) (hr : g[j].r = g[i].r - 1) (ha : g[j].a ∈ g[i].ps) (hoi : owN g ls O i ≠ 0) (hoj : owN g ls O j ≠ 0) : owN g ls O j < owN g ls O i ∨ owN g ls O j = owN g ls O i ∧ j < i := by
  obtain ⟨hwi, hti⟩ := ow_find hoi
  obtain ⟨hwj, htj⟩ := ow_find hoj
  obtain ⟨p1, p2⟩ := (hit_iff ok (cw.mem _ hwi).2.2 hi).1 hti
  obtain ⟨q1, q2⟩ := (hit_iff ok (cw.mem _ hwj).2.2 hj).1 htj
  have hrj : Rch g (ldV g ls (owN g ls O i)) g[j] := p1.snoc (List.getElem_mem hj) hr ha
  have hle : owN g ls O j ≤ owN g ls O i := by
    by_cases h : 2 * (owN g ls O i : Int) - 7 ≤ g[j].r
    · exact (ow_le cw.asc hwi ((hit_iff ok (cw.mem _ hwi).2.2 hj).2 ⟨hrj, h⟩)).1
    · omega
  rcases Nat.lt_or_ge (owN g ls O j) (owN g ls O i) with h | h
  · exact .inl h
  · refine .inr ⟨by omega, ?_⟩
    rcases Nat.lt_trichotomy j i with h2 | h2 | h2
    · exact h2
    · subst h2; omega
    · have := befB_iff.1 (List.pairwise_iff_getElem.1 ok.srt i j hi hj h2); omega
/-- P93: the parents of a committed leader are ordered. -/
theorem ord_parents {w : Nat} (hw : w ∈ O) {p : Int} (hp : p ∈ (ldV g ls w).ps) : ∃ j, ∃ hj : j < g.length, g[j].r = 2 * (w : Int) - 2 ∧ g[j].a = p ∧ j ∈ ordI g ls O := by
  have h0 := (cw.mem w hw).2.2
  obtain ⟨hm, er, _⟩ := ldV_at h0
  obtain ⟨z, hz, ezr, eza⟩ := ok.par _ hm p hp
  obtain ⟨j, hj, rfl⟩ := List.mem_iff_getElem.1 hz
  refine ⟨j, hj, by omega, eza, (ord_past ok cw hw hj (.step (List.getElem_mem hj) ezr (by rw [eza]; exact hp) (.refl _)) (by omega)).1⟩
end

end Go.Proofs.YtjaacdapibokiabGreatDoor

/- The order of a part of a graph is a first part of the graph's; plain facts on lists, nothing here is walked. -/
namespace Go.Proofs.YtjaacdapibokiabGreatDoor
open Go.RowKit

theorem srtx_irr {x : Vx} (h : befB x x = true) : False := by have := befB_iff.1 h; omega
theorem srtx_ext : ∀ {a b : List Vx}, Srt a → Srt b → (∀ x, x ∈ a ↔ x ∈ b) → a = b
  | [], [], _, _, _ => rfl
  | [], y :: b, _, _, h => by have := (h y).2 (by simp); cases this
  | x :: a, [], _, _, h => by have := (h x).1 (by simp); cases this
  | x :: a, y :: b, ha, hb, h => by
    obtain ⟨ha1, ha2⟩ := List.pairwise_cons.1 ha
    obtain ⟨hb1, hb2⟩ := List.pairwise_cons.1 hb
    have e : x = y := by
      rcases List.mem_cons.1 ((h x).1 (by simp)) with e | e
      · exact e
      · rcases List.mem_cons.1 ((h y).2 (by simp)) with e2 | e2
        · exact e2.symm
        · exact (srtx_irr (bef_trans (ha1 y e2) (hb1 x e))).elim
    subst e
    congr 1
    refine srtx_ext ha2 hb2 fun z => ⟨fun hz => ?_, fun hz => ?_⟩
    · rcases List.mem_cons.1 ((h z).1 (List.mem_cons_of_mem _ hz)) with e | e
      · subst e; exact (srtx_irr (ha1 z hz)).elim
      · exact e
    · rcases List.mem_cons.1 ((h z).2 (List.mem_cons_of_mem _ hz)) with e | e
      · subst e; exact (srtx_irr (hb1 z hz)).elim
      · exact e
/-- The vertices that wave w orders. -/
def segV (g : List Vx) (ls : List Int) (O : List Nat) (w : Nat) : List Vx := ((List.range g.length).filter fun k => owN g ls O k == w).map fun k => g.getD k vx0
/-- The ordered vertices. -/
def ordV (g : List Vx) (ls : List Int) (O : List Nat) : List Vx := (ordI g ls O).map fun k => g.getD k vx0
theorem ordV_seg (g : List Vx) (ls : List Int) (O : List Nat) : ordV g ls O = O.flatMap (segV g ls O) := by
  unfold ordV ordI segV
  rw [List.map_flatMap]
theorem seg_mem {g : List Vx} {ls : List Int} {O : List Nat} {w : Nat} {x : Vx} : x ∈ segV g ls O w ↔ ∃ k, ∃ hk : k < g.length, g[k] = x ∧ owN g ls O k = w := by
  unfold segV
  simp only [List.mem_map, List.mem_filter, List.mem_range, beq_iff_eq]
  constructor
  · rintro ⟨k, ⟨hk, e⟩, rfl⟩; exact ⟨k, hk, (getV hk).symm, e⟩
  · rintro ⟨k, hk, rfl, e⟩; exact ⟨k, ⟨hk, e⟩, getV hk⟩
theorem seg_srt {g : List Vx} {ls : List Int} {O : List Nat} {w : Nat} (h : Srt g) : Srt (segV g ls O w) := by
  unfold segV
  refine List.pairwise_map.2 (List.Pairwise.imp_of_mem ?_ ((List.pairwise_lt_range).filter _))
  intro a b ha hb hab
  have hal : a < g.length := List.mem_range.1 (List.mem_filter.1 ha).1
  have hbl : b < g.length := List.mem_range.1 (List.mem_filter.1 hb).1
  rw [getV hal, getV hbl]
  exact List.pairwise_iff_getElem.1 h a b hal hbl hab
theorem flat_congr {α β : Type} {f h : α → List β} : ∀ (l : List α), (∀ w ∈ l, f w = h w) → l.flatMap f = l.flatMap h
  | [], _ => rfl
  | a :: r, e => by rw [List.flatMap_cons, List.flatMap_cons, e a (by simp), flat_congr r fun w hw => e w (List.mem_cons_of_mem _ hw)]
theorem ow_first {g : List Vx} {ls : List Int} {O R : List Nat} {k w : Nat} (h : owN g ls O k = w) (hw : w ≠ 0) : owN g ls (O ++ R) k = w := by
  unfold owN at h ⊢
  rw [List.find?_append]
  cases e : O.find? fun w => hitB g ls w k with
  | none => rw [e] at h; exact absurd h.symm hw
  | some v => rw [e] at h; simpa using h
theorem ow_back {g : List Vx} {ls : List Int} {O R : List Nat} {k w : Nat} (h : owN g ls (O ++ R) k = w) (hw : w ∈ O) (h1 : 1 ≤ w) : owN g ls O k = w := by
  have hh : hitB g ls w k = true := by
    have := (ow_find (O := O ++ R) (g := g) (ls := ls) (k := k) (by omega)).2
    rwa [h] at this
  unfold owN at h ⊢
  rw [List.find?_append] at h
  cases e : O.find? fun w => hitB g ls w k with
  | none => exact absurd hh (by have := List.find?_eq_none.1 e w hw; simpa using this)
  | some v => rw [e] at h; simpa using h
section
variable {c : List Int} {g g' : List Vx} {ls : List Int} (ok : Good21 c g ls) (ok' : Good21 c g' ls) (hs : ∀ y ∈ g', y ∈ g)
include ok ok' hs
theorem hit_same {u i j : Nat} (h0 : 0 ≤ ldZ g' ls u) (hi : i < g'.length) (hj : j < g.length) (e : g'[i] = g[j]) : hitB g' ls u i = hitB g ls u j := by
  obtain ⟨i0, hi0, j0, hj0, ei, ej, e0⟩ := ld_part ok hs h0
  have hl : ldV g' ls u = ldV g ls u := by unfold ldV; rw [ei, ej, Int.toNat_natCast, Int.toNat_natCast, getV hi0, getV hj0]; exact e0
  rw [Bool.eq_iff_iff, hit_iff ok' h0 hi, hit_iff ok (by omega) hj, hl, e, rch_part ok ok' hs (by rw [← hl]; exact (ldV_at h0).1)]
theorem find_same {O : List Nat} {i j : Nat} (hO : ∀ u ∈ O, 0 ≤ ldZ g' ls u) (hi : i < g'.length) (hj : j < g.length) (e : g'[i] = g[j]) : owN g' ls O i = owN g ls O j := by
  unfold owN
  have : ∀ (l : List Nat), (∀ u ∈ l, 0 ≤ ldZ g' ls u) → l.find? (fun w => hitB g' ls w i) = l.find? (fun w => hitB g ls w j) := by
    intro l
    induction l with
    | nil => intro _; rfl
    | cons a r ih =>
      intro h
      have ha := hit_same ok ok' hs (h a (by simp)) hi hj e
      simp only [List.find?, ha, ih fun u hu => h u (List.mem_cons_of_mem _ hu)]
  rw [this O hO]
theorem seg_part {O R : List Nat} (h1 : ∀ u ∈ O, 1 ≤ u ∧ 0 ≤ ldZ g' ls u) {w : Nat} (hw : w ∈ O) : segV g' ls O w = segV g ls (O ++ R) w := by
  have hw0 := (h1 w hw).1
  refine srtx_ext (seg_srt ok'.srt) (seg_srt ok.srt) fun x => ?_
  rw [seg_mem, seg_mem]
  constructor
  · rintro ⟨i, hi, rfl, ew⟩
    obtain ⟨j, hj, e⟩ := List.mem_iff_getElem.1 (hs _ (List.getElem_mem hi))
    refine ⟨j, hj, e, ow_first ?_ (by omega)⟩
    rw [← find_same ok ok' hs (fun u hu => (h1 u hu).2) hi hj e.symm]
    exact ew
  · rintro ⟨j, hj, rfl, ew⟩
    have eb := ow_back ew hw hw0
    have hh := (ow_find (O := O) (g := g) (ls := ls) (k := j) (by omega)).2
    rw [eb] at hh
    obtain ⟨i0, hi0, j0, hj0, ei, ej, e0⟩ := ld_part ok hs (h1 w hw).2
    have hL : ldV g ls w ∈ g' := by unfold ldV; rw [ej, Int.toNat_natCast, getV hj0, ← e0]; exact List.getElem_mem hi0
    have hr := ((hit_iff ok (by omega) hj).1 hh).1
    obtain ⟨i, hi, e⟩ := List.mem_iff_getElem.1 (rch_in ok ok' hs hL hr)
    exact ⟨i, hi, e, by rw [find_same ok ok' hs (fun u hu => (h1 u hu).2) hi hj e]; exact eb⟩
/-- P86, P87: the order of a part is a first part of the graph's order. -/
theorem ord_part {O O' : List Nat} (h1 : ∀ u ∈ O', 1 ≤ u ∧ 0 ≤ ldZ g' ls u) (hp : O' <+: O) : ordV g' ls O' <+: ordV g ls O := by
  obtain ⟨R, rfl⟩ := hp
  rw [ordV_seg, ordV_seg, List.flatMap_append, flat_congr O' fun w hw => seg_part ok ok' hs (R := R) h1 hw]
  exact List.prefix_append _ _
end

end Go.Proofs.YtjaacdapibokiabGreatDoor

/- The order of vertices by places: each place once, waves ascend, leaders in the order of waves; plain facts on lists, nothing here is walked. -/
namespace Go.Proofs.YtjaacdapibokiabGreatDoor
open Go.RowKit

section
variable {c : List Int} {g : List Vx} {ls : List Int} {O : List Nat} (ok : Good21 c g ls) (cw : CwOk c g ls O)
include cw
theorem ordI_lt {i : Nat} (hi : i < (ordI g ls O).length) : (ordI g ls O)[i] < g.length ∧ owN g ls O (ordI g ls O)[i] ≠ 0 := (ord_mem fun v hv => (cw.mem v hv).1).1 (List.getElem_mem hi)
/-- P92: the waves of the ordered vertices never decrease, and within a wave the places ascend. -/
theorem ordI_asc {i j : Nat} (hij : i < j) (hj : j < (ordI g ls O).length) : owN g ls O ((ordI g ls O)[i]'(by omega)) < owN g ls O (ordI g ls O)[j] ∨ owN g ls O ((ordI g ls O)[i]'(by omega)) = owN g ls O (ordI g ls O)[j] ∧ (ordI g ls O)[i]'(by omega) < (ordI g ls O)[j] :=
  List.pairwise_iff_getElem.1 (ord_asc (O := O) (g := g) (ls := ls) cw.asc) i j (by show i < (ordI g ls O).length; omega) hj hij
include ok
/-- P84: no slot twice. -/
theorem ordI_once {i j : Nat} (hij : i < j) (hj : j < (ordI g ls O).length) : ∀ (h1 : (ordI g ls O)[i]'(by omega) < g.length) (h2 : (ordI g ls O)[j] < g.length), ¬ (g[(ordI g ls O)[i]'(by omega)].r = g[(ordI g ls O)[j]].r ∧ g[(ordI g ls O)[i]'(by omega)].a = g[(ordI g ls O)[j]].a) := by
  intro h1 h2 e
  have ha := ordI_asc cw hij hj
  generalize (ordI g ls O)[i]'(by omega) = a at *
  generalize (ordI g ls O)[j] = b at *
  have hab : a ≠ b := fun e2 => by subst e2; omega
  rcases Nat.lt_or_gt_of_ne hab with h | h
  · have := befB_iff.1 (List.pairwise_iff_getElem.1 ok.srt a b h1 h2 h); omega
  · have := befB_iff.1 (List.pairwise_iff_getElem.1 ok.srt b a h2 h1 h); omega
/-- Where the leader of the m-th committed wave stands in the order. -/
def posO (g : List Vx) (ls : List Int) (O : List Nat) (m : Nat) : Nat := (ordI g ls O).findIdx fun k => k == (ldZ g ls (O.getD m 0)).toNat
theorem pos_at {m : Nat} (hm : m < O.length) : ∃ h : posO g ls O m < (ordI g ls O).length, ((ordI g ls O)[posO g ls O m] : Nat) = ldZ g ls O[m] ∧ owN g ls O (ordI g ls O)[posO g ls O m] = O[m] := by
  have hw := List.getElem_mem hm
  obtain ⟨j, hj, ej, er, ea⟩ := ld_at (cw.mem _ hw).2.2
  have hl : g[j] = ldV g ls O[m] := by unfold ldV; rw [ej, Int.toNat_natCast, getV hj]
  have how := ow_leader ok cw hw hj hl
  have hin : j ∈ ordI g ls O := (ord_mem fun v hv => (cw.mem v hv).1).2 ⟨hj, by have := (cw.mem _ hw).1; omega⟩
  have hg : O.getD m 0 = O[m] := by simp [List.getD, List.getElem?_eq_getElem hm]
  have hp : posO g ls O m < (ordI g ls O).length := by
    unfold posO
    refine List.findIdx_lt_length_of_exists ⟨j, hin, ?_⟩
    rw [hg, ej, Int.toNat_natCast]; simp
  have he : (ordI g ls O)[posO g ls O m] = j := by
    have := List.findIdx_getElem (xs := ordI g ls O) (p := fun k => k == (ldZ g ls (O.getD m 0)).toNat) (w := hp)
    exact (beq_iff_eq.1 this).trans (by rw [hg, ej, Int.toNat_natCast])
  exact ⟨hp, by rw [he, ej], by rw [he]; exact how⟩
theorem pos_asc {m n : Nat} (hmn : m < n) (hn : n < O.length) : posO g ls O m < posO g ls O n := by
  obtain ⟨h1, _, e1⟩ := pos_at ok cw (show m < O.length by omega)
  obtain ⟨h2, _, e2⟩ := pos_at ok cw hn
  have ha : O[m] < O[n] := List.pairwise_iff_getElem.1 cw.asc m n (by omega) hn hmn
  rcases Nat.lt_trichotomy (posO g ls O m) (posO g ls O n) with h | h | h
  · exact h
  · have e3 : (ordI g ls O)[posO g ls O m] = (ordI g ls O)[posO g ls O n] := by congr 1
    rw [e3, e2] at e1
    omega
  · have := ordI_asc cw h h1
    rw [e1, e2] at this
    omega
/-- P85: behind i vertices, just the first n leaders stand there. -/
def CntO (g : List Vx) (ls : List Int) (O : List Nat) (n i : Nat) : Prop := n ≤ O.length ∧ (∀ m, m < n → posO g ls O m < i) ∧ ∀ m, n ≤ m → m < O.length → i ≤ posO g ls O m
omit ok cw in
theorem cnt_zero : CntO g ls O 0 0 := ⟨Nat.zero_le _, fun m h => by omega, fun m _ _ => Nat.zero_le _⟩
theorem cnt_yes {n i : Nat} (h : CntO g ls O n i) (hn : n < O.length) (e : posO g ls O n = i) : CntO g ls O (n + 1) (i + 1) := by
  refine ⟨hn, fun m hm => ?_, fun m h1 h2 => ?_⟩
  · by_cases e2 : m = n
    · subst e2; omega
    · have := h.2.1 m (by omega); omega
  · have := pos_asc ok cw (show n < m by omega) h2
    omega
omit ok cw in
theorem cnt_no {n i : Nat} (h : CntO g ls O n i) (e : n < O.length → posO g ls O n ≠ i) (ha : ∀ m, n < m → m < O.length → posO g ls O n < posO g ls O m) : CntO g ls O n (i + 1) := by
  refine ⟨h.1, fun m hm => by have := h.2.1 m hm; omega, fun m h1 h2 => ?_⟩
  have h3 := h.2.2 m h1 h2
  have h4 := e (by omega)
  have h5 := h.2.2 n (Nat.le_refl _) (by omega)
  by_cases e2 : m = n
  · subst e2; omega
  · have := ha m (by omega) h2; omega
theorem cnt_end {n : Nat} (h : CntO g ls O n (ordI g ls O).length) : n = O.length := by
  rcases Nat.lt_or_ge n O.length with h1 | h1
  · obtain ⟨h2, _⟩ := pos_at ok cw h1
    have := h.2.2 n (Nat.le_refl _) h1
    omega
  · have := h.1; omega
/-- The i-th slot is that of the n-th wave's leader just where the leader stands. -/
theorem pos_iff {n i : Nat} (hn : n < O.length) (hi : i < (ordI g ls O).length) (hk : (ordI g ls O)[i] < g.length) : (g[(ordI g ls O)[i]].r = 2 * (O[n] : Int) - 1 ∧ g[(ordI g ls O)[i]].a = ls.getD (O[n] - 1) 0) ↔ posO g ls O n = i := by
  have hw := List.getElem_mem hn
  obtain ⟨j, hj, ej, er, ea⟩ := ld_at (cw.mem _ hw).2.2
  obtain ⟨hp, ep, _⟩ := pos_at ok cw hn
  have ep2 : (ordI g ls O)[posO g ls O n] = j := by omega
  constructor
  · rintro ⟨h1, h2⟩
    rcases Nat.lt_trichotomy (posO g ls O n) i with h | h | h
    · exact absurd ⟨by simp only [ep2]; omega, by simp only [ep2]; rw [ea, h2]⟩ (ordI_once ok cw h hi (by rw [ep2]; exact hj) hk)
    · exact h
    · exact absurd ⟨by simp only [ep2]; omega, by simp only [ep2]; rw [ea, h2]⟩ (ordI_once ok cw h hp hk (by rw [ep2]; exact hj))
  · rintro rfl
    simp only [ep2]
    exact ⟨er, ea⟩
end

end Go.Proofs.YtjaacdapibokiabGreatDoor

/- The order as the reference computes it: wave by wave over all numbers of waves; plain facts on lists, nothing here is walked. -/
namespace Go.Proofs.YtjaacdapibokiabGreatDoor
open Go.RowKit

theorem flat_skip {β : Type} {f : Nat → List β} : ∀ (n lo : Nat) (O : List Nat), O.Pairwise (· < ·) → (∀ v ∈ O, lo < v ∧ v ≤ lo + n) → (∀ w, lo < w → w ∉ O → f w = []) → (List.range' (lo + 1) n).flatMap f = O.flatMap f
  | 0, lo, O, _, hb, _ => by
    cases O with
    | nil => rfl
    | cons a r => have := hb a (by simp); omega
  | n + 1, lo, O, hs, hb, hf => by
    rw [List.range'_succ, List.flatMap_cons]
    cases O with
    | nil => rw [hf (lo + 1) (by omega) (by simp), List.nil_append]; exact flat_skip n (lo + 1) [] .nil (by simp) fun w h _ => hf w (by omega) (by simp)
    | cons a r =>
      obtain ⟨h1, h2⟩ := List.pairwise_cons.1 hs
      have ha := hb a (by simp)
      by_cases e : a = lo + 1
      · subst e
        rw [List.flatMap_cons, flat_skip n (lo + 1) r h2 (fun v hv => ⟨h1 v hv, by have := (hb v (List.mem_cons_of_mem _ hv)).2; omega⟩) fun w h hw => hf w (by omega) fun h3 => by
          rcases List.mem_cons.1 h3 with h4 | h4
          · omega
          · exact hw h4]
      · rw [hf (lo + 1) (by omega) (fun h3 => by
          rcases List.mem_cons.1 h3 with h4 | h4
          · exact e h4.symm
          · have := h1 _ h4; omega), List.nil_append]
        exact flat_skip n (lo + 1) (a :: r) hs (fun v hv => ⟨by
          rcases List.mem_cons.1 hv with rfl | h4
          · omega
          · have := h1 v h4; omega, by have := (hb v hv).2; omega⟩) fun w h hw => hf w (by omega) hw
theorem ordI_range {g : List Vx} {ls : List Int} {O : List Nat} (hs : O.Pairwise (· < ·)) (hb : ∀ v ∈ O, 1 ≤ v ∧ v ≤ ls.length) : ordI g ls O = (List.range' 1 ls.length).flatMap fun w => (List.range g.length).filter fun k => owN g ls O k == w := by
  unfold ordI
  refine (flat_skip ls.length 0 O hs (fun v hv => by have := hb v hv; omega) fun w hw hn => ?_).symm
  rw [List.filter_eq_nil_iff]
  intro k _ e
  have e2 : owN g ls O k = w := by simpa using e
  exact hn (e2 ▸ (ow_find (by omega)).1)
/-- One more wave's vertices, one vertex after the other. -/
theorem ow_step {g : List Vx} {ls : List Int} {O : List Nat} (w k : Nat) : (List.range (k + 1)).filter (fun k => owN g ls O k == w) = (List.range k).filter (fun k => owN g ls O k == w) ++ (if owN g ls O k == w then [k] else []) := by
  rw [List.range_succ, List.filter_append]
  congr 1
  cases h : owN g ls O k == w <;> simp [h]
/-- A wave more: what is not ordered yet and is hit by it is ordered by it. -/
theorem ow_snoc {g : List Vx} {ls : List Int} {O : List Nat} {w k : Nat} (h1 : ∀ v ∈ O, 1 ≤ v) : owN g ls (O ++ [w]) k = if owN g ls O k = 0 ∧ hitB g ls w k = true then w else owN g ls O k := by
  unfold owN
  rw [List.find?_append]
  cases e : O.find? fun w => hitB g ls w k with
  | some v =>
    have := h1 v (List.mem_of_find?_eq_some e)
    simp only [Option.some_or, Option.getD_some]
    rw [if_neg (fun h => by omega)]
  | none =>
    by_cases hh : hitB g ls w k = true
    · simp [List.find?, hh]
    · simp [List.find?, hh]

end Go.Proofs.YtjaacdapibokiabGreatDoor

/- Lists by a function of the place; the waves of all vertices as the reference keeps them; plain facts and lists of the call's own. -/
namespace Go.Proofs.YtjaacdapibokiabGreatDoor
open Go.RowKit

def fnL (n : Nat) (f : Nat → Int) : List Int := (List.range n).map f
theorem fnL_len (n : Nat) (f : Nat → Int) : (fnL n f).length = n := by simp [fnL]
theorem fnL_get {n : Nat} {f : Nat → Int} {k : Nat} (h : k < (fnL n f).length) : (fnL n f)[k] = f k := by simp [fnL]
theorem fnL_set (n : Nat) (f : Nat → Int) (k : Nat) (v : Int) : (fnL n f).set k v = fnL n fun j => if j = k then v else f j := by
  apply List.ext_getElem
  · simp [fnL]
  · intro j h1 h2
    rw [List.getElem_set]
    by_cases e : k = j
    · subst e; simp [fnL]
    · have e' : ¬ j = k := fun h => e h.symm
      simp [fnL, e, e']
theorem fnL_congr {n : Nat} {f f' : Nat → Int} (h : ∀ k, k < n → f k = f' k) : fnL n f = fnL n f' := by
  unfold fnL
  exact List.map_congr_left fun k hk => h k (List.mem_range.1 hk)
theorem own_zeros (E : TypeId) (w : World) (n : Nat) (hm : n ≤ maxLen) : Own E (w.alloc (.cells (madeCells #[.int .i64 0] n) E)) w.heap.size (.slice (some ⟨w.heap.size, 0, none⟩) n n) (fnL n fun _ => 0) := by
  have h1 : (fnL n fun _ => 0).map (Value.int .i64) = (madeCells #[.int .i64 0] n).toList := by
    rw [toList_madeCells_one]
    apply List.ext_getElem
    · simp [fnL]
    · intro j h1 h2; simp [fnL]
  unfold Own
  rw [h1, fnL_len]
  exact World.ownsRow_lit w (madeCells #[.int .i64 0] n) n (Nat.le_refl _) hm (by simp [madeCells])
/-- The waves of all vertices. -/
def owL (g : List Vx) (ls : List Int) (O : List Nat) : List Int := fnL g.length fun k => (owN g ls O k : Int)
/-- Behind the first k vertices of one more wave. -/
def owM (g : List Vx) (ls : List Int) (O : List Nat) (w k : Nat) : List Int := fnL g.length fun j => if j < k then (owN g ls (O ++ [w]) j : Int) else owN g ls O j
theorem owM_zero (g : List Vx) (ls : List Int) (O : List Nat) (w : Nat) : owM g ls O w 0 = owL g ls O := fnL_congr fun k _ => by rw [if_neg (by omega)]
theorem owM_end (g : List Vx) (ls : List Int) (O : List Nat) (w : Nat) : owM g ls O w g.length = owL g ls (O ++ [w]) := fnL_congr fun k hk => by rw [if_pos hk]
theorem owM_get {g : List Vx} {ls : List Int} {O : List Nat} {w k : Nat} (h : k < g.length) : (owM g ls O w k).getD k 0 = (owN g ls O k : Int) := by
  unfold owM fnL; simp [List.getD, h]
theorem owM_yes {g : List Vx} {ls : List Int} {O : List Nat} {w k : Nat} (hO : ∀ v ∈ O, 1 ≤ v) (e : owN g ls O k = 0) (hh : hitB g ls w k = true) : (owM g ls O w k).set k (w : Int) = owM g ls O w (k + 1) := by
  unfold owM
  rw [fnL_set]
  refine fnL_congr fun j hj => ?_
  by_cases e1 : j = k
  · subst e1; rw [if_pos rfl, if_pos (by omega), ow_snoc hO, if_pos ⟨e, hh⟩]
  · rw [if_neg e1]
    by_cases e2 : j < k
    · rw [if_pos e2, if_pos (by omega)]
    · rw [if_neg e2, if_neg (by omega)]
theorem owM_no {g : List Vx} {ls : List Int} {O : List Nat} {w k : Nat} (hO : ∀ v ∈ O, 1 ≤ v) (e : ¬ (owN g ls O k = 0 ∧ hitB g ls w k = true)) : owM g ls O w k = owM g ls O w (k + 1) := by
  unfold owM
  refine fnL_congr fun j hj => ?_
  by_cases e1 : j = k
  · subst e1; rw [if_neg (by omega), if_pos (by omega), ow_snoc hO, if_neg e]
  · by_cases e2 : j < k
    · rw [if_pos e2, if_pos (by omega)]
    · rw [if_neg e2, if_neg (by omega)]
/-- Behind the first k vertices of the m-th number of waves. -/
def orK (g : List Vx) (ls : List Int) (O : List Nat) (w k : Nat) : List Nat := ((List.range' 1 (w - 1)).flatMap fun w => (List.range g.length).filter fun k => owN g ls O k == w) ++ (List.range k).filter fun k => owN g ls O k == w
theorem orK_zero (g : List Vx) (ls : List Int) (O : List Nat) : orK g ls O 1 0 = [] := rfl
theorem orK_yes {g : List Vx} {ls : List Int} {O : List Nat} {w k : Nat} (e : owN g ls O k = w) : orK g ls O w (k + 1) = orK g ls O w k ++ [k] := by
  unfold orK; rw [ow_step, List.append_assoc, if_pos (by simp [e])]
theorem orK_no {g : List Vx} {ls : List Int} {O : List Nat} {w k : Nat} (e : owN g ls O k ≠ w) : orK g ls O w (k + 1) = orK g ls O w k := by
  unfold orK; rw [ow_step, if_neg (by simp [e]), List.append_nil]
theorem orK_row {g : List Vx} {ls : List Int} {O : List Nat} {w : Nat} (hw : 1 ≤ w) : orK g ls O w g.length = orK g ls O (w + 1) 0 := by
  obtain ⟨m, rfl⟩ : ∃ m, w = m + 1 := ⟨w - 1, by omega⟩
  unfold orK
  simp only [Nat.add_sub_cancel, List.range_zero, List.filter_nil, List.append_nil]
  rw [List.range'_1_concat, List.flatMap_append, List.flatMap_singleton, Nat.add_comm 1 m]
theorem orK_end {g : List Vx} {ls : List Int} {O : List Nat} (hs : O.Pairwise (· < ·)) (hb : ∀ v ∈ O, 1 ≤ v ∧ v ≤ ls.length) : orK g ls O (ls.length + 1) 0 = ordI g ls O := by
  rw [ordI_range hs hb]
  unfold orK
  simp
theorem orK_len {g : List Vx} {ls : List Int} {O : List Nat} : ∀ (w k : Nat), k ≤ g.length → (orK g ls O w k).length ≤ (w - 1) * g.length + k := by
  intro w k hk
  unfold orK
  rw [List.length_append]
  have h1 : ((List.range k).filter fun k => owN g ls O k == w).length ≤ k := by
    have := List.length_filter_le (fun k => owN g ls O k == w) (List.range k); simpa using this
  have h2 : ∀ m, ((List.range' 1 m).flatMap fun w => (List.range g.length).filter fun k => owN g ls O k == w).length ≤ m * g.length := by
    intro m
    induction m with
    | zero => simp
    | succ m ih =>
      rw [List.range'_1_concat, List.flatMap_append, List.length_append, List.flatMap_singleton]
      have := List.length_filter_le (fun k => owN g ls O k == 1 + m) (List.range g.length)
      rw [List.length_range] at this
      rw [Nat.succ_mul]; omega
  have := h2 (w - 1)
  omega

end Go.Proofs.YtjaacdapibokiabGreatDoor

/- What the functions of chapter 22 answer; plain facts, nothing here is walked. -/
namespace Go.Proofs.YtjaacdapibokiabGreatDoor
open Go.RowKit

/-- The committed waves, as numbers from 1 on. -/
def cwN (c : List Int) (g : List Vx) (ls : List Int) : List Nat := (cwZ c g ls).map Int.toNat
/-- The places of the ordered vertices, in their order. -/
def osI (c : List Int) (g : List Vx) (ls : List Int) : List Nat := if waB c g ls = true then ordI g ls (cwN c g ls) else []
def slA (g : List Vx) (k : Nat) : Int × Int := ((g.getD k vx0).r, (g.getD k vx0).a)
def osS (c : List Int) (g : List Vx) (ls : List Int) : List (Int × Int) := (osI c g ls).map (slA g)
def osD (c : List Int) (g : List Vx) (ls : List Int) : List Int := (osI c g ls).map fun k => (g.getD k vx0).d
/-- The wave that orders a vertex, 0, or -1. -/
def owZ (c : List Int) (g : List Vx) (ls : List Int) (r a : Int) : Int := if waB c g ls = true ∧ 0 ≤ findZ g r a then (owN g ls (cwN c g ls) (findZ g r a).toNat : Int) else -1
theorem cwN_of {c : List Int} {g : List Vx} {ls : List Int} {O : List Nat} (h : cwZ c g ls = O.map Int.ofNat) : cwN c g ls = O := by
  unfold cwN; rw [h, List.map_map]
  exact (List.map_congr_left fun x _ => by simp).trans (List.map_id O)
theorem cwN_ok {c : List Int} {g : List Vx} {ls : List Int} (ok : waB c g ls = true) (hps : ∀ x ∈ g, x.ps.length ≤ 1099511627776) : cwZ c g ls = (cwN c g ls).map Int.ofNat ∧ CwOk c g ls (cwN c g ls) := by
  obtain ⟨O, h1, h2⟩ := cw_ok ok hps
  rw [cwN_of h1]; exact ⟨h1, h2⟩
theorem osI_yes {c : List Int} {g : List Vx} {ls : List Int} (ok : waB c g ls = true) : osI c g ls = ordI g ls (cwN c g ls) := if_pos ok
theorem osI_no {c : List Int} {g : List Vx} {ls : List Int} (ok : waB c g ls = false) : osI c g ls = [] := if_neg (by rw [ok]; simp)
theorem osS_no {c : List Int} {g : List Vx} {ls : List Int} (ok : waB c g ls = false) : osS c g ls = [] := by unfold osS; rw [osI_no ok]; rfl
theorem osS_len (c : List Int) (g : List Vx) (ls : List Int) : (osS c g ls).length = (osI c g ls).length := by unfold osS; simp
theorem osD_len (c : List Int) (g : List Vx) (ls : List Int) : (osD c g ls).length = (osI c g ls).length := by unfold osD; simp
theorem ordI_len {g : List Vx} {ls : List Int} {O : List Nat} (hs : O.Pairwise (· < ·)) (h1 : ∀ v ∈ O, 1 ≤ v) : (ordI g ls O).length ≤ g.length := by
  have hnd := ord_nodup (g := g) (ls := ls) hs
  have hb : ∀ k ∈ ordI g ls O, k ∈ List.range g.length := fun k hk => List.mem_range.2 ((ord_mem h1).1 hk).1
  have := hnd.length_le_of_subset (l₂ := List.range g.length) hb
  simpa using this
theorem osI_len {c : List Int} {g : List Vx} {ls : List Int} (hps : ∀ x ∈ g, x.ps.length ≤ 1099511627776) : (osI c g ls).length ≤ g.length := by
  unfold osI
  split
  · rename_i ok
    have h := (cwN_ok ok hps).2
    exact ordI_len h.asc fun v hv => (h.mem v hv).1
  · simp
theorem osI_lt {c : List Int} {g : List Vx} {ls : List Int} (hps : ∀ x ∈ g, x.ps.length ≤ 1099511627776) : ∀ k ∈ osI c g ls, k < g.length := by
  intro k hk
  unfold osI at hk
  split at hk
  · rename_i ok
    have h := (cwN_ok ok hps).2
    exact ((ord_mem fun v hv => (h.mem v hv).1).1 hk).1
  · cases hk
/-- The same as the vertices, wave by wave. -/
theorem osS_ordV {c : List Int} {g : List Vx} {ls : List Int} (ok : waB c g ls = true) : osS c g ls = (ordV g ls (cwN c g ls)).map fun v => (v.r, v.a) := by
  unfold osS ordV
  rw [osI_yes ok, List.map_map]; rfl
theorem osD_ordV {c : List Int} {g : List Vx} {ls : List Int} (ok : waB c g ls = true) : osD c g ls = (ordV g ls (cwN c g ls)).map fun v => v.d := by
  unfold osD ordV
  rw [osI_yes ok, List.map_map]; rfl

end Go.Proofs.YtjaacdapibokiabGreatDoor

/- An owned list as the source of an append; a general step, nothing here speaks of the program. -/
namespace Go.Proofs.YtjaacdapibokiabGreatDoor
open Go.RowKit

theorem own_src {E : TypeId} {w : World} {B n c : Nat} {a : Option Addr} {xs : List Int} (h : Own E w B (.slice a n c) xs) : SrcAt w a c xs := by
  obtain ⟨a', c', e, _, hs, _⟩ := h.src
  cases e
  exact hs

end Go.Proofs.YtjaacdapibokiabGreatDoor

/- The reference's committed waves, by walks of its texts; condition: the graph has at most 2^20 vertices. -/
namespace Go.Proofs.YtjaacdapibokiabGreatDoor
open Go.RowKit

theorem TIw : IntT Tryz.prog 23 3 := ⟨Tryz.underlying23, by kernel_rfl⟩

set_option maxHeartbeats 8000000 in
set_option maxRecDepth 8000 in
theorem spec_l21Waves (ac : Option Addr) (capc : Nat) (c : List Int) (g : List Vx) (v : Value) (fp : List Nat) (al : Option Addr) (cap : Nat) (ls : List Int) (w : World) (hgb : graphB c g = true) (hlb : ls.length ≤ 15) (hbig : g.length ≤ 1048576) (hps : ∀ x ∈ g, x.ps.length ≤ 1099511627776) (hc : IntsAt w ac c) (hg : Gr w g v fp) (hi : IntsAt w al ls) :
    Calls Tryz.prog 73 #[.slice ac c.length capc, v, .slice al ls.length cap] w fun e w' => ∃ u, e = .returned u ∧ Own 3 w' w.heap.size u (wvs c g ls ls.length).1 ∧ Below w.heap.size w w' := by
  have hv : validB c = true := by have h := hgb; unfold graphB at h; simp only [Bool.and_eq_true] at h; exact h.1
  have hb0 : Below w.heap.size w (w.alloc (.cells #[] 3)) := (Below.refl _ _).alloc (Nat.le_refl _) _
  have Ho := Lib.hid (own_empty 3 w (Nat.le_refl w.heap.size))
  have hz0 : (w.alloc (.cells #[] 3)).heap.size = w.heap.size + 1 := by simp
  have HV := Lib.hid (fun m hm W (hb : Below w.heap.size w W) => spec_l21Votes ac capc c g v fp al cap ls m W hgb (by omega) hps hm hlb (hc.below hb) (hg.under hb) (hi.below hb))
  have HS := Lib.hid (fun W (hb : Below w.heap.size w W) => spec_l1Support ac capc c W hv (hc.below hb))
  have HL := Lib.hid (fun m hm W (hb : Below w.heap.size w W) => spec_l21Leader g v fp al cap ls m W (by omega) hm hlb (hg.under hb) (hi.below hb))
  have HP := Lib.hid (fun at' ha W (hb : Below w.heap.size w W) => spec_l11Past c g v fp at' W hgb hbig hps ha (hg.under hb))
  have Hb0 := Lib.hid hb0
  clear hc hg hi hps hb0 hgb hv
  go_enter Tryz.func73, Tryz.ntmps73
  go_wp2
  go_loopw [7, 8, 9] (fun o la i wr => ∃ m : Nat, 1 ≤ m ∧ m ≤ ls.length + 1 ∧ i = .int .i64 m ∧ la = .int .i64 ((wvs c g ls (m - 1)).2 : Nat) ∧ Own 3 wr w.heap.size o (wvs c g ls (m - 1)).1 ∧ Below w.heap.size w wr) (fun _ _ i _ => ls.length + 1 - (intOf i).toNat)
  case atStart => exact ⟨1, by omega, by omega, rfl, rfl, Ho.out, Hb0.out⟩
  case round =>
    obtain ⟨m, hm1, hm2, rfl, rfl, ho, hb⟩ := hrel
    have hwl := wvs_len (c := c) (g := g) (ls := ls) (m - 1)
    clear Ho Hb0 hz0
    have Ho := Lib.hid ho; have Hb := Lib.hid hb
    clear ho hb
    by_cases hlt : m ≤ ls.length
    · have hlt' : (m : Int) ≤ (ls.length : Int) := by omega
      go_wp2_with fail
      refine (HV.out m ⟨hm1, hlt⟩ wr Hb.out).mono ?_
      rintro e w1 ⟨rfl, hd1⟩
      have Ho1 := Lib.hid (Ho.out.below (hd1.below _))
      have Hb1 := Lib.hid (below_step Hb.out Hb.out.size (hd1.below _))
      clear hd1 Ho Hb
      go_wp2_with fail
      refine (HS.out w1 Hb1.out).mono ?_
      rintro e w2 ⟨rfl, rfl⟩
      by_cases hq : voZ c g ls m < totalZ c / 3 + 1
      · have hn := Lib.hid (wvs_no hm1 hq)
        generalize voZ c g ls m = V at *
        go_wp2
        go_roundw
        case rel => exact ⟨m + 1, by omega, by omega, by go_num, by rw [Nat.add_sub_cancel, hn.out], by rw [Nat.add_sub_cancel, hn.out]; exact Ho1.out, Hb1.out⟩
        case measure => simp [intOf]; omega
      · have hy := wvs_yes hm1 hq
        have Hy1 := Lib.hid (show (wvs c g ls m).1 = (wvs c g ls (m - 1)).1 ++ chZ g ls (wvs c g ls (m - 1)).2 (m - 1) [(m : Int)] (ldZ g ls m) by rw [hy])
        have Hy2 := Lib.hid (show (wvs c g ls m).2 = m by rw [hy])
        clear hy
        generalize voZ c g ls m = V at *
        generalize (wvs c g ls (m - 1)).2 = lo at *
        generalize (wvs c g ls (m - 1)).1 = O at *
        have hcl := chZ_len (g := g) (ls := ls) (lo := lo) (m - 1) [(m : Int)] (ldZ g ls m)
        generalize hCH : chZ g ls lo (m - 1) [(m : Int)] (ldZ g ls m) = CH at *
        have HCH := Lib.hid hCH; clear hCH
        have hal : Below w1.heap.size w1 (w1.alloc (.cells #[.int .i64 m] 3)) := (Below.refl _ _).alloc (Nat.le_refl _) _
        have oc := own_single 3 w1 m
        have hz1 : (w1.alloc (.cells #[.int .i64 m] 3)).heap.size = w1.heap.size + 1 := by simp
        have Hnb := Lib.hid (Ho1.out.lt)
        have hsw := Hb1.out.size
        have Ho2 := Lib.hid (Ho1.out.below hal)
        have Hb2 := Lib.hid (below_step Hb1.out Hb1.out.size hal)
        have Hc2 := Lib.hid oc
        clear oc hal Ho1 Hb1
        go_wp2_with fail
        generalize hw2 : w1.alloc (.cells #[.int .i64 m] 3) = w2 at *
        generalize hNB : w1.heap.size = NB at *
        refine (HL.out m ⟨hm1, hlt⟩ w2 Hb2.out).mono ?_
        rintro e w3 ⟨rfl, rfl⟩
        have Hlc := Lib.hid (ldZ_cases g ls m)
        go_wp2_with fail
        refine (HP.out _ Hlc.out w2 Hb2.out).mono ?_
        rintro e w4 ⟨pv, rfl, hpo, hb4⟩
        have Ho4 := Lib.hid (Ho2.out.below hb4)
        have Hc4 := Lib.hid (Hc2.out.below hb4)
        have Hb4 := Lib.hid (below_step Hb2.out Hb2.out.size hb4)
        have hs4 := hb4.size
        have Hp4 := Lib.hid (hpo.mono (show NB ≤ w2.heap.size by omega))
        clear hb4 hpo Ho2 Hc2 Hb2 hw2
        have hm0 : IntKind.i64.wrap ((m : Int) - 1) = ((m - 1 : Nat) : Int) := by rw [IntWalk.i64_in _ (by omega)]; omega
        go_wp2
        go_loopw [10, 11, 12] (fun ch pa xx wr => ∃ (x : Nat) (C : List Int) (at' : Int), x ≤ m - 1 ∧ xx = .int .i64 x ∧ C.length + x ≤ m ∧ chZ g ls lo x C at' = CH ∧ Own 3 wr NB ch C ∧ OwnB 4 wr NB pa (pastB g at') ∧ Own 3 wr w.heap.size u7 O ∧ Below w.heap.size w wr ∧ NB ≤ wr.heap.size) (fun _ _ xx _ => (intOf xx).toNat)
        case atStart => exact ⟨m - 1, [(m : Int)], ldZ g ls m, by omega, by first | rfl | rw [hm0], by simp; omega, HCH.out, Hc4.out, Hp4.out, Ho4.out, Hb4.out, by omega⟩
        case round =>
          obtain ⟨x, C, at', hx, rfl, hCl, hch, hc5, hp5, ho5, hb5, hn5⟩ := hrel
          have Hc5 := Lib.hid hc5; have Hp5 := Lib.hid hp5; have Ho5 := Lib.hid ho5; have Hb5 := Lib.hid hb5; have Hch := Lib.hid hch
          clear hc5 hp5 ho5 hb5 hch Hc4 Hp4 Ho4 Hb4 hs4 hm0
          obtain ⟨ac5, cc5, rfl, _, _⟩ := Hc5.out.ints
          have hCb : C.length ≤ 15 := by omega
          by_cases hxl : lo < x
          · have hxl' : (lo : Int) < (x : Int) := by omega
            have hx1 : IntKind.i64.wrap ((x : Int) - 1) = ((x - 1 : Nat) : Int) := by rw [IntWalk.i64_in _ (by omega)]; omega
            have Hyes := Lib.hid (fun h => (chZ_yes (g := g) (ls := ls) (ch := C) (at' := at') hxl h).symm.trans Hch.out)
            have Hno := Lib.hid (fun h => (chZ_no (g := g) (ls := ls) (ch := C) (at' := at') hxl h).symm.trans Hch.out)
            have Hlk := Lib.hid (show linkB g ls at' x = (decide (0 ≤ ldZ g ls x) && (pastB g at').getD (ldZ g ls x).toNat false) from rfl)
            have Hpl := Lib.hid (pastB_len g at')
            have Hlc := Lib.hid (ldZ_cases g ls x)
            clear hxl
            go_wp2_with fail
            refine (HL.out x ⟨by omega, by omega⟩ wr Hb5.out).mono ?_
            rintro e w6 ⟨rfl, rfl⟩
            have HPx := Lib.hid (HP.out _ Hlc.out)
            by_cases hz : 0 ≤ ldZ g ls x
            · obtain ⟨j, hj, hje⟩ : ∃ j : Nat, j < g.length ∧ ldZ g ls x = j := by
                rcases Hlc.out with h | h
                · omega
                · exact h
              have Hj := Lib.hid hje
              have hbl : (pastB g at').length = g.length := Hpl.out
              obtain ⟨gp, pc, rfl, _, hgp, _, hcell, _⟩ := Hp5.out.row (by omega)
              have hj0 : j < (pastB g at').length := by omega
              have hcj := hcell j hj0
              have hgj : (pastB g at').getD j false = (pastB g at')[j] := by simp [List.getD, List.getElem?_eq_getElem hj0]
              rw [← hgj] at hcj
              have Hlk2 := Lib.hid (show linkB g ls at' x = (pastB g at').getD j false by rw [Hlk.out, hje]; simp)
              have hz' : decide (0 ≤ (j : Int)) = true := by simp
              have HPj := Lib.hid (HP.out (j : Int) (.inr ⟨j, hj, rfl⟩))
              rw [hje]
              have hjl : (j : Int) < ((pastB g at').length : Int) := by omega
              clear hcell hgj hz Hlk hbl hj0 hje HPx
              cases hbj : (pastB g at').getD j false with
              | true =>
                have Hy := Lib.hid ((Hyes.out (Hlk2.out.trans hbj)).symm ▸ (show chZ g ls lo (x - 1) ((x : Int) :: C) (j : Int) = chZ g ls lo (x - 1) ((x : Int) :: C) (ldZ g ls x) by rw [Hj.out]))
                rw [hbj] at hcj
                clear hbj Hlk2 Hyes Hno
                have hal5 : Below wr.heap.size wr (wr.alloc (.cells #[.int .i64 x] 3)) := (Below.refl _ _).alloc (Nat.le_refl _) _
                have hz5 : (wr.alloc (.cells #[.int .i64 x] 3)).heap.size = wr.heap.size + 1 := by simp
                have Oc := Lib.hid (own_single 3 wr x)
                have Hsr := Lib.hid (own_src (Hc5.out.below hal5))
                have Ho6 := Lib.hid (Ho5.out.below hal5)
                have hsb := Hb5.out.size
                have Hb6 := Lib.hid (below_step Hb5.out Hb5.out.size hal5)
                have Hlt := Lib.hid (fun q e => (Ho5.out.lt q e).2)
                clear hal5
                go_wp2_with (at_builtin; refine wpList_appI TIw rfl _ _ rfl wr.heap.size (.slice (some ⟨wr.heap.size, 0, none⟩) 1 1) [(x : Int)] C ac5 cc5 rfl Oc.out rfl Hsr.out (by simp; omega) (by rw [hz5]; omega) ?_; intro v7 w7 ho7 hg7)
                have hs7 := hg7.size
                have Hb7 := Lib.hid (Hb6.out.grown hg7 (by omega) (fun q e => by cases e; omega))
                have Ho7 := Lib.hid (Ho6.out.kept hg7 (.inr (fun e => by have h9 := Hlt.out wr.heap.size e; omega)))
                have Hc7 := Lib.hid ho7
                clear ho7 hg7 Ho6 Hb6 Hsr Oc
                refine (HPj.out w7 Hb7.out).mono ?_
                rintro e w8 ⟨pv8, rfl, hp8, hb8⟩
                have Ho8 := Lib.hid (Ho7.out.below hb8)
                have Hc8 := Lib.hid ((Hc7.out.below hb8).mono (show NB ≤ wr.heap.size from hn5))
                have Hb8 := Lib.hid (below_step Hb7.out Hb7.out.size hb8)
                have Hp8 := Lib.hid (hp8.mono (show NB ≤ w7.heap.size by omega))
                have hs8 := hb8.size
                clear hp8 hb8
                go_wp2
                go_roundw
                case rel => exact ⟨x - 1, (x : Int) :: C, (j : Int), by omega, by first | rfl | rw [hx1], by rw [List.length_cons]; omega, Hy.out, Hc8.out, Hp8.out, Ho8.out, Hb8.out, by omega⟩
                case measure => simp [intOf]; omega
              | false =>
                have Hn := Lib.hid (Hno.out (Hlk2.out.trans hbj))
                rw [hbj] at hcj
                clear hbj Hlk2 Hyes Hno
                go_wp2
                go_roundw
                case rel => exact ⟨x - 1, C, at', by omega, by first | rfl | rw [hx1], by omega, Hn.out, Hc5.out, Hp5.out, Ho5.out, Hb5.out, hn5⟩
                case measure => simp [intOf]; omega
            · have Hn := Lib.hid (Hno.out (by rw [Hlk.out, decide_eq_false hz]; rfl))
              clear Hyes Hno Hlk
              generalize ldZ g ls x = z at *
              go_wp2
              go_roundw
              case rel => exact ⟨x - 1, C, at', by omega, by first | rfl | rw [hx1], by omega, Hn.out, Hc5.out, Hp5.out, Ho5.out, Hb5.out, hn5⟩
              case measure => simp [intOf]; omega
          · have hCH := (chZ_done (g := g) (ls := ls) (ch := C) (at' := at') (show x ≤ lo by omega)).symm.trans Hch.out
            have HCC := Lib.hid hCH; clear hCH
            have Hsr := Lib.hid (own_src Hc5.out)
            have hsb := Hb5.out.size
            have Hlt := Lib.hid (fun q e => (Ho5.out.lt q e).1)
            go_wp2_with (at_builtin; refine wpList_appI TIw rfl _ _ rfl w.heap.size u7 O C ac5 cc5 rfl Ho5.out rfl Hsr.out (by omega) hsb ?_; intro v8 w8 ho8 hg8)
            have Hb8 := Lib.hid (Hb5.out.grown hg8 hsb (fun q e => Hlt.out q e))
            have Ho8 := Lib.hid ho8
            clear ho8 hg8
            go_roundw
            case rel => exact ⟨m + 1, by omega, by omega, by go_num, by rw [Nat.add_sub_cancel, Hy2.out], by rw [Nat.add_sub_cancel, Hy1.out, ← HCC.out]; exact Ho8.out, Hb8.out⟩
            case measure => simp [intOf]; omega
    · have hml : m - 1 = ls.length := by omega
      go_wp2
      go_ret
      exact ⟨_, rfl, by rw [← hml]; exact Ho.out, Hb.out⟩

end Go.Proofs.YtjaacdapibokiabGreatDoor

/- The reference's CommitWaves, by a walk of its text; condition: the graph has at most 2^20 vertices. -/
namespace Go.Proofs.YtjaacdapibokiabGreatDoor
open Go.RowKit

end Go.Proofs.YtjaacdapibokiabGreatDoor

/- The reference's waves of all vertices and its order, each by a walk of its text; condition: the graph has at most 2^20 vertices. -/
namespace Go.Proofs.YtjaacdapibokiabGreatDoor
open Go.RowKit

theorem owL_len (g : List Vx) (ls : List Int) (O : List Nat) : (owL g ls O).length = g.length := fnL_len _ _
theorem owM_len (g : List Vx) (ls : List Int) (O : List Nat) (w k : Nat) : (owM g ls O w k).length = g.length := fnL_len _ _
theorem owL_zero (g : List Vx) (ls : List Int) : owL g ls [] = fnL g.length fun _ => 0 := fnL_congr fun _ _ => rfl
theorem ow_bd {g : List Vx} {ls : List Int} {O : List Nat} (h : ∀ v ∈ O, v ≤ 15) (k : Nat) : owN g ls O k ≤ 15 := by
  by_cases e : owN g ls O k = 0
  · omega
  · exact h _ (ow_find e).1

set_option maxHeartbeats 4000000 in
set_option maxRecDepth 8000 in
theorem spec_l22Waves (ac : Option Addr) (capc : Nat) (c : List Int) (g : List Vx) (v : Value) (fp : List Nat) (al : Option Addr) (cap : Nat) (ls : List Int) (w : World) (hwa : waB c g ls = true) (hbig : g.length ≤ 1048576) (hps : ∀ x ∈ g, x.ps.length ≤ 1099511627776) (hc : IntsAt w ac c) (hg : Gr w g v fp) (hi : IntsAt w al ls) :
    Calls Tryz.prog 48 #[.slice ac c.length capc, v, .slice al ls.length cap] w fun e w' => ∃ u, e = .returned u ∧ Own 3 w' w.heap.size u (owL g ls (cwN c g ls)) ∧ Below w.heap.size w w' := by
  have hgb : graphB c g = true := by unfold waB at hwa; simp only [Bool.and_eq_true] at hwa; exact hwa.1
  have h15 : ls.length ≤ 15 := by unfold waB at hwa; simp only [Bool.and_eq_true] at hwa; exact (ldAt hwa.2).1
  obtain ⟨hcw, hcok⟩ := cwN_ok hwa hps
  have hwv : (wvs c g ls ls.length).1 = (cwN c g ls).map Int.ofNat := by rw [← hcw]; unfold cwZ; rw [if_pos hwa]
  have hmk : ∀ w, (Instr.makeSlice 23 (.int .i64 (g.length : Int)) (.int .i64 (g.length : Int))).run Tryz.prog w = .ok (.slice (some ⟨w.heap.size, 0, none⟩) g.length g.length) (w.alloc (.cells (madeCells #[.int .i64 0] g.length) 3)) :=
    fun w => run_make_row' 23 3 (.int .i64 0) 8 Tryz.underlying23 (by kernel_rfl) rfl .i64 .i64 g.length (by omega) (by omega) w
  have hb1 : Below w.heap.size w (w.alloc (.cells (madeCells #[.int .i64 0] g.length) 3)) := (Below.refl _ _).alloc (Nat.le_refl _) _
  have ho1 := own_zeros 3 w g.length (by unfold maxLen; omega)
  rw [← owL_zero g ls] at ho1
  have hz1 : (w.alloc (.cells (madeCells #[.int .i64 0] g.length) 3)).heap.size = w.heap.size + 1 := by simp
  obtain ⟨va, vc, rfl⟩ := hg.slice
  have HW := Lib.hid (spec_l21Waves ac capc c g (.slice va g.length vc) fp al cap ls _ hgb h15 hbig hps (hc.below hb1) (hg.under hb1) (hi.below hb1))
  rw [hwv] at HW
  have HL := Lib.hid (fun m hm W (hb : Below w.heap.size w W) => spec_l21Leader g (.slice va g.length vc) fp al cap ls m W (by omega) hm h15 (hg.under hb) (hi.below hb))
  have HP := Lib.hid (fun at' ha W (hb : Below w.heap.size w W) => spec_l11Past c g (.slice va g.length vc) fp at' W hgb hbig hps ha (hg.under hb))
  have Hgr := Lib.hid (fun W (hb : Below w.heap.size w W) => hg.under hb)
  have Hcok := Lib.hid hcok
  have HB15 := Lib.hid (show ∀ v ∈ cwN c g ls, v ≤ 15 from fun v hv => by have := (hcok.mem v hv).2.1; omega)
  have hOl : (cwN c g ls).length ≤ 15 := by
    have h2 : (cwN c g ls).length ≤ (List.range' 1 ls.length).length := List.Nodup.length_le_of_subset (show (cwN c g ls).Nodup from hcok.asc.imp (fun {a b} h => Nat.ne_of_lt h)) fun v hv => by
      have := hcok.mem v hv; rw [List.mem_range'_1]; omega
    rw [List.length_range'] at h2; omega
  have HO1 := Lib.hid (show ∀ v ∈ cwN c g ls, 1 ≤ v from fun v hv => (hcok.mem v hv).1)
  have Ho1 := Lib.hid ho1; have Hb1 := Lib.hid hb1
  generalize cwN c g ls = O at *
  clear hc hg hi hps hwa hgb hwv hcw hcok ho1
  go_enter Tryz.func48, Tryz.ntmps48
  go_wp2_with fail
  generalize w.alloc (.cells (madeCells #[.int .i64 0] g.length) 3) = w1 at *
  refine HW.out.mono ?_
  rintro e w2 ⟨uw, rfl, how, hb2⟩
  have hs2 := hb2.size
  have Ho2 := Lib.hid (Ho1.out.below hb2)
  have Hb2 := Lib.hid (below_step Hb1.out Hb1.out.size hb2)
  have Hw2 := Lib.hid how
  obtain ⟨aw, cw, rfl, _, _⟩ := how.ints
  rw [List.length_map] at *
  clear hb1 hb2 how hmk HW Ho1 Hb1
  generalize hLO : w.heap.size = LO at *
  go_wp2_with fail
  go_loopw [9, 10, 11] (fun i _ _ wr => ∃ m : Nat, m ≤ O.length ∧ i = .int .i64 m ∧ Own 3 wr LO (.slice (some ⟨LO, 0, none⟩) g.length g.length) (owL g ls (O.take m)) ∧ Own 3 wr (LO + 1) (.slice aw O.length cw) (O.map Int.ofNat) ∧ Below LO w wr) (fun i _ _ _ => O.length - (intOf i).toNat)
  case atStart => exact ⟨0, by omega, rfl, by rw [List.take_zero]; exact Ho2.out, hz1 ▸ Hw2.out, Hb2.out⟩
  case round =>
    obtain ⟨m, hm, rfl, ho, hw, hb⟩ := hrel
    have Ho := Lib.hid ho; have Hw := Lib.hid hw; have Hb := Lib.hid hb
    by_cases hlt : m < O.length
    · have hlt' : (m : Int) < (O.length : Int) := by omega
      obtain ⟨gw, cw', ep, hgw, hgl, _, hcell, _⟩ := Own.row hw (by rw [List.length_map]; omega)
      simp only [Value.slice.injEq, List.length_map, true_and] at ep
      obtain ⟨rfl, rfl⟩ := ep
      have cm := hcell m (by rw [List.length_map]; exact hlt)
      rw [List.getElem_map] at cm
      have hmem := Hcok.out.mem _ (List.getElem_mem hlt)
      have hT1 : ∀ v ∈ O.take m, 1 ≤ v := fun v hv => HO1.out v (List.mem_of_mem_take hv)
      have hT15 : ∀ v ∈ O.take m, v ≤ 15 := fun v hv => HB15.out v (List.mem_of_mem_take hv)
      have htk : O.take m ++ [O[m]] = O.take (m + 1) := (List.take_succ_eq_append_getElem hlt).symm
      generalize O[m] = W at *
      have cm : wr.cell? ⟨gw, m, none⟩ = some (.int .i64 (W : Int)) := cm
      have HT1 := Lib.hid hT1; have HT15 := Lib.hid hT15; have Htk := Lib.hid htk
      generalize O.take m = OP at *
      have HLm := Lib.hid (HL.out W ⟨hmem.1, hmem.2.1⟩ wr Hb.out)
      have HPm := Lib.hid (HP.out (ldZ g ls W) (by
        have h0 := hmem.2.2
        obtain ⟨j, hj, ej, _⟩ := ld_at h0
        exact .inr ⟨j, hj, ej⟩))
      have Hmem := Lib.hid hmem
      have Hh := Lib.hid (show ∀ k, hitB g ls W k = ((pastB g (ldZ g ls W)).getD k false && decide (2 * (W : Int) - 7 ≤ (g.getD k vx0).r)) from fun k => rfl)
      have hW := hmem.1; have hW15 : W ≤ 15 := by omega
      have hpl := pastB_len g (ldZ g ls W)
      generalize pastB g (ldZ g ls W) = PB at *
      have hzr := hb.size
      clear hcell hT1 hT15 htk hmem ho hw hb
      go_wp2_with fail
      refine HLm.out.mono ?_
      rintro e w3 ⟨rfl, rfl⟩
      go_wp2_with fail
      refine (HPm.out wr Hb.out).mono ?_
      rintro e w4 ⟨up, rfl, hop, hb4⟩
      have hz4 := hb4.size
      have Ho3 := Lib.hid (Ho.out.below hb4)
      have Hw3 := Lib.hid (Hw.out.below hb4)
      obtain ⟨ap, cp, rfl, _⟩ := hop.slice
      rw [hpl] at hop
      have Hp3 := Lib.hid (hop.mono (show LO + 1 ≤ wr.heap.size by have := World.block_lt_of_cell? _ _ cm; simp only at this; omega))
      have Hb3 := Lib.hid (below_step Hb.out (by omega) hb4)
      have HPl := Lib.hid hpl
      rw [hpl]
      clear hop hb4 cm HLm HPm Ho Hw Hb hpl
      go_wp2
      go_loopw [11] (fun kk wr => ∃ k : Nat, k ≤ g.length ∧ kk = .int .i64 k ∧ Own 3 wr LO (.slice (some ⟨LO, 0, none⟩) g.length g.length) (owM g ls OP W k) ∧ OwnB 4 wr (LO + 1) (.slice ap g.length cp) PB ∧ Own 3 wr (LO + 1) (.slice (some ⟨gw, 0, none⟩) O.length cw) (O.map Int.ofNat) ∧ Below LO w wr) (fun kk _ => g.length - (intOf kk).toNat)
      case atStart => exact ⟨0, by omega, rfl, by rw [owM_zero]; exact Ho3.out, Hp3.out, Hw3.out, Hb3.out⟩
      case round =>
        obtain ⟨k, hk, rfl, ho, hp, hw, hb⟩ := hrel
        have Ho4 := Lib.hid ho; have Hp4 := Lib.hid hp; have Hw4 := Lib.hid hw; have Hb4 := Lib.hid hb
        by_cases hlk : k < g.length
        · have hlk' : (k : Int) < (g.length : Int) := by omega
          obtain ⟨gp, cp', ep, _, hgpl, _, hpc, _⟩ := hp.row (by rw [HPl.out]; omega)
          simp only [Value.slice.injEq, HPl.out, true_and] at ep
          obtain ⟨rfl, rfl⟩ := ep
          have cp0 := hpc k (by rw [HPl.out]; exact hlk)
          have hgd : PB.getD k false = PB[k]'(by rw [HPl.out]; exact hlk) := by simp [List.getD, List.getElem?_eq_getElem (show k < PB.length by rw [HPl.out]; exact hlk)]
          rw [← hgd] at cp0
          obtain ⟨gq, cq, eq, _, _, _, hoc, hof⟩ := Own.row ho (by rw [owM_len]; omega)
          simp only [Value.slice.injEq, Option.some.injEq, Addr.mk.injEq, and_true, true_and, owM_len] at eq
          obtain ⟨rfl, rfl⟩ := eq
          have co0 := hoc k (by rw [owM_len]; exact hlk)
          rw [← getD_get (by rw [owM_len]; exact hlk), owM_get hlk] at co0
          have fo0 := hof k
          obtain ⟨_, _, eg, _, _, _, hwc, _⟩ := Own.row hw (by rw [List.length_map]; omega)
          simp only [Value.slice.injEq, Option.some.injEq, Addr.mk.injEq, and_true, true_and, List.length_map] at eg
          obtain ⟨rfl, rfl⟩ := eg
          have cw0 := hwc m (by rw [List.length_map]; exact hlt)
          rw [List.getElem_map] at cw0
          have hOm : (Int.ofNat O[m] : Int) = (W : Int) := by
            have h1 := Htk.out
            rw [List.take_succ_eq_append_getElem hlt] at h1
            have h2 := List.append_inj_right' h1 (by simp)
            simp at h2
            rw [h2]; rfl
          rw [hOm] at cw0
          obtain ⟨b, off, hag, hbl, hat⟩ := (Hgr.out wr hb).at (by omega)
          subst hag
          obtain ⟨c0, _⟩ := hat k hlk
          have hr : 0 ≤ g[k].r ∨ g[k].r ≤ 0 := by omega
          have hgk : (g.getD k vx0).r = g[k].r := by rw [getV hlk]
          have Hhk := Lib.hid ((Hh.out k).trans (by rw [hgk]))
          have hxb := ow_bd (g := g) (ls := ls) HT15.out k
          have Hn := Lib.hid (owM_no (g := g) (ls := ls) (w := W) (k := k) HT1.out)
          have Hy := Lib.hid (owM_yes (g := g) (ls := ls) (w := W) (k := k) HT1.out)
          have Hown := Lib.hid (fun n => (ho.drewN n).store (by rw [owM_len]) k (W : Int))
          generalize hitB g ls W k = HB at *
          generalize g[k].r = R at *
          generalize PB.getD k false = PK at *
          generalize owN g ls OP k = X at *
          have e1 : IntKind.i64.wrap (2 * (W : Int)) = 2 * (W : Int) := IntWalk.i64_in _ (by omega)
          have e2 : IntKind.i64.wrap (2 * (W : Int) - 1) = 2 * (W : Int) - 1 := IntWalk.i64_in _ (by omega)
          have e3 : IntKind.i64.wrap (2 * (W : Int) - 1 - 6) = 2 * (W : Int) - 7 := by rw [IntWalk.i64_in _ (by omega)]; omega
          clear hpc hoc hof hwc hat hgd hgk hOm ho hp hw hb hr
          cases PK with
          | false =>
            have Hno := Lib.hid (Hn.out (fun h => by have := h.2; rw [Hhk.out] at this; simp at this))
            clear Hn Hy Hhk
            go_wp2_with fail
            go_quiet (fail)
            go_wp2
            go_roundw
            case rel => exact ⟨k + 1, by omega, by go_num, by rw [← Hno.out]; exact (Ho4.out.below (below_drewN (Below.refl _ _) _)), Hp4.out.below (below_drewN (Below.refl _ _) _), Hw4.out.below (below_drewN (Below.refl _ _) _), below_drewN Hb4.out _⟩
            case measure => simp [intOf]; omega
          | true =>
            by_cases hX : X = 0
            case neg =>
              have hX' : ((X : Int) == 0) = false := by rw [beq_eq_false_iff_ne]; omega
              have Hno := Lib.hid (Hn.out (fun h => hX h.1))
              clear Hn Hy Hhk hX
              go_wp2_with fail
              go_quiet (fail)
              go_wp2
              go_roundw
              case rel => exact ⟨k + 1, by omega, by go_num, by rw [← Hno.out]; exact (Ho4.out.below (below_drewN (Below.refl _ _) _)), Hp4.out.below (below_drewN (Below.refl _ _) _), Hw4.out.below (below_drewN (Below.refl _ _) _), below_drewN Hb4.out _⟩
              case measure => simp [intOf]; omega
            subst hX
            have hX' : (((0 : Nat) : Int) == 0) = true := rfl
            have co0 : wr.cell? ⟨w.heap.size, k, none⟩ = some (.int .i64 0) := by rw [hLO]; exact co0
            by_cases hR : 2 * (W : Int) - 7 ≤ R
            case neg =>
              have hR' : decide (2 * (W : Int) - 7 ≤ R) = false := decide_eq_false hR
              have Hno := Lib.hid (Hn.out (fun h => by have := h.2; rw [Hhk.out, hR'] at this; simp at this))
              clear Hn Hy Hhk hR'
              go_wp2_with fail
              go_quiet (fail)
              go_wp2
              go_roundw
              case rel => exact ⟨k + 1, by omega, by go_num, by rw [← Hno.out]; exact (Ho4.out.below (below_drewN (Below.refl _ _) _)), Hp4.out.below (below_drewN (Below.refl _ _) _), Hw4.out.below (below_drewN (Below.refl _ _) _), below_drewN Hb4.out _⟩
              case measure => simp [intOf]; omega
            have hR' : decide (2 * (W : Int) - 7 ≤ R) = true := decide_eq_true hR
            have Hye := Lib.hid (Hy.out rfl (by rw [Hhk.out, hR']; rfl))
            clear Hn Hy Hhk hR'
            go_wp2_with fail
            go_quiet (fail)
            go_wp2
            obtain ⟨s1, g1⟩ := Hown.out nq
            have hneP : ∀ (u : Value), (∀ q, u.ownBlock = some q → LO + 1 ≤ q) → (u.ownBlock = none ∨ u.ownBlock ≠ some LO) := fun u h => by
              cases hu : u.ownBlock with
              | none => exact .inl rfl
              | some q => exact .inr (fun e => by have := h q hu; simp at e; omega)
            have Hp5 := Lib.hid ((Hp4.out.below (below_drewN (Below.refl _ _) nq)).kept g1 (hneP _ (fun q e => (Hp4.out.lt q e).1)))
            have Hw5 := Lib.hid ((Hw4.out.below (below_drewN (Below.refl _ _) nq)).kept g1 (hneP _ (fun q e => (Hw4.out.lt q e).1)))
            have Hb5 := Lib.hid ((below_drewN Hb4.out nq).setCell (p := ⟨LO, k, none⟩) (Nat.le_refl _) (.int .i64 W))
            have Ho5 := Lib.hid s1
            clear s1 g1 hneP
            go_roundw
            case rel => exact ⟨k + 1, by omega, by go_num, by rw [← Hye.out]; exact Ho5.out, Hp5.out, Hw5.out, Hb5.out⟩
            case measure => simp [intOf]; omega
        · have hkl : k = g.length := by omega
          subst hkl
          have Ho5 := Lib.hid ho; have Hw5 := Lib.hid hw; have Hb5 := Lib.hid hb
          clear ho hp hw hb
          go_wp2
          go_roundw
          case rel => exact ⟨m + 1, by omega, by go_num, by rw [← Htk.out, ← owM_end]; exact Ho5.out, Hw5.out, Hb5.out⟩
          case measure => simp [intOf]; omega
    · have hml : O.take m = O := List.take_of_length_le (by omega)
      rw [hml] at Ho
      clear hml ho hw hb
      go_wp2
      go_ret
      exact ⟨_, rfl, by rw [hLO]; exact Ho.out, by rw [hLO]; exact Hb.out⟩

end Go.Proofs.YtjaacdapibokiabGreatDoor

/- A heap in a list: sifting up and down keeps what is in it, the least comes first; plain facts on lists, nothing here is walked. -/
namespace Go.Proofs.YtjaacdapibokiabGreatDoor
open Go.RowKit

/-- A vertex's place as its key. -/
def kyV (v : Vx) : Nat := plN v.r v.a
theorem ky_bef {x y : Vx} (hx : inPl x) (hy : inPl y) : befB x y = true ↔ kyV x < kyV y := by
  unfold inPl at hx hy
  rw [befB_iff]
  unfold kyV plN
  omega
/-- The key at a place of a list. -/
def kyA (L : List Vx) (i : Nat) : Nat := kyV (L.getD i vx0)
/-- Two places changed. -/
def swpL (L : List Vx) (i j : Nat) : List Vx := (L.set i (L.getD j vx0)).set j (L.getD i vx0)
theorem swp_len (L : List Vx) (i j : Nat) : (swpL L i j).length = L.length := by simp [swpL]
theorem swp_get {L : List Vx} {i j : Nat} (hi : i < L.length) (hj : j < L.length) (k : Nat) : (swpL L i j).getD k vx0 = if k = j then L.getD i vx0 else if k = i then L.getD j vx0 else L.getD k vx0 := by
  unfold swpL
  generalize L.getD i vx0 = x
  generalize L.getD j vx0 = y
  simp only [List.getD, List.getElem?_set, List.length_set]
  by_cases h1 : k = j
  · subst h1; simp [hj]
  · rw [if_neg (fun h => h1 h.symm), if_neg h1]
    by_cases h2 : k = i
    · subst h2; simp [hi]
    · rw [if_neg (fun h => h2 h.symm), if_neg h2]
theorem swp_perm {L : List Vx} {i j : Nat} (hi : i < L.length) (hj : j < L.length) : (swpL L i j).Perm L := by
  have := @List.set_set_perm _ L i j hi hj
  unfold swpL
  rw [getV hi, getV hj]
  exact this
theorem swp_ky {L : List Vx} {i j : Nat} (hi : i < L.length) (hj : j < L.length) (k : Nat) : kyA (swpL L i j) k = if k = j then kyA L i else if k = i then kyA L j else kyA L k := by
  unfold kyA
  rw [swp_get hi hj]
  split
  · rfl
  · split <;> rfl

/-- The first n places are a heap. -/
def HpN (L : List Vx) (n : Nat) : Prop := ∀ i, 0 < i → i < n → kyA L ((i - 1) / 2) ≤ kyA L i
/-- A heap but for what stands at place j, which may be too small for it. -/
def HpU (L : List Vx) (n j : Nat) : Prop := (∀ i, 0 < i → i < n → i ≠ j → kyA L ((i - 1) / 2) ≤ kyA L i) ∧ ∀ i, 0 < i → i < n → (i - 1) / 2 = j → 0 < j → kyA L ((j - 1) / 2) ≤ kyA L i
/-- A heap but for what stands at place j, which may be too great for it. -/
def HpD (L : List Vx) (n j : Nat) : Prop := (∀ i, 0 < i → i < n → (i - 1) / 2 ≠ j → kyA L ((i - 1) / 2) ≤ kyA L i) ∧ ∀ i, 0 < i → i < n → (i - 1) / 2 = j → 0 < j → kyA L ((j - 1) / 2) ≤ kyA L i
theorem hpu_end {L : List Vx} {n j : Nat} (h : HpU L n j) (e : 0 < j → kyA L ((j - 1) / 2) ≤ kyA L j) : HpN L n := by
  intro i h0 hi
  by_cases hij : i = j
  · subst hij; exact e h0
  · exact h.1 i h0 hi hij
theorem hpu_step {L : List Vx} {n j : Nat} (hn : n = L.length) (hj : j < n) (h0 : 0 < j) (h : HpU L n j) (hl : kyA L j < kyA L ((j - 1) / 2)) : HpU (swpL L ((j - 1) / 2) j) n ((j - 1) / 2) := by
  have hp : (j - 1) / 2 < L.length := by omega
  have hj' : j < L.length := by omega
  refine ⟨fun i hi hi2 hne => ?_, fun i hi hi2 hpi hpo => ?_⟩
  · rw [swp_ky hp hj', swp_ky hp hj']
    have h1 := h.1 i hi hi2
    have h2 := h.2 i hi hi2
    by_cases e1 : i = j
    · subst e1
      rw [if_neg (by omega), if_pos rfl, if_pos rfl]; omega
    · have h1 := h1 e1
      rw [if_neg e1, if_neg hne]
      by_cases e2 : (i - 1) / 2 = j
      · rw [if_pos e2]; exact h2 e2 h0
      · rw [if_neg e2]
        by_cases e3 : (i - 1) / 2 = (j - 1) / 2
        · rw [if_pos e3]; rw [e3] at h1; omega
        · rw [if_neg e3]; exact h1
  · rw [swp_ky hp hj', swp_ky hp hj']
    have h3 := h.1 ((j - 1) / 2) hpo (by omega) (by omega)
    rw [if_neg (by omega), if_neg (by omega)]
    by_cases e1 : i = j
    · rw [if_pos e1]; exact h3
    · have h1 := h.1 i hi hi2 e1
      rw [if_neg e1, if_neg (by omega)]
      rw [hpi] at h1; omega
theorem hpd_end {L : List Vx} {n j : Nat} (h : HpD L n j) (e : ∀ i, 0 < i → i < n → (i - 1) / 2 = j → kyA L j ≤ kyA L i) : HpN L n := by
  intro i h0 hi
  by_cases hij : (i - 1) / 2 = j
  · rw [hij]; exact e i h0 hi hij
  · exact h.1 i h0 hi hij
theorem hpd_step {L : List Vx} {n i j : Nat} (hn : n ≤ L.length) (hj : j < n) (h0 : 0 < j) (hp : (j - 1) / 2 = i) (h : HpD L n i) (hl : kyA L j < kyA L i) (hm : ∀ k, 0 < k → k < n → (k - 1) / 2 = i → kyA L j ≤ kyA L k) : HpD (swpL L i j) n j := by
  have hi' : i < L.length := by omega
  have hj' : j < L.length := by omega
  refine ⟨fun k hk hk2 hne => ?_, fun k hk hk2 hpk hpo => ?_⟩
  · rw [swp_ky hi' hj', swp_ky hi' hj']
    by_cases e1 : k = j
    · subst e1
      rw [if_neg (by omega), if_pos hp, if_pos rfl]; omega
    · rw [if_neg e1, if_neg hne]
      by_cases e2 : (k - 1) / 2 = i
      · rw [if_pos e2, if_neg (by omega)]; exact hm k hk hk2 e2
      · rw [if_neg e2]
        by_cases e3 : k = i
        · rw [if_pos e3]
          subst e3
          exact h.2 j h0 hj hp hk
        · rw [if_neg e3]; exact h.1 k hk hk2 e2
  · rw [swp_ky hi' hj', swp_ky hi' hj']
    rw [if_neg (by omega), if_pos hp, if_neg (by omega), if_neg (by omega)]
    have := h.1 k hk hk2 (by omega)
    rw [hpk] at this
    exact this
theorem hpn_min {L : List Vx} {n : Nat} (h : HpN L n) : ∀ i, i < n → kyA L 0 ≤ kyA L i := by
  intro i
  induction i using Nat.strongRecOn with
  | _ i ih =>
    intro hi
    by_cases h0 : i = 0
    · subst h0; exact Nat.le_refl _
    · have h1 := ih ((i - 1) / 2) (by omega) (by omega)
      have h2 := h i (by omega) hi
      omega
/-- A new one at the end. -/
theorem hpu_push {L : List Vx} {x : Vx} (h : HpN L L.length) : HpU (L ++ [x]) (L.length + 1) L.length := by
  have hk : ∀ i, i < L.length → kyA (L ++ [x]) i = kyA L i := fun i hi => by
    unfold kyA; simp only [List.getD]; rw [List.getElem?_append_left hi]
  refine ⟨fun i h0 hi hne => ?_, fun i h0 hi hp h1 => by omega⟩
  rw [hk i (by omega), hk _ (by omega)]
  exact h i h0 (by omega)
/-- The first and the last one changed: what is before the last one is a heap but for the first. -/
theorem hpd_swap {L : List Vx} {n : Nat} (hn : L.length = n + 1) (h : HpN L (n + 1)) : HpD (swpL L 0 n) n 0 := by
  refine ⟨fun i h0 hi hne => ?_, fun i h0 hi hp h1 => by omega⟩
  rw [swp_ky (by omega) (by omega), swp_ky (by omega) (by omega)]
  rw [if_neg (by omega), if_neg (by omega), if_neg (by omega), if_neg (by omega)]
  exact h i h0 (by omega)
/-- What is left when the last one has gone. -/
theorem hpn_drop {L : List Vx} {n : Nat} (hn : L.length = n + 1) (h : HpN L n) : HpN L.dropLast L.dropLast.length := by
  have hl : L.dropLast.length = n := by rw [List.length_dropLast, hn]; rfl
  have hk : ∀ i, i < n → kyA L.dropLast i = kyA L i := fun i hi => by
    unfold kyA; simp only [List.getD]; rw [List.getElem?_dropLast, if_pos (by omega)]
  rw [hl]
  intro i h0 hi
  rw [hk i hi, hk _ (by omega)]
  exact h i h0 hi
theorem perm_last {L : List Vx} {n : Nat} (hn : L.length = n + 1) : L = L.dropLast ++ [L.getD n vx0] := by
  have hne : L ≠ [] := by intro e; rw [e] at hn; simp at hn
  have h1 := List.dropLast_concat_getLast hne
  rw [List.getLast_eq_getElem] at h1
  have e : L.length - 1 = n := by omega
  rw [getV (by omega)]
  simp only [e] at h1
  exact h1.symm

end Go.Proofs.YtjaacdapibokiabGreatDoor

/- Gathering what a wave orders: which vertices get the wave, and that these are the ones that the document names; plain facts, nothing here is walked. -/
namespace Go.Proofs.YtjaacdapibokiabGreatDoor
open Go.RowKit

/-- A wave is written at a place. -/
def setO (wv : Nat → Nat) (i W : Nat) : Nat → Nat := fun j => if j = i then W else wv j
def plV (v : Vx) : Nat := plN v.r v.a
/-- What has a wave in the first n rounds has its parents there, from the floor on. -/
def ClsO (g : List Vx) (wv : Nat → Nat) (fl n : Int) : Prop := ∀ z ∈ g, z.r ≤ n → 0 < wv (plV z) → fl ≤ z.r - 1 → ∀ p ∈ z.ps, 0 < wv (plN (z.r - 1) p)
/-- What gathering a vertex does to the waves. -/
structure Gth (g : List Vx) (y : Vx) (fl : Int) (W : Nat) (wv wv' : Nat → Nat) : Prop where
  up : ∀ i, 0 < wv i → wv' i = wv i
  it : fl ≤ y.r → 0 < wv' (plV y)
  cls : ClsO g wv' fl y.r
  new : ∀ i, wv' i = wv i ∨ (wv i = 0 ∧ wv' i = W ∧ (i = plV y ∨ i < 1 + y.r.toNat * 7))
  only : ∀ P, ClsP g P → P y → ∀ z ∈ g, wv (plV z) = 0 → 0 < wv' (plV z) → P z ∧ fl ≤ z.r
theorem gth_old {g : List Vx} {y : Vx} {fl : Int} {W : Nat} {wv : Nat → Nat} (h : y.r < fl ∨ 0 < wv (plV y)) (hc : ClsO g wv fl y.r) : Gth g y fl W wv wv :=
  ⟨fun _ _ => rfl, fun h2 => by rcases h with h | h
                                · omega
                                · exact h, hc, fun _ => .inl rfl, fun _ _ _ _ _ h1 h2 => by omega⟩
/-- Behind the first k parents. -/
structure Gtk (g : List Vx) (y : Vx) (fl : Int) (W : Nat) (wv wv' : Nat → Nat) (k : Nat) : Prop where
  up : ∀ i, 0 < wv i → wv' i = wv i
  it : 0 < wv' (plV y)
  ps : ∀ j (h : j < y.ps.length), j < k → fl ≤ y.r - 1 → 0 < wv' (plN (y.r - 1) y.ps[j])
  cls : ClsO g wv' fl (y.r - 1)
  new : ∀ i, wv' i = wv i ∨ (wv i = 0 ∧ wv' i = W ∧ (i = plV y ∨ i < 1 + y.r.toNat * 7))
  only : ∀ P, ClsP g P → P y → ∀ z ∈ g, wv (plV z) = 0 → 0 < wv' (plV z) → P z ∧ fl ≤ z.r
theorem plV_inj {y z : Vx} (hy : inPl y) (hz : inPl z) (e : plV z = plV y) : z.r = y.r ∧ z.a = y.a := by
  unfold inPl at hy hz
  unfold plV at e
  exact plN_inj hz.1 hz.2.2.1 hz.2.2.2 hy.1 hy.2.2.1 hy.2.2.2 e
theorem gtk_start {g : List Vx} {y : Vx} {fl : Int} {W : Nat} {wv : Nat → Nat} (hs : Srt g) (hin : ∀ z ∈ g, inPl z) (hW : 0 < W) (hy : y ∈ g) (hf : fl ≤ y.r) (h0 : wv (plV y) = 0) (hc : ClsO g wv fl y.r) : Gtk g y fl W wv (setO wv (plV y) W) 0 := by
  refine ⟨fun i h => ?_, ?_, fun j _ h => by omega, fun z hz hr hm hfl p hp => ?_, fun i => ?_, fun P hP hPy z hz h1 h2 => ?_⟩
  · unfold setO; rw [if_neg (fun e => by subst e; omega)]
  · unfold setO; rw [if_pos rfl]; exact hW
  · unfold setO at hm ⊢
    rw [if_neg (fun e => by have := (plV_inj (hin y hy) (hin z hz) e).1; omega)] at hm
    split
    · exact hW
    · exact hc z hz (by omega) hm hfl p hp
  · unfold setO
    split
    · rename_i e; subst e; exact .inr ⟨h0, rfl, .inl rfl⟩
    · exact .inl rfl
  · unfold setO at h2
    split at h2
    · rename_i e
      obtain ⟨e1, e2⟩ := plV_inj (hin y hy) (hin z hz) e
      rw [srt_uni hs hz hy e1 e2]
      exact ⟨hPy, hf⟩
    · omega
theorem gtk_step {g : List Vx} {y z : Vx} {fl : Int} {W : Nat} {wv w1 w2 : Nat → Nat} {k : Nat} (hin : ∀ z ∈ g, inPl z) (hy : y ∈ g) (hW : 0 < W) (h : Gtk g y fl W wv w1 k) (hz : z ∈ g) (hk : k < y.ps.length) (hr : z.r = y.r - 1) (ha : z.a = y.ps[k]) (h2 : Gth g z fl W w1 w2) : Gtk g y fl W wv w2 (k + 1) := by
  have iz := hin z hz
  unfold inPl at iz
  have hup : ∀ i, 0 < w1 i → 0 < w2 i := fun i hi => by rw [h2.up i hi]; exact hi
  refine ⟨fun i hi => ?_, hup _ h.it, fun j hj hjk hf => ?_, by rw [← hr]; exact h2.cls, fun i => ?_, fun P hP hPy x hx h0 hm => ?_⟩
  · have e := h.up i hi
    rw [h2.up i (by omega), e]
  · by_cases e : j = k
    · subst e; rw [← hr, ← ha]; exact h2.it (by omega)
    · exact hup _ (h.ps j hj (by omega) hf)
  · rcases h2.new i with h' | ⟨h1, h3, h4⟩
    · rw [h']; exact h.new i
    · rcases h.new i with h5 | ⟨_, h6, _⟩
      · refine .inr ⟨by omega, h3, ?_⟩
        rcases h4 with h4 | h4
        · exact .inr (by rw [h4]; unfold plV plN; omega)
        · exact .inr (by omega)
      · omega
  · have hPz : P z := hP y hy hPy _ (List.getElem_mem hk) z hz hr ha
    by_cases e : w1 (plV x) = 0
    · exact h2.only P hP hPz x hx e hm
    · exact h.only P hP hPy x hx h0 (by omega)
theorem gtk_end {g : List Vx} {y : Vx} {fl : Int} {W : Nat} {wv wv' : Nat → Nat} (hs : Srt g) (hin : ∀ z ∈ g, inPl z) (hy : y ∈ g) (hc : ClsO g wv fl y.r) (h : Gtk g y fl W wv wv' y.ps.length) : Gth g y fl W wv wv' := by
  refine ⟨h.up, fun _ => h.it, fun z hz hr hm hfl p hp => ?_, h.new, h.only⟩
  have iy := hin y hy
  have iz := hin z hz
  by_cases e : z.r ≤ y.r - 1
  · exact h.cls z hz e hm hfl p hp
  · rcases h.new (plV z) with h' | ⟨_, _, h' | h'⟩
    · have h1 := hc z hz hr (by omega) hfl p hp
      rw [h.up _ h1]; exact h1
    · obtain ⟨e1, e2⟩ := plV_inj iy iz h'
      have := srt_uni hs hz hy e1 e2
      subst this
      obtain ⟨j, hj, rfl⟩ := List.mem_iff_getElem.1 hp
      exact h.ps j hj hj hfl
    · unfold inPl at iy iz; unfold plV plN at h'; omega

/-- What waits is just what has the wave. -/
def Wtg (g : List Vx) (W : Nat) (wv : Nat → Nat) (L : List Vx) : Prop := L.Nodup ∧ ∀ z, z ∈ L ↔ z ∈ g ∧ wv (plV z) = W
theorem wtg_push {g : List Vx} {W : Nat} {wv : Nat → Nat} {L L' : List Vx} {y : Vx} (hs : Srt g) (hin : ∀ z ∈ g, inPl z) (hy : y ∈ g) (hW : 0 < W) (h0 : wv (plV y) = 0) (h : Wtg g W wv L) (hp : L'.Perm (L ++ [y])) : Wtg g W (setO wv (plV y) W) L' := by
  have hny : y ∉ L := fun hm => by have := ((h.2 y).1 hm).2; omega
  refine ⟨hp.nodup_iff.2 ?_, fun z => ?_⟩
  · rw [List.nodup_append]
    exact ⟨h.1, by simp, fun a ha b hb e => by rw [List.mem_singleton] at hb; subst hb; subst e; exact hny ha⟩
  · rw [hp.mem_iff, List.mem_append, List.mem_singleton, h.2 z]
    unfold setO
    constructor
    · rintro (⟨h1, h2⟩ | rfl)
      · refine ⟨h1, ?_⟩; split
        · rfl
        · exact h2
      · exact ⟨hy, by rw [if_pos rfl]⟩
    · rintro ⟨h1, h2⟩
      split at h2
      · rename_i e
        obtain ⟨e1, e2⟩ := plV_inj (hin y hy) (hin z h1) e
        exact .inr (srt_uni hs h1 hy e1 e2)
      · exact .inl ⟨h1, h2⟩

/-- The waves are those of the document, for the waves so far. -/
def WvOk (g : List Vx) (ls : List Int) (O : List Nat) (wv : Nat → Nat) : Prop := ∀ k (h : k < g.length), wv (plV g[k]) = owN g ls O k
theorem wv_zero (g : List Vx) (ls : List Int) : WvOk g ls [] fun _ => 0 := fun _ _ => rfl
section
variable {c : List Int} {g : List Vx} {ls : List Int} {O : List Nat} (ok : Good21 c g ls)
include ok
/-- Behind a wave that has been gathered from its leader vertex. -/
theorem wv_step {w : Nat} {wv wv' : Nat → Nat} (hO : ∀ v ∈ O, 1 ≤ v) (hw1 : 1 ≤ w) (h0 : 0 ≤ ldZ g ls w) (h : WvOk g ls O wv) (hg : Gth g (ldV g ls w) (2 * (w : Int) - 7) w wv wv') : WvOk g ls (O ++ [w]) wv' := by
  obtain ⟨hLg, hLr, _⟩ := ldV_at h0
  intro k hk
  rw [ow_snoc hO, ← h k hk]
  by_cases e : wv (plV g[k]) = 0
  · by_cases hh : hitB g ls w k = true
    · rw [if_pos ⟨e, hh⟩]
      have hr := (hit_iff ok h0 hk).1 hh
      have hpos : 0 < wv' (plV g[k]) := by
        have key : ∀ {x z : Vx}, Rch g x z → x ∈ g → x.r ≤ (ldV g ls w).r → 0 < wv' (plV x) → 2 * (w : Int) - 7 ≤ z.r → 0 < wv' (plV z) := by
          intro x z hrch
          induction hrch with
          | refl => intro _ _ h2 _; exact h2
          | step hy hyr hya _ ih =>
            intro hx hxr hm hz
            rename_i hrest
            have hyz := rch_round hrest
            refine ih hy (by omega) ?_ hz
            have := hg.cls _ hx hxr hm (by omega) _ hya
            unfold plV
            rw [hyr]; exact this
        exact key hr.1 hLg (Int.le_refl _) (hg.it (by omega)) hr.2
      rcases hg.new (plV g[k]) with h' | ⟨_, h', _⟩
      · omega
      · exact h'
    · rw [if_neg (fun h2 => hh h2.2)]
      rcases hg.new (plV g[k]) with h' | ⟨_, h', _⟩
      · exact h'
      · exfalso
        obtain ⟨h3, h4⟩ := hg.only (Rch g (ldV g ls w)) (fun y hy hp p hpp z hz hzr hza => hp.snoc hz hzr (by rw [hza]; exact hpp)) (.refl _) g[k] (List.getElem_mem hk) e (by omega)
        exact hh ((hit_iff ok h0 hk).2 ⟨h3, h4⟩)
  · rw [if_neg (fun h2 => e h2.1)]
    exact hg.up _ (by omega)
/-- The next wave's start: what has a wave is closed from its floor on. -/
theorem cls_next {w : Nat} {wv : Nat → Nat} (cO : ∀ v ∈ O, 1 ≤ v ∧ 0 ≤ ldZ g ls v) (hlt : ∀ v ∈ O, v < w) (h : WvOk g ls O wv) (n : Int) : ClsO g wv (2 * (w : Int) - 7) n := by
  intro z hz _ hm hf p hp
  obtain ⟨k, hk, rfl⟩ := List.mem_iff_getElem.1 hz
  obtain ⟨x, hx, exr, exa⟩ := ok.par _ hz p hp
  obtain ⟨j, hj, rfl⟩ := List.mem_iff_getElem.1 hx
  rw [h k hk] at hm
  obtain ⟨h1, h2⟩ := ow_find (g := g) (ls := ls) (O := O) (k := k) (by omega)
  have hv := hlt _ h1
  have hr := (hit_iff ok (cO _ h1).2 hk).1 h2
  have hrj : Rch g (ldV g ls (owN g ls O k)) g[j] := hr.1.snoc (List.getElem_mem hj) exr (by rw [exa]; exact hp)
  have hh := (hit_iff ok (cO _ h1).2 hj).2 ⟨hrj, by omega⟩
  have e : plN (g[k].r - 1) p = plV g[j] := by unfold plV; rw [exr, exa]
  rw [e, h j hj]
  have : owN g ls O j ≠ 0 := by
    intro e0
    unfold owN at e0
    cases hf2 : O.find? fun w => hitB g ls w j with
    | none => have := List.find?_eq_none.1 hf2 _ h1; rw [hh] at this; exact this rfl
    | some v =>
      rw [hf2] at e0
      have := (cO v (List.mem_of_find?_eq_some hf2)).1
      simp at e0; omega
  omega
omit ok in
/-- What has the wave of the last of the waves is what that wave orders. -/
theorem wt_seg {w : Nat} {wv : Nat → Nat} {L : List Vx} (h : WvOk g ls O wv) (hs : Srt g) (hL : Wtg g w wv L) : L.Perm (segV g ls O w) := by
  have hnd : (segV g ls O w).Nodup := by
    refine (seg_srt (ls := ls) (O := O) (w := w) hs).imp fun {a b} hab e => ?_
    subst e; exact srtx_irr hab
  refine (List.perm_ext_iff_of_nodup hL.1 hnd).2 fun z => ?_
  rw [hL.2 z, seg_mem]
  constructor
  · rintro ⟨hz, e⟩
    obtain ⟨k, hk, rfl⟩ := List.mem_iff_getElem.1 hz
    exact ⟨k, hk, rfl, by rw [← h k hk]; exact e⟩
  · rintro ⟨k, hk, rfl, e⟩
    exact ⟨List.getElem_mem hk, by rw [h k hk]; exact e⟩
end
/-- Behind the pops: what came out is in order, and all of it. -/
theorem srt_perm {a b : List Vx} (ha : Srt a) (hb : Srt b) (h : a.Perm b) : a = b := srtx_ext ha hb fun _ => h.mem_iff
/-- One more comes out: the least of those left. -/
structure Pops (M T L : List Vx) : Prop where
  prm : (T ++ L).Perm M
  srt : Srt T
  lt : ∀ t ∈ T, ∀ l ∈ L, befB t l = true
theorem pops_start {M L : List Vx} (h : L.Perm M) : Pops M [] L := ⟨by simpa using h, .nil, fun _ h => by cases h⟩
theorem pops_step {M T L L' : List Vx} {n : Nat} (hin : ∀ y ∈ M, inPl y) (hM : Srt M) (h : Pops M T L) (hn : L.length = n + 1) (hh : HpN L (n + 1)) (hq : (L' ++ [L.getD 0 vx0]).Perm L) : Pops M (T ++ [L.getD 0 vx0]) L' := by

  generalize hx : L.getD 0 vx0 = x at *
  have hmem : ∀ z, z ∈ L ↔ z ∈ L' ∨ z = x := fun z => by rw [← hq.mem_iff]; simp
  have hperm : (T ++ [x] ++ L').Perm M := by
    refine List.Perm.trans ?_ h.prm
    rw [List.append_assoc]
    refine List.Perm.append_left T (List.Perm.trans ?_ hq)
    exact List.perm_append_comm
  have hMi : ∀ z ∈ L, z ∈ M := fun z hz => h.prm.mem_iff.1 (List.mem_append.2 (.inr hz))
  have hxL : x ∈ L := (hmem x).2 (.inr rfl)
  have hnd : (T ++ [x] ++ L').Nodup := hperm.nodup_iff.2 (hM.imp fun {a b} hab e => by subst e; exact srtx_irr hab)
  refine ⟨hperm, ?_, fun t ht l hl => ?_⟩
  · unfold Srt
    rw [List.pairwise_append]
    exact ⟨h.srt, by simp, fun a ha b hb => by rw [List.mem_singleton] at hb; subst hb; exact h.lt a ha _ hxL⟩
  · rcases List.mem_append.1 ht with ht | ht
    · exact h.lt t ht l ((hmem l).2 (.inl hl))
    · rw [List.mem_singleton] at ht
      subst ht
      have hlL : l ∈ L := (hmem l).2 (.inl hl)
      obtain ⟨i, hi, e⟩ := List.mem_iff_getElem.1 hlL
      have hmin := hpn_min hh i (by omega)
      have k1 : kyA L i = kyV l := by unfold kyA; rw [getV hi, e]
      have k0 : kyA L 0 = kyV t := by unfold kyA; rw [hx]
      have ne : t ≠ l := by
        intro e2
        subst e2
        rw [List.append_assoc] at hnd
        have := (List.nodup_append.1 (List.nodup_append.1 hnd).2.1).2.2 t (by simp) t hl
        exact this rfl
      have i1 := hin t (hMi _ hxL)
      have i2 := hin l (hMi _ hlL)
      refine (ky_bef i1 i2).2 ?_
      rcases Nat.lt_or_ge (kyV t) (kyV l) with hlt | hge
      · exact hlt
      · exfalso
        have e3 : kyV l = kyV t := by omega
        obtain ⟨e4, e5⟩ := plV_inj i1 i2 (show plV l = plV t from e3)
        exact ne (srt_uni hM (hMi _ hxL) (hMi _ hlL) e4.symm e5.symm)
theorem pops_end {M T : List Vx} (hM : Srt M) (h : Pops M T []) : T = M := srt_perm h.srt hM (by simpa using h.prm)

end Go.Proofs.YtjaacdapibokiabGreatDoor

/- The order of vertices in memory: its struct, the list of those that are ordered, the waves, the list of those that wait; what stays of it when other memory is made or written; no conditions. -/
namespace Go.Proofs.YtjaacdapibokiabGreatDoor
open Go.RowKit

/-- The block of a vertex. -/
def qV (h : Nat → Value) (y : Vx) : Nat := match h (plV y) with | .pointer (some a) => a.block | _ => 0
theorem qV_of {h : Nat → Value} {y : Vx} {q : Nat} (e : h (plN y.r y.a) = ptrV q) : qV h y = q := by
  unfold qV plV; rw [e]; rfl
section
variable {E : TypeId} {w w' : World} {B : Nat} {v : Value} {qs : List Nat}
theorem OwnP.mono {B' : Nat} (h : OwnP E w B v qs) (hB : B' ≤ B) : OwnP E w B' v qs := by
  refine ⟨h.1, ?_⟩
  rcases h.2 with h0 | ⟨g, cap, cur, rfl, hb, hg, rest⟩
  · exact .inl h0
  · exact .inr ⟨g, cap, cur, rfl, by omega, hg, rest⟩
theorem OwnP.same (h : OwnP E w B v qs) (hb : ∀ g, v.ownBlock = some g → w'.heap[g]? = w.heap[g]?) : OwnP E w' B v qs := by
  refine ⟨h.1, ?_⟩
  rcases h.2 with h0 | ⟨g, cap, cur, rfl, hb', hg, rest⟩
  · exact .inl h0
  · exact .inr ⟨g, cap, cur, rfl, hb', (hb g rfl).trans hg, rest⟩
theorem OwnP.row (h : OwnP E w B v qs) (hx : 0 < qs.length) : ∃ g cap, v = .slice (some ⟨g, 0, none⟩) qs.length cap ∧ B ≤ g ∧ g < w.heap.size ∧ qs.length ≤ cap ∧
    (∀ j (h : j < qs.length), w.cell? ⟨g, j, none⟩ = some (ptrV qs[j])) ∧ ∀ j, w.frozen? ⟨g, j, none⟩ = false := by
  rcases h.2 with ⟨rfl, h0⟩ | ⟨g, cap, cur, rfl, hb, hg, hn, hm, hs, ht⟩
  · omega
  · refine ⟨g, cap, rfl, hb, (Array.getElem?_eq_some_iff.1 hg).1, hn, fun j hj => ?_, fun j => frozen_of_row w g j cur E hg⟩
    have hc := World.ownsRow.cells (w := w) (base := B) (e := E) (size := 1) (v := .slice (some ⟨g, 0, none⟩) qs.length cap) (n := qs.length) (xs := qs.map ptrV) h (g := g) rfl j (ptrV qs[j]) (by simp [hj])
    rwa [addr_add] at hc
theorem OwnP.store {g cap n : Nat} (h : OwnP E w B (.slice (some ⟨g, 0, none⟩) n cap) qs) (hn : n = qs.length) (j q : Nat) :
    OwnP E (w.setCell ⟨g, j, none⟩ (ptrV q)) B (.slice (some ⟨g, 0, none⟩) n cap) (qs.set j q) ∧ w.grownBy (w.setCell ⟨g, j, none⟩ (ptrV q)) (some g) := by
  subst hn
  have := World.ownsRow.stored (w := w) (base := B) (e := E) (size := 1) (g := g) (n := qs.length) (cap := cap) h j (ptrV q)
  refine ⟨?_, this.2⟩
  unfold OwnP
  rw [List.map_set, List.length_set]
  exact this.1
theorem OwnP.pop {g cap n : Nat} (h : OwnP E w B (.slice (some ⟨g, 0, none⟩) (n + 1) cap) qs) (hn : qs.length = n + 1) : OwnP E w B (.slice (some ⟨g, 0, none⟩) n cap) qs.dropLast := by
  have hl : qs.dropLast.length = n := by rw [List.length_dropLast, hn]; rfl
  have hne : qs ≠ [] := by intro e; rw [e] at hn; simp at hn
  unfold OwnP at h ⊢
  rw [hl]
  rw [hn] at h
  have e : qs.map ptrV = qs.dropLast.map ptrV ++ [ptrV (qs.getLast hne)] := by
    rw [← List.map_singleton (f := ptrV), ← List.map_append, List.dropLast_concat_getLast hne]
  rw [e] at h
  exact ownsRow_pop (size := 1) (by rw [List.length_map, hl, Nat.mul_one]) h
end
theorem Below.str {B0 : Nat} {w w' : World} {B : Nat} {t : TypeId} {vs : Array Value} (hb : Below B0 w w') (h : Str w B t vs) (hl : B < B0) : Str w' B t vs := (hb.block B hl).trans h

/-- The cells of an order. -/
def ordF (vs wt : Value) (wv : Nat → Nat) : Nat → Value := fun i => if i = 0 then vs else if i = 218 then wt else .int .i64 (wv i)
def ordA (vs wt : Value) (wv : Nat → Nat) : Array Value := arrP 219 (ordF vs wt wv)
theorem ordA_vs (vs wt : Value) (wv : Nat → Nat) : (ordA vs wt wv)[0]? = some vs := by unfold ordA; rw [arrP_get (by omega)]; rfl
theorem ordA_wt (vs wt : Value) (wv : Nat → Nat) : (ordA vs wt wv)[218]? = some wt := by unfold ordA; rw [arrP_get (by omega)]; rfl
theorem ordA_wv (vs wt : Value) (wv : Nat → Nat) {i : Nat} (h0 : 1 ≤ i) (h1 : i < 218) : (ordA vs wt wv)[i]? = some (.int .i64 (wv i)) := by
  unfold ordA; rw [arrP_get (by omega)]; unfold ordF; rw [if_neg (by omega), if_neg (by omega)]
theorem ordA_setVs (vs wt : Value) (wv : Nat → Nat) (v : Value) : (ordA vs wt wv).setIfInBounds 0 v = ordA v wt wv := by
  unfold ordA; rw [arrP_set]; congr 1; funext i; unfold ordF
  by_cases h : i = 0
  · simp [h]
  · simp [h]
theorem ordA_setWt (vs wt : Value) (wv : Nat → Nat) (v : Value) : (ordA vs wt wv).setIfInBounds 218 v = ordA vs v wv := by
  unfold ordA; rw [arrP_set]; congr 1; funext i; unfold ordF
  by_cases h : i = 218
  · simp [h]
  · simp [h]
theorem ordA_setWv (vs wt : Value) (wv : Nat → Nat) (i W : Nat) (h0 : 1 ≤ i) (h1 : i < 218) : (ordA vs wt wv).setIfInBounds i (.int .i64 (W : Nat)) = ordA vs wt (setO wv i W) := by
  unfold ordA; rw [arrP_set]; congr 1; funext j; unfold ordF setO
  by_cases h : j = i
  · subst h; simp; rw [if_neg (by omega), if_neg (by omega)]
  · simp [h]

/-- All below hi stays, but for block B. -/
structure Bx (hi B : Nat) (w w' : World) : Prop where
  os : w'.os = w.os
  tape : w'.tape = w.tape
  output : w'.output = w.output
  size : w.heap.size ≤ w'.heap.size
  block : ∀ k, k < hi → k ≠ B → w'.heap[k]? = w.heap[k]?
theorem Bx.refl (hi B : Nat) (w : World) : Bx hi B w w := ⟨rfl, rfl, rfl, Nat.le_refl _, fun _ _ _ => rfl⟩
theorem Bx.trans {hi B : Nat} {a b c : World} (h : Bx hi B a b) (k : Bx hi B b c) : Bx hi B a c :=
  ⟨k.os.trans h.os, k.tape.trans h.tape, k.output.trans h.output, Nat.le_trans h.size k.size, fun i hi' hb => (k.block i hi' hb).trans (h.block i hi' hb)⟩
theorem Bx.of {s hi B : Nat} {w w' : World} (h : Below s w w') (hs : hi ≤ s) : Bx hi B w w' := ⟨h.os, h.tape, h.output, h.size, fun k hk _ => h.block k (Nat.lt_of_lt_of_le hk hs)⟩
theorem Bx.drew {hi B : Nat} {a w : World} (h : Bx hi B a w) : Bx hi B a w.drew := ⟨h.os, h.tape, h.output, h.size, h.block⟩
theorem Bx.setCell {hi B : Nat} {a w : World} (h : Bx hi B a w) {p : Addr} (hp : hi ≤ p.block ∨ p.block = B) (u : Value) : Bx hi B a (w.setCell p u) := by
  refine ⟨h.os, h.tape, h.output, by rw [World.size_setCell]; exact h.size, fun k hk hb => ?_⟩
  rw [Below.heap_setCell w p u k (fun e => by subst e; omega)]
  exact h.block k hk hb
theorem Bx.grown {hi B : Nat} {a w w' : World} {row : Option Nat} (h : Bx hi B a w) (hg : w.grownBy w' row) (hz : hi ≤ w.heap.size) (hr : ∀ k, row = some k → hi ≤ k) : Bx hi B a w' :=
  ⟨hg.os.trans h.os, hg.tape.trans h.tape, hg.output.trans h.output, Nat.le_trans h.size hg.size, fun k hk hb => (hg.block k (Nat.lt_of_lt_of_le hk hz) (fun e => by have := hr k e.symm; omega)).trans (h.block k hk hb)⟩
theorem Bx.low {lo hi B : Nat} {w w' : World} (h : Bx hi B w w') (h1 : lo ≤ hi) (h2 : lo ≤ B) : Below lo w w' := ⟨h.os, h.tape, h.output, h.size, fun k hk => h.block k (by omega) (by omega)⟩

/-- An order in memory: T is ordered, wv are the waves, L waits. -/
structure Oq (w : World) (lo hi B : Nat) (h : Nat → Value) (vs wt : Value) (T : List Vx) (wv : Nat → Nat) (L : List Vx) : Prop where
  hB : lo ≤ B
  hl : lo ≤ hi
  hz : hi ≤ w.heap.size
  st : Str w B 61 (ordA vs wt wv)
  ov : OwnP 62 w hi vs (T.map (qV h))
  ow : OwnP 62 w hi wt (L.map (qV h))
  nv : vs.ownBlock ≠ some B
  nw : wt.ownBlock ≠ some B
  ne : ∀ b, vs.ownBlock = some b → wt.ownBlock ≠ some b
section
variable {w w' : World} {lo hi B : Nat} {h : Nat → Value} {vs wt : Value} {T L : List Vx} {wv : Nat → Nat}
theorem Oq.lt (o : Oq w lo hi B h vs wt T wv L) : B < w.heap.size := o.st.lt
theorem Oq.cvs (o : Oq w lo hi B h vs wt T wv L) : w.cell? ⟨B, 0, none⟩ = some vs := o.st.cell 0 (ordA_vs _ _ _)
theorem Oq.cwt (o : Oq w lo hi B h vs wt T wv L) : w.cell? ⟨B, 218, none⟩ = some wt := o.st.cell 218 (ordA_wt _ _ _)
theorem Oq.cwv (o : Oq w lo hi B h vs wt T wv L) {i : Nat} (h0 : 1 ≤ i) (h1 : i < 218) : w.cell? ⟨B, i, none⟩ = some (.int .i64 (wv i)) := o.st.cell i (ordA_wv _ _ _ h0 h1)
theorem Oq.kept (o : Oq w lo hi B h vs wt T wv L) (hg : w.grownBy w' none) : Oq w' lo hi B h vs wt T wv L :=
  ⟨o.hB, o.hl, Nat.le_trans o.hz hg.size, o.st.kept hg (by simp), o.ov.kept hg (by cases hv : vs.ownBlock <;> simp), o.ow.kept hg (by cases hv : wt.ownBlock <;> simp), o.nv, o.nw, o.ne⟩
theorem Oq.below (o : Oq w lo hi B h vs wt T wv L) (hb : Below w.heap.size w w') : Oq w' lo hi B h vs wt T wv L := o.kept (below_grown hb)
theorem Oq.drew (o : Oq w lo hi B h vs wt T wv L) : Oq w.drew lo hi B h vs wt T wv L := o.below (Below.refl _ _).drew
/-- A wave is written. -/
theorem Oq.setWv (o : Oq w lo hi B h vs wt T wv L) (i W : Nat) (h0 : 1 ≤ i) (h1 : i < 218) : Oq (w.setCell ⟨B, i, none⟩ (.int .i64 (W : Nat))) lo hi B h vs wt T (setO wv i W) L := by
  have hg := grownBy_set w B i (.int .i64 (W : Nat))
  refine ⟨o.hB, o.hl, Nat.le_trans o.hz hg.size, ?_, o.ov.kept hg (.inr o.nv), o.ow.kept hg (.inr o.nw), o.nv, o.nw, o.ne⟩
  have := o.st.set i (.int .i64 (W : Nat))
  rwa [ordA_setWv _ _ _ _ _ h0 h1] at this
/-- Two that wait are changed. -/
theorem Oq.swap {g cap n : Nat} (o : Oq w lo hi B h vs (.slice (some ⟨g, 0, none⟩) n cap) T wv L) (hn : n = L.length) (i j : Nat) (_hi' : i < L.length) (_hj : j < L.length) :
    Oq ((w.setCell ⟨g, i, none⟩ (ptrV (qV h (L.getD j vx0)))).setCell ⟨g, j, none⟩ (ptrV (qV h (L.getD i vx0)))) lo hi B h vs (.slice (some ⟨g, 0, none⟩) n cap) T wv (swpL L i j) := by
  have hgB : g ≠ B := fun e => o.nw (by rw [e]; rfl)
  obtain ⟨s1, g1⟩ := o.ow.store (by rw [List.length_map]; exact hn) i (qV h (L.getD j vx0))
  obtain ⟨s2, g2⟩ := s1.store (by rw [List.length_set, List.length_map]; exact hn) j (qV h (L.getD i vx0))
  refine ⟨o.hB, o.hl, Nat.le_trans o.hz (Nat.le_trans g1.size g2.size), (o.st.kept g1 (by simpa using fun e => hgB e.symm)).kept g2 (by simpa using fun e => hgB e.symm), (o.ov.kept g1 ?_).kept g2 ?_, ?_, o.nv, o.nw, o.ne⟩
  · cases hv : vs.ownBlock with
    | none => exact .inl rfl
    | some b => exact .inr fun e => o.ne b hv (by rw [e]; rfl)
  · cases hv : vs.ownBlock with
    | none => exact .inl rfl
    | some b => exact .inr fun e => o.ne b hv (by rw [e]; rfl)
  · unfold swpL
    rw [List.map_set, List.map_set]
    exact s2
/-- The last one that waits is struck. -/
theorem Oq.pop {g cap n : Nat} (o : Oq w lo hi B h vs (.slice (some ⟨g, 0, none⟩) (n + 1) cap) T wv L) (hn : L.length = n + 1) :
    Oq (w.setCell ⟨B, 218, none⟩ (.slice (some ⟨g, 0, none⟩) n cap)) lo hi B h vs (.slice (some ⟨g, 0, none⟩) n cap) T wv L.dropLast := by
  have hg := grownBy_set w B 218 (.slice (some ⟨g, 0, none⟩) n cap)
  have hnw : (Value.slice (some ⟨g, 0, none⟩) n cap).ownBlock ≠ some B := o.nw
  refine ⟨o.hB, o.hl, Nat.le_trans o.hz hg.size, ?_, o.ov.kept hg (.inr o.nv), ?_, o.nv, hnw, o.ne⟩
  · have := o.st.set 218 (.slice (some ⟨g, 0, none⟩) n cap)
    rwa [ordA_setWt] at this
  · have h1 := o.ow.pop (by rw [List.length_map]; exact hn)
    rw [← List.map_dropLast] at h1
    exact h1.kept hg (.inr hnw)
/-- One more waits: behind the append and the store. -/
theorem Oq.pushW {w1 : World} {wt' : Value} {y : Vx} {q : Nat} (o : Oq w lo hi B h vs wt T wv L) (hq : qV h y = q) (h1 : OwnP 62 w1 hi wt' (L.map (qV h) ++ [q])) (hg : w.grownBy w1 wt.ownBlock) (hl : ∀ g, wt'.ownBlock = some g → wt.ownBlock = some g ∨ w.heap.size ≤ g) :
    Oq (w1.setCell ⟨B, 218, none⟩ wt') lo hi B h vs wt' T wv (L ++ [y]) := by
  have hg2 := grownBy_set w1 B 218 wt'
  have hnw : wt'.ownBlock ≠ some B := fun e => by
    rcases hl B e with h | h
    · exact o.nw h
    · have := o.lt; omega
  have hvl : ∀ b, vs.ownBlock = some b → b < w.heap.size := fun b e => (World.ownsRow.lt o.ov b e).2
  refine ⟨o.hB, o.hl, Nat.le_trans o.hz (Nat.le_trans hg.size hg2.size), ?_, (o.ov.kept hg ?_).kept hg2 (.inr o.nv), ?_, o.nv, hnw, fun b e e2 => ?_⟩
  · have := (o.st.kept hg (fun e => o.nw e.symm)).set 218 wt'
    rwa [ordA_setWt] at this
  · cases hv : vs.ownBlock with
    | none => exact .inl rfl
    | some b => exact .inr fun e => o.ne b hv (by rw [← e])
  · rw [List.map_append, List.map_singleton, hq]
    exact h1.kept hg2 (.inr hnw)
  · rcases hl b e2 with h3 | h3
    · exact o.ne b e h3
    · have := hvl b e; omega
/-- One more is ordered: behind the append and the store. -/
theorem Oq.pushV {w1 : World} {vs' : Value} {y : Vx} {q : Nat} (o : Oq w lo hi B h vs wt T wv L) (hq : qV h y = q) (h1 : OwnP 62 w1 hi vs' (T.map (qV h) ++ [q])) (hg : w.grownBy w1 vs.ownBlock) (hl : ∀ g, vs'.ownBlock = some g → vs.ownBlock = some g ∨ w.heap.size ≤ g) :
    Oq (w1.setCell ⟨B, 0, none⟩ vs') lo hi B h vs' wt (T ++ [y]) wv L := by
  have hg2 := grownBy_set w1 B 0 vs'
  have hnv : vs'.ownBlock ≠ some B := fun e => by
    rcases hl B e with h | h
    · exact o.nv h
    · have := o.lt; omega
  have hwl : ∀ b, wt.ownBlock = some b → b < w.heap.size := fun b e => (World.ownsRow.lt o.ow b e).2
  refine ⟨o.hB, o.hl, Nat.le_trans o.hz (Nat.le_trans hg.size hg2.size), ?_, ?_, (o.ow.kept hg ?_).kept hg2 (.inr o.nw), hnv, o.nw, fun b e e2 => ?_⟩
  · have := (o.st.kept hg (fun e => o.nv e.symm)).set 0 vs'
    rwa [ordA_setVs] at this
  · rw [List.map_append, List.map_singleton, hq]
    exact h1.kept hg2 (.inr hnv)
  · cases hw : wt.ownBlock with
    | none => exact .inl rfl
    | some b => exact .inr fun e => o.ne b (by rw [← e]) hw
  · rcases hl b e with h3 | h3
    · exact o.ne b h3 e2
    · have := hwl b e2; omega
end

end Go.Proofs.YtjaacdapibokiabGreatDoor

/- A graph of pointers while an order beside it changes: it stays as it was; its vertices by their blocks. -/
namespace Go.Proofs.YtjaacdapibokiabGreatDoor
open Go.RowKit

theorem Nd.low {w0 w w' : World} {hi G q : Nat} {h : Nat → Value} {y : Vx} (n : Nd w0 w hi G h q y) (hb : Below hi w w') : Nd w0 w' hi G h q y := by
  obtain ⟨pa, pc, pv, qs, s, i, c, o, ob, l, p⟩ := n.ex
  exact ⟨n.lo, n.lt, n.ne, pa, pc, pv, qs, (hb.block _ n.lt).trans s, i, c, o.same fun g e => hb.block g (ob g e).2, ob, l, p⟩
theorem Lk.low {w0 w w' : World} {hi G : Nat} {mv : Value} {h : Nat → Value} {g : List Vx} (l : Lk w0 w hi G mv h g) (hb : Below hi w w') : Lk w0 w' hi G mv h g :=
  ⟨l.lo, l.lt, Nat.le_trans l.le hb.size, (hb.block _ l.lt).trans l.str, l.mem, fun y hy => by
    obtain ⟨q, e, n⟩ := l.has y hy
    exact ⟨q, e, n.low hb⟩, l.non⟩
/-- A vertex's struct, by its block. -/
def Vs (w : World) (hi : Nat) (h : Nat → Value) (y : Vx) : Prop := ∃ pa pc pv, Str w (qV h y) 66 #[.int .i64 y.r, .int .i64 y.a, .slice pa y.ps.length pc, .int .i64 y.d, pv] ∧ qV h y < hi
theorem Lk.vs {w0 w : World} {hi G : Nat} {mv : Value} {h : Nat → Value} {g : List Vx} (l : Lk w0 w hi G mv h g) {y : Vx} (hy : y ∈ g) : Vs w hi h y ∧ h (plN y.r y.a) = ptrV (qV h y) := by
  obtain ⟨q, e, n⟩ := l.has y hy
  have e2 := qV_of e
  obtain ⟨pa, pc, pv, qs, s, _⟩ := n.ex
  exact ⟨⟨pa, pc, pv, by rw [e2]; exact s, by rw [e2]; exact n.lt⟩, by rw [e2]; exact e⟩
theorem Vs.low {w w' : World} {hi : Nat} {h : Nat → Value} {y : Vx} (v : Vs w hi h y) (hb : Below hi w w') : Vs w' hi h y := by
  obtain ⟨pa, pc, pv, s, hl⟩ := v
  exact ⟨pa, pc, pv, (hb.block _ hl).trans s, hl⟩
/-- All the vertices of a list. -/
def VsA (w : World) (hi : Nat) (h : Nat → Value) (g : List Vx) : Prop := ∀ y ∈ g, Vs w hi h y
theorem VsA.low {w w' : World} {hi : Nat} {h : Nat → Value} {g : List Vx} (v : VsA w hi h g) (hb : Below hi w w') : VsA w' hi h g := fun y hy => (v y hy).low hb
theorem Lk.vsA {w0 w : World} {hi G : Nat} {mv : Value} {h : Nat → Value} {g : List Vx} (l : Lk w0 w hi G mv h g) : VsA w hi h g := fun _ hy => (l.vs hy).1

end Go.Proofs.YtjaacdapibokiabGreatDoor

/- A region that draws its order and stores twice: a condition on the world is kept up to the first store; behind it each operation comes up alone. General steps; nothing here speaks of the program. -/
namespace Go.Proofs.YtjaacdapibokiabGreatDoor
open Go.RowKit

section
variable {P : Program} {md : Region.Mode} {ops : Array Oper} {Q : Exit → Act → World → Prop} {S : World → Prop} {m : Nat}
theorem firstP {i : Nat} {oi : Oper} {v : Value} (hi : ops[i]? = some oi) (hsel : ∀ (j : Nat) (o : Oper) cs b, ops[j]? = some o → o.op ≠ .select cs b)
    (hQ : ∀ c a w, Q (.panic c) (a.put oi.dst v) w → Q (.panic c) a w) (him : i ≠ m) (fuel : Nat) :
    ∀ (listed : Array Bool) (a : Act) (w : World), FreeAt md ops oi i listed → i ∈ Region.ready md ops listed → YieldsIf P ops (fun _ => True) oi v a → (listed.getD m true = false → S w) →
      wpAnyL P md ops Q m S fuel (listed.setIfInBounds i true) (a.put oi.dst v) w → wpAnyL P md ops Q m S (fuel + 1) listed a w := by
  induction fuel with
  | zero =>
    intro listed a w _ hr hy hS H
    refine ⟨fun h => absurd hr (by rw [h]; simp), fun j hj => ?_⟩
    rcases Nat.decEq j i with hji | rfl
    · exact absurd (ready_mono hj hji) (by rw [H.1]; simp)
    · exact hy.wpOp hi trivial ⟨fun e => hS (by rwa [getD_set_ne true him] at e), H⟩
  | succ fuel ih =>
    intro listed a w hfree hr hy hS H
    refine ⟨fun h => absurd hr (by rw [h]; simp), fun j hj => ?_⟩
    rcases Nat.decEq j i with hji | rfl
    · obtain ⟨hjun, oj, hoj, hno⟩ := ready_pair hr hj
      refine wpOp_mono (fun a' w' h3 => ?_) (wpOp_putIf hoj (hfree j oj hoj hji hjun hno) (fun cs b => hsel i oi cs b hi) (fun cs b => hsel j oj cs b hoj) hQ hy (H.2 j (ready_mono hj hji)))
      have hS' : (listed.setIfInBounds j true).getD m true = false → S w' := fun e => h3.2.1 (by rw [Array.setIfInBounds_comm _ _ (Ne.symm hji), getD_set_ne true him]; exact e)
      exact ⟨hS', ih _ a' w' (hfree.set hjun) (ready_mono hr (Ne.symm hji)) h3.1 hS' (by rw [Array.setIfInBounds_comm _ _ hji]; exact h3.2.2)⟩
    · exact hy.wpOp hi trivial ⟨fun e => hS (by rwa [getD_set_ne true him] at e), H⟩
end

section
variable {P : Program} {md : Region.Mode} {l : List Oper} {Q : Exit → Act → World → Prop} {S : World → Prop} {oi : Oper} {rest : List Oper} {fuel m : Nat} {listed : Array Bool} {a : Act} {w : World}
/-- Take number i first: it yields v in every world, whether or not the first store has come up. -/
theorem takeP (i : Nat) {v : Value} (hi : l.drop i = oi :: rest) (hs : Region.noSelect l.toArray = true) (hf : Region.free md l.toArray listed i = true) (hr : (Region.ready md l.toArray listed).contains i = true) (him : (i != m) = true)
    (hQ : ∀ c a w, Q (.panic c) (a.put oi.dst v) w → Q (.panic c) a w) (hS : S w) (hw : Region.wanted oi (yielded l.toArray a.tmps) = true)
    (hy : ∀ w, (execOp a.eval oi).run P w = .ok (.value v) w)
    (h : wpAnyL P md l.toArray Q m S fuel (listed.setIfInBounds i true) (a.put oi.dst v) w) : wpAnyL P md l.toArray Q m S (fuel + 1) listed a w :=
  firstP (drop_at hi) (Region.noSelect_spec hs) hQ (by simpa using him) fuel listed a w (Region.free_spec (drop_at hi) hf) (by simpa using hr) (.inl ⟨hw, fun w _ => hy w⟩) (fun _ => hS) h
/-- Number i alone may come up; it is the first store, or the first store has come up: nothing is asked behind it. -/
theorem aloneL (i : Nat) (hi : l.drop i = oi :: rest) (hr : Region.ready md l.toArray listed = [i]) (hm : (listed.setIfInBounds i true).getD m true = true) (hw : Region.wanted oi (yielded l.toArray a.tmps) = true)
    (h : ∀ K' : Act → World → Prop, Shut (∀ a w, wpAnyL P md l.toArray Q m S fuel (listed.setIfInBounds i true) a w → K' a w) → Oper.wp P oi a w K' Q) : wpAnyL P md l.toArray Q m S (fuel + 1) listed a w := by
  refine ⟨fun h0 => absurd (hr ▸ h0) (by simp), fun j hj => ?_⟩
  rw [hr] at hj
  have : j = i := by simpa using hj
  subst this
  exact wpOp_step (drop_at hi) fun K' hK => by rw [if_pos hw]; exact h K' fun a w hW => hK a w ⟨fun e => absurd (hm.symm.trans e) (by simp), hW⟩
/-- Nothing is left. -/
theorem endL (hr : Region.ready md l.toArray listed = []) (h : Q .normal a w) : wpAnyL P md l.toArray Q m S fuel listed a w := by
  cases fuel with
  | zero => exact ⟨hr, h⟩
  | succ f => exact ⟨fun _ => h, by rw [hr]; simp⟩
end

end Go.Proofs.YtjaacdapibokiabGreatDoor

/- The methods of the heap of waiting vertices, each by a walk of its text, and the calls of them through the interface; no conditions but that the list is shorter than 2^40. -/
namespace Go.Proofs.YtjaacdapibokiabGreatDoor
open Go.RowKit

theorem wait_Len (a : Option Addr) (n cap : Nat) (w : World) : Calls Tryz.prog 66 #[.slice a n cap] w fun e w' => e = .returned (.int .i64 n) ∧ w = w' := by
  go_enter Tryz.func66, Tryz.ntmps66
  go_wp2
  go_ret
  exact ⟨rfl, rfl⟩

set_option maxRecDepth 8000 in
set_option maxHeartbeats 1000000 in
theorem wait_Less {w : World} {lo hi B : Nat} {h : Nat → Value} {vs : Value} {T L : List Vx} {wv : Nat → Nat} {a : Option Addr} {n cap : Nat} (o : Oq w lo hi B h vs (.slice a n cap) T wv L) (hv : VsA w lo h L) (i j : Nat) (hn : n = L.length) (hi' : i < L.length) (hj : j < L.length) (hL : L.length ≤ 1099511627776) :
    Calls Tryz.prog 124 #[.slice a n cap, .int .i64 i, .int .i64 j] w fun e w' => e = .returned (.bool (befB (L.getD i vx0) (L.getD j vx0))) ∧ Below w.heap.size w w' := by
  subst hn
  obtain ⟨gb, cap', ep, _, _, _, hcell, _⟩ := o.ow.row (by rw [List.length_map]; omega)
  simp only [Value.slice.injEq, List.length_map, true_and] at ep
  obtain ⟨rfl, rfl⟩ := ep
  have ci := hcell i (by rw [List.length_map]; exact hi')
  have cj := hcell j (by rw [List.length_map]; exact hj)
  rw [List.getElem_map] at ci cj
  obtain ⟨pa, pc, pv, s1, _⟩ := hv L[i] (List.getElem_mem hi')
  obtain ⟨pa', pc', pv', s2, _⟩ := hv L[j] (List.getElem_mem hj)
  rw [getV hi', getV hj]
  generalize hx : L[i] = x at *
  generalize hy : L[j] = y at *
  generalize hq1 : qV h x = q1 at *
  generalize hq2 : qV h y = q2 at *
  unfold ptrV at ci cj
  have hi1 : (i : Int) < (L.length : Int) := by omega
  have hj1 : (j : Int) < (L.length : Int) := by omega
  have c0 := s1.cell 0 (v := .int .i64 x.r) rfl
  have c1 := s1.cell 1 (v := .int .i64 x.a) rfl
  have c2 := s1.cell 2 (v := .slice pa x.ps.length pc) rfl
  have c3 := s1.cell 3 (v := .int .i64 x.d) rfl
  have d0 := s2.cell 0 (v := .int .i64 y.r) rfl
  have d1 := s2.cell 1 (v := .int .i64 y.a) rfl
  have d2 := s2.cell 2 (v := .slice pa' y.ps.length pc') rfl
  have d3 := s2.cell 3 (v := .int .i64 y.d) rfl
  have HB := Lib.hid (fun W => vertex_isBefore x y pa pa' pc pc' W)
  have hgl := World.block_lt_of_cell? _ _ ci
  have hq1l := s1.lt
  have hq2l := s2.lt
  generalize befB x y = bb at *
  obtain ⟨xr, xa, xp, xd⟩ := x
  obtain ⟨yr, ya, yp, yd⟩ := y
  dsimp only at *
  clear o hv hcell s1 s2 hx hy hq1 hq2
  go_enter Tryz.func124, Tryz.ntmps124
  go_wp2_with fail
  refine wp_region_held_drew (S := fun W => Below w.heap.size w W ∧ W.cell? ⟨gb, i, none⟩ = some (.pointer (some ⟨q1, 0, none⟩)) ∧ W.cell? ⟨gb, j, none⟩ = some (.pointer (some ⟨q2, 0, none⟩)) ∧ W.cell? ⟨q1, 0, none⟩ = some (.int .i64 xr) ∧ W.cell? ⟨q1, 1, none⟩ = some (.int .i64 xa) ∧ W.cell? ⟨q1, 2, none⟩ = some (.slice pa xp.length pc) ∧ W.cell? ⟨q1, 3, none⟩ = some (.int .i64 xd) ∧ W.cell? ⟨q2, 0, none⟩ = some (.int .i64 yr) ∧ W.cell? ⟨q2, 1, none⟩ = some (.int .i64 ya) ∧ W.cell? ⟨q2, 2, none⟩ = some (.slice pa' yp.length pc') ∧ W.cell? ⟨q2, 3, none⟩ = some (.int .i64 yd)) (by kernel_rfl) ⟨(Below.refl _ _).drew, ci, cj, c0, c1, c2, c3, d0, d1, d2, d3⟩ (fun hH => ?_)
  refine takeH 0 (v := ?vls1) rfl (by kernel_rfl) (by kernel_rfl) (by kernel_rfl) (fun _ _ _ h => h) hH rfl ?yls1 ?rls1
  case yls1 => intro W hSw; go_simp; try with_reducible rfl
  try simp only [Act.put, List.setIfInBounds_toArray, List.set_cons_zero, List.set_cons_succ]
  refine takeH 1 (v := ?vls2) rfl (by kernel_rfl) (by kernel_rfl) (by kernel_rfl) (fun _ _ _ h => h) hH rfl ?yls2 ?rls2
  case yls2 => intro W hSw; go_simp; try with_reducible rfl
  try simp only [Act.put, List.setIfInBounds_toArray, List.set_cons_zero, List.set_cons_succ]
  refine takeH 2 (v := ?vls3) rfl (by kernel_rfl) (by kernel_rfl) (by kernel_rfl) (fun _ _ _ h => h) hH rfl ?yls3 ?rls3
  case yls3 => intro W hSw; go_simp; try with_reducible rfl
  try simp only [Act.put, List.setIfInBounds_toArray, List.set_cons_zero, List.set_cons_succ]
  refine takeH 3 (v := ?vls4) rfl (by kernel_rfl) (by kernel_rfl) (by kernel_rfl) (fun _ _ _ h => h) hH rfl ?yls4 ?rls4
  case yls4 => intro W hSw; go_simp; try with_reducible rfl
  try simp only [Act.put, List.setIfInBounds_toArray, List.set_cons_zero, List.set_cons_succ]
  refine takeH 4 (v := ?vls5) rfl (by kernel_rfl) (by kernel_rfl) (by kernel_rfl) (fun _ _ _ h => h) hH rfl ?yls5 ?rls5
  case yls5 => intro W hSw; go_simp; try with_reducible rfl
  try simp only [Act.put, List.setIfInBounds_toArray, List.set_cons_zero, List.set_cons_succ]
  refine takeH 5 (v := ?vls6) rfl (by kernel_rfl) (by kernel_rfl) (by kernel_rfl) (fun _ _ _ h => h) hH rfl ?yls6 ?rls6
  case yls6 => intro W hSw; go_simp; try with_reducible rfl
  try simp only [Act.put, List.setIfInBounds_toArray, List.set_cons_zero, List.set_cons_succ]
  refine takeH 6 (v := ?vls7) rfl (by kernel_rfl) (by kernel_rfl) (by kernel_rfl) (fun _ _ _ h => h) hH rfl ?yls7 ?rls7
  case yls7 => intro W hSw; go_simp; try with_reducible rfl
  try simp only [Act.put, List.setIfInBounds_toArray, List.set_cons_zero, List.set_cons_succ]
  refine takeH 7 (v := ?vls8) rfl (by kernel_rfl) (by kernel_rfl) (by kernel_rfl) (fun _ _ _ h => h) hH rfl ?yls8 ?rls8
  case yls8 => intro W hSw; go_simp; try with_reducible rfl
  try simp only [Act.put, List.setIfInBounds_toArray, List.set_cons_zero, List.set_cons_succ]
  refine takeH 8 (v := ?vls9) rfl (by kernel_rfl) (by kernel_rfl) (by kernel_rfl) (fun _ _ _ h => h) hH rfl ?yls9 ?rls9
  case yls9 => intro W hSw; go_simp; try with_reducible rfl
  try simp only [Act.put, List.setIfInBounds_toArray, List.set_cons_zero, List.set_cons_succ]
  refine takeH 9 (v := ?vls10) rfl (by kernel_rfl) (by kernel_rfl) (by kernel_rfl) (fun _ _ _ h => h) hH rfl ?yls10 ?rls10
  case yls10 => intro W hSw; go_simp; try with_reducible rfl
  try simp only [Act.put, List.setIfInBounds_toArray, List.set_cons_zero, List.set_cons_succ]
  refine takeH 10 (v := ?vls11) rfl (by kernel_rfl) (by kernel_rfl) (by kernel_rfl) (fun _ _ _ h => h) hH rfl ?yls11 ?rls11
  case yls11 => intro W hSw; go_simp; try with_reducible rfl
  try simp only [Act.put, List.setIfInBounds_toArray, List.set_cons_zero, List.set_cons_succ]
  refine takeH 11 (v := ?vls12) rfl (by kernel_rfl) (by kernel_rfl) (by kernel_rfl) (fun _ _ _ h => h) hH rfl ?yls12 ?rls12
  case yls12 => intro W hSw; go_simp; try with_reducible rfl
  try simp only [Act.put, List.setIfInBounds_toArray, List.set_cons_zero, List.set_cons_succ]
  refine takeH 12 (v := ?vls13) rfl (by kernel_rfl) (by kernel_rfl) (by kernel_rfl) (fun _ _ _ h => h) hH rfl ?yls13 ?rls13
  case yls13 => intro W hSw; go_simp; try with_reducible rfl
  try simp only [Act.put, List.setIfInBounds_toArray, List.set_cons_zero, List.set_cons_succ]
  refine takeH 13 (v := ?vls14) rfl (by kernel_rfl) (by kernel_rfl) (by kernel_rfl) (fun _ _ _ h => h) hH rfl ?yls14 ?rls14
  case yls14 => intro W hSw; go_simp; try with_reducible rfl
  try simp only [Act.put, List.setIfInBounds_toArray, List.set_cons_zero, List.set_cons_succ]
  refine callH 14 rfl (by kernel_rfl) rfl (fun K hK => ?_)
  go_simp
  go_at_call 76
  refine (HB.out _).mono ?_
  rintro e wz ⟨rfl, hbz⟩
  refine hK.out _ _ ⟨below_step hH.1 hH.1.size hbz, (hbz.cell (p := ⟨gb, i, none⟩) (Nat.lt_of_lt_of_le hgl hH.1.size)).trans hH.2.1, (hbz.cell (p := ⟨gb, j, none⟩) (Nat.lt_of_lt_of_le hgl hH.1.size)).trans hH.2.2.1, (hbz.cell (p := ⟨q1, 0, none⟩) (Nat.lt_of_lt_of_le hq1l hH.1.size)).trans hH.2.2.2.1, (hbz.cell (p := ⟨q1, 1, none⟩) (Nat.lt_of_lt_of_le hq1l hH.1.size)).trans hH.2.2.2.2.1, (hbz.cell (p := ⟨q1, 2, none⟩) (Nat.lt_of_lt_of_le hq1l hH.1.size)).trans hH.2.2.2.2.2.1, (hbz.cell (p := ⟨q1, 3, none⟩) (Nat.lt_of_lt_of_le hq1l hH.1.size)).trans hH.2.2.2.2.2.2.1, (hbz.cell (p := ⟨q2, 0, none⟩) (Nat.lt_of_lt_of_le hq2l hH.1.size)).trans hH.2.2.2.2.2.2.2.1, (hbz.cell (p := ⟨q2, 1, none⟩) (Nat.lt_of_lt_of_le hq2l hH.1.size)).trans hH.2.2.2.2.2.2.2.2.1, (hbz.cell (p := ⟨q2, 2, none⟩) (Nat.lt_of_lt_of_le hq2l hH.1.size)).trans hH.2.2.2.2.2.2.2.2.2.1, (hbz.cell (p := ⟨q2, 3, none⟩) (Nat.lt_of_lt_of_le hq2l hH.1.size)).trans hH.2.2.2.2.2.2.2.2.2.2⟩ (fun hH => ?_)
  clear hK K
  try simp only [Act.put, List.setIfInBounds_toArray, List.set_cons_zero, List.set_cons_succ]
  refine takeH 15 (v := ?vls15) rfl (by kernel_rfl) (by kernel_rfl) (by kernel_rfl) (fun _ _ _ h => h) hH rfl ?yls15 ?rls15
  case yls15 => intro W hSw; go_simp; try with_reducible rfl
  try simp only [Act.put, List.setIfInBounds_toArray, List.set_cons_zero, List.set_cons_succ]
  have Hbz := Lib.hid hH.1
  refine wpAnyH_done (by kernel_rfl) ?_ _
  try simp only [Act.put]
  clear hH
  go_wp2
  go_ret
  exact ⟨rfl, Hbz.out⟩

set_option maxRecDepth 8000 in
set_option maxHeartbeats 1000000 in
theorem wait_Swap {w : World} {lo hi B : Nat} {h : Nat → Value} {vs : Value} {T L : List Vx} {wv : Nat → Nat} {a : Option Addr} {n cap : Nat} (o : Oq w lo hi B h vs (.slice a n cap) T wv L) (i j : Nat) (hn : n = L.length) (hi' : i < L.length) (hj : j < L.length) (hL : L.length ≤ 1099511627776) :
    Calls Tryz.prog 125 #[.slice a n cap, .int .i64 i, .int .i64 j] w fun e w' => e = .returned (.tuple #[]) ∧ Oq w' lo hi B h vs (.slice a n cap) T wv (swpL L i j) ∧ Bx hi B w w' := by
  obtain ⟨gb, cap', ep, hgh, hgl, _, hcell, hfr⟩ := o.ow.row (by rw [List.length_map]; omega)
  simp only [Value.slice.injEq, List.length_map] at ep
  obtain ⟨rfl, rfl, rfl⟩ := ep
  have ci := hcell i (by rw [List.length_map]; exact hi')
  have cj := hcell j (by rw [List.length_map]; exact hj)
  rw [List.getElem_map, ← getV hi'] at ci
  rw [List.getElem_map, ← getV hj] at cj
  have HS := Lib.hid (fun W (hW : W.heap[gb]? = w.heap[gb]?) (o : Oq W lo hi B h vs (.slice (some ⟨gb, 0, none⟩) L.length cap) T wv L) => o.swap rfl i j hi' hj)
  have Ho := Lib.hid o
  generalize qV h (L.getD i vx0) = q1 at *
  generalize qV h (L.getD j vx0) = q2 at *
  unfold ptrV at *
  have hi1 : (i : Int) < (L.length : Int) := by omega
  have hj1 : (j : Int) < (L.length : Int) := by omega
  have hfi := hfr i
  have hfj := hfr j
  have hz2 : ∃ z, (w.setCell ⟨gb, i, none⟩ (.pointer (some ⟨q2, 0, none⟩))).cell? ⟨gb, j, none⟩ = some z := by
    obtain ⟨s1, _⟩ := o.ow.store (by rw [List.length_map]) i q2
    obtain ⟨g', c', e, _, _, _, hc, _⟩ := s1.row (by rw [List.length_set, List.length_map]; omega)
    simp only [Value.slice.injEq, Option.some.injEq, Addr.mk.injEq, and_true] at e
    obtain ⟨rfl, _⟩ := e
    exact ⟨_, hc j (by rw [List.length_set, List.length_map]; exact hj)⟩
  have hf2 : (w.setCell ⟨gb, i, none⟩ (.pointer (some ⟨q2, 0, none⟩))).frozen? ⟨gb, j, none⟩ = false := by
    obtain ⟨s1, _⟩ := o.ow.store (by rw [List.length_map]) i q2
    obtain ⟨g', c', e, _, _, _, _, hf⟩ := s1.row (by rw [List.length_set, List.length_map]; omega)
    simp only [Value.slice.injEq, Option.some.injEq, Addr.mk.injEq, and_true] at e
    obtain ⟨rfl, _⟩ := e
    exact hf j
  obtain ⟨z2, hz2⟩ := hz2
  have Hof := Lib.hid (HS.out w rfl o).drew
  have hB : Bx hi B w ((w.setCell ⟨gb, i, none⟩ (.pointer (some ⟨q2, 0, none⟩))).setCell ⟨gb, j, none⟩ (.pointer (some ⟨q1, 0, none⟩))).drew := (((Bx.refl _ _ _).setCell (.inl hgh) _).setCell (.inl hgh) _).drew
  have HB := Lib.hid hB
  clear o hcell hfr hB HS Ho
  go_enter Tryz.func125, Tryz.ntmps125
  go_wp2_with fail
  refine wp_region_L 13 (fun W => W.cell? ⟨gb, i, none⟩ = some (.pointer (some ⟨q1, 0, none⟩)) ∧ W.cell? ⟨gb, j, none⟩ = some (.pointer (some ⟨q2, 0, none⟩))) (by kernel_rfl) ⟨ci, cj⟩ (fun hH => ?_)
  refine takeP 2 (v := ?vsw1) rfl (by kernel_rfl) (by kernel_rfl) (by kernel_rfl) (by kernel_rfl) (fun _ _ _ h => h) hH rfl ?ysw1 ?rsw1
  case ysw1 => intro W; go_simp; try with_reducible rfl
  try simp only [Act.put, List.setIfInBounds_toArray, List.set_cons_zero, List.set_cons_succ]
  refine takeP 3 (v := ?vsw2) rfl (by kernel_rfl) (by kernel_rfl) (by kernel_rfl) (by kernel_rfl) (fun _ _ _ h => h) hH rfl ?ysw2 ?rsw2
  case ysw2 => intro W; go_simp; try with_reducible rfl
  try simp only [Act.put, List.setIfInBounds_toArray, List.set_cons_zero, List.set_cons_succ]
  refine takeP 8 (v := ?vsw3) rfl (by kernel_rfl) (by kernel_rfl) (by kernel_rfl) (by kernel_rfl) (fun _ _ _ h => h) hH rfl ?ysw3 ?rsw3
  case ysw3 => intro W; go_simp; try with_reducible rfl
  try simp only [Act.put, List.setIfInBounds_toArray, List.set_cons_zero, List.set_cons_succ]
  refine takeP 9 (v := ?vsw4) rfl (by kernel_rfl) (by kernel_rfl) (by kernel_rfl) (by kernel_rfl) (fun _ _ _ h => h) hH rfl ?ysw4 ?rsw4
  case ysw4 => intro W; go_simp; try with_reducible rfl
  try simp only [Act.put, List.setIfInBounds_toArray, List.set_cons_zero, List.set_cons_succ]
  refine takeP 10 (v := ?vsw5) rfl (by kernel_rfl) (by kernel_rfl) (by kernel_rfl) (by kernel_rfl) (fun _ _ _ h => h) hH rfl ?ysw5 ?rsw5
  case ysw5 => intro W; go_simp; try with_reducible rfl
  try simp only [Act.put, List.setIfInBounds_toArray, List.set_cons_zero, List.set_cons_succ]
  refine takeL 0 (v := ?vsw6) rfl (by kernel_rfl) (by kernel_rfl) (by kernel_rfl) (by kernel_rfl) (by kernel_rfl) (fun _ _ _ h => h) hH rfl ?ysw6 ?rsw6
  case ysw6 => intro W hSw; go_simp; try with_reducible rfl
  try simp only [Act.put, List.setIfInBounds_toArray, List.set_cons_zero, List.set_cons_succ]
  refine takeL 1 (v := ?vsw7) rfl (by kernel_rfl) (by kernel_rfl) (by kernel_rfl) (by kernel_rfl) (by kernel_rfl) (fun _ _ _ h => h) hH rfl ?ysw7 ?rsw7
  case ysw7 => intro W hSw; go_simp; try with_reducible rfl
  try simp only [Act.put, List.setIfInBounds_toArray, List.set_cons_zero, List.set_cons_succ]
  refine takeL 4 (v := ?vsw8) rfl (by kernel_rfl) (by kernel_rfl) (by kernel_rfl) (by kernel_rfl) (by kernel_rfl) (fun _ _ _ h => h) hH rfl ?ysw8 ?rsw8
  case ysw8 => intro W hSw; go_simp; try with_reducible rfl
  try simp only [Act.put, List.setIfInBounds_toArray, List.set_cons_zero, List.set_cons_succ]
  refine takeL 5 (v := ?vsw9) rfl (by kernel_rfl) (by kernel_rfl) (by kernel_rfl) (by kernel_rfl) (by kernel_rfl) (fun _ _ _ h => h) hH rfl ?ysw9 ?rsw9
  case ysw9 => intro W hSw; go_simp; try with_reducible rfl
  try simp only [Act.put, List.setIfInBounds_toArray, List.set_cons_zero, List.set_cons_succ]
  refine takeL 6 (v := ?vsw10) rfl (by kernel_rfl) (by kernel_rfl) (by kernel_rfl) (by kernel_rfl) (by kernel_rfl) (fun _ _ _ h => h) hH rfl ?ysw10 ?rsw10
  case ysw10 => intro W hSw; go_simp; try with_reducible rfl
  try simp only [Act.put, List.setIfInBounds_toArray, List.set_cons_zero, List.set_cons_succ]
  refine takeL 7 (v := ?vsw11) rfl (by kernel_rfl) (by kernel_rfl) (by kernel_rfl) (by kernel_rfl) (by kernel_rfl) (fun _ _ _ h => h) hH rfl ?ysw11 ?rsw11
  case ysw11 => intro W hSw; go_simp; try with_reducible rfl
  try simp only [Act.put, List.setIfInBounds_toArray, List.set_cons_zero, List.set_cons_succ]
  refine takeL 11 (v := ?vsw12) rfl (by kernel_rfl) (by kernel_rfl) (by kernel_rfl) (by kernel_rfl) (by kernel_rfl) (fun _ _ _ h => h) hH rfl ?ysw12 ?rsw12
  case ysw12 => intro W hSw; go_simp; try with_reducible rfl
  try simp only [Act.put, List.setIfInBounds_toArray, List.set_cons_zero, List.set_cons_succ]
  have ci' : w.drew.cell? ⟨gb, i, none⟩ = some (.pointer (some ⟨q1, 0, none⟩)) := ci
  have hfi' : w.drew.frozen? ⟨gb, i, none⟩ = false := hfi
  skip
  refine callL 12 rfl (by kernel_rfl) rfl (fun K hK => ?_)
  go_simp
  refine hK.out _ _ hH (fun hH => ?_)
  clear hK K
  try simp only [Act.put, List.setIfInBounds_toArray, List.set_cons_zero, List.set_cons_succ]
  refine aloneL 13 rfl (by kernel_rfl) (by kernel_rfl) rfl (fun K hK => ?_)
  go_simp
  refine hK.out _ _ ?_
  clear hK K
  try simp only [Act.put, List.setIfInBounds_toArray, List.set_cons_zero, List.set_cons_succ]
  refine aloneL 14 rfl (by kernel_rfl) (by kernel_rfl) rfl (fun K hK => ?_)
  go_simp
  refine hK.out _ _ ?_
  clear hK K
  try simp only [Act.put, List.setIfInBounds_toArray, List.set_cons_zero, List.set_cons_succ]
  refine aloneL 15 rfl (by kernel_rfl) (by kernel_rfl) rfl (fun K hK => ?_)
  go_simp
  refine hK.out _ _ ?_
  clear hK K
  try simp only [Act.put, List.setIfInBounds_toArray, List.set_cons_zero, List.set_cons_succ]
  refine endL (by kernel_rfl) ?_
  try simp only [Act.put]
  clear ci cj hfi hfj hz2 hf2
  go_wp2
  go_end0
  exact ⟨rfl, Hof.out, HB.out⟩

end Go.Proofs.YtjaacdapibokiabGreatDoor

/- Adding to the list of waiting vertices and taking the last one from it, by walks of the program's text; condition: the list is shorter than 2^40. -/
namespace Go.Proofs.YtjaacdapibokiabGreatDoor
open Go.RowKit

/-- 'append(s, p)', p a pointer, as an operation of a region. -/
theorem op_pushP {P : Program} {T E : TypeId} (hsl : P.underlying T = some (.slice E)) (hinf : (P.info? E).map (fun i => (i.zero, i.size, i.bytes)) = some (some (.pointer none), 1, 8)) {w : World} {o : Oper} {a : Act} {K : Act → World → Prop} {Q : Exit → Act → World → Prop} (s x : Operand)
    (ho : o.op = .call { callee := .builtin .append, args := #[s, x], argTypes := #[T, T] }) (B : Nat) (v : Value) (qs : List Nat) (q : Nat) (hs : a.eval s = v) (hown : OwnP E w B v qs)
    (hlen : qs.length ≤ 1099511627776) (hx : a.eval x = .slice (some ⟨w.heap.size, 0, none⟩) 1 1) (hB : B ≤ w.heap.size)
    (h : ∀ v' w', OwnP E w' B v' (qs ++ [q]) → w.grownBy w' v.ownBlock → (∀ g, v'.ownBlock = some g → v.ownBlock = some g ∨ w.heap.size ≤ g) → K (a.put o.dst v') w') : Oper.wp P o a (w.alloc (.cells #[.pointer (some ⟨q, 0, none⟩)] E)) K Q := by
  obtain ⟨i, hi, hz, hsz, hby⟩ := info_parts hinf
  obtain ⟨v', w', hrun, h1, h2, _, h4⟩ := run_append_own_at (P := P) (w.alloc (.cells #[.pointer (some ⟨q, 0, none⟩)] E)) B T o.type E i (.pointer none) 1 8 hsl hi hz hsz hby rfl (by decide) v qs.length _ (World.ownsRow.alloc hown _) ⟨w.heap.size, 0, none⟩ 1 1 [ptrV q] rfl
    (cells_ptr w E q) (by intro u hu; simp at hu; subst hu; rfl) (by unfold maxLen; omega) (by omega) (by simp; omega)
  unfold Oper.wp execOp
  simp only [ho, resolve, invoke, builtin, Sem.run_bind, Sem.run_pure, Result.andThen_ok, List.map_toArray, List.map_cons, List.map_nil, hs, hx, hrun]
  refine h v' w' ?_ (grownBy_trans (World.grownBy_alloc _ _ _) h2) fun g e => ?_
  · unfold OwnP; simpa using h1
  · rcases h4 with h4 | h4
    · exact .inl (by rw [← h4]; exact e)
    · rw [h4] at e; cases e; exact .inr (by simp)

theorem wait_assert (v : Value) (w : World) : (Instr.typeAssert (.iface 62 v) 20 62 false).run Tryz.prog w = .ok v w := by kernel_rfl
set_option maxRecDepth 8000 in
set_option maxHeartbeats 1000000 in
theorem wait_Push {w : World} {lo hi B : Nat} {h : Nat → Value} {vs wt : Value} {T L : List Vx} {wv : Nat → Nat} (o : Oq w lo hi B h vs wt T wv L) (y : Vx) (q : Nat) (hq : qV h y = q) (hL : L.length ≤ 1048576) :
    Calls Tryz.prog 129 #[.pointer (some ⟨B, 218, none⟩), .iface 62 (.pointer (some ⟨q, 0, none⟩))] w fun e w' => e = .returned (.tuple #[]) ∧ ∃ wt', Oq w' lo hi B h vs wt' T wv (L ++ [y]) ∧ Bx hi B w w' := by
  have cw := o.drew.cwt
  have hs := wait_assert
  have Hown := Lib.hid o.drew.ow
  have hl : (L.map (qV h)).length ≤ 1099511627776 := by rw [List.length_map]; omega
  have HP := Lib.hid (fun w1 wt' => o.drew.pushW (w1 := w1) (wt' := wt') (y := y) hq)
  have hBl := o.drew.lt
  have Hst := Lib.hid o.drew.st
  have Hnw := Lib.hid o.nw
  have Hlt := Lib.hid (World.ownsRow.lt o.drew.ow)
  have Hb0 := Lib.hid (show Bx hi B w w.drew from (Bx.refl _ _ _).drew)
  have hoz := o.drew.hz
  obtain ⟨aw, cw', rfl, _⟩ := o.ow.slice
  rw [List.length_map] at *
  clear o
  go_enter Tryz.func129, Tryz.ntmps129
  go_wp2_with fail
  refine wp_region_L 9 (fun W => W.cell? ⟨B, 218, none⟩ = some (.slice aw L.length cw')) (by kernel_rfl) cw (fun hH => ?_)
  generalize w.drew = W0 at *
  have hhz : hi ≤ W0.heap.size := hoz
  refine takeL 0 (v := ?vpu1) rfl (by kernel_rfl) (by kernel_rfl) (by kernel_rfl) (by kernel_rfl) (by kernel_rfl) (fun _ _ _ h => h) hH rfl ?ypu1 ?rpu1
  case ypu1 => intro W hSw; go_simp; try with_reducible rfl
  try simp only [Act.put, List.setIfInBounds_toArray, List.set_cons_zero, List.set_cons_succ]
  refine takeL 1 (v := ?vpu2) rfl (by kernel_rfl) (by kernel_rfl) (by kernel_rfl) (by kernel_rfl) (by kernel_rfl) (fun _ _ _ h => h) hH rfl ?ypu2 ?rpu2
  case ypu2 => intro W hSw; go_simp; try with_reducible rfl
  try simp only [Act.put, List.setIfInBounds_toArray, List.set_cons_zero, List.set_cons_succ]
  refine takeL 2 (v := ?vpu3) rfl (by kernel_rfl) (by kernel_rfl) (by kernel_rfl) (by kernel_rfl) (by kernel_rfl) (fun _ _ _ h => h) hH rfl ?ypu3 ?rpu3
  case ypu3 => intro W hSw; go_simp; try with_reducible rfl
  try simp only [Act.put, List.setIfInBounds_toArray, List.set_cons_zero, List.set_cons_succ]
  refine takeL 3 (v := ?vpu4) rfl (by kernel_rfl) (by kernel_rfl) (by kernel_rfl) (by kernel_rfl) (by kernel_rfl) (fun _ _ _ h => h) hH rfl ?ypu4 ?rpu4
  case ypu4 => intro W hSw; go_simp; try with_reducible rfl
  try simp only [Act.put, List.setIfInBounds_toArray, List.set_cons_zero, List.set_cons_succ]
  refine takeL 4 (v := ?vpu5) rfl (by kernel_rfl) (by kernel_rfl) (by kernel_rfl) (by kernel_rfl) (by kernel_rfl) (fun _ _ _ h => h) hH rfl ?ypu5 ?rpu5
  case ypu5 => intro W hSw; go_simp; try with_reducible rfl
  try simp only [Act.put, List.setIfInBounds_toArray, List.set_cons_zero, List.set_cons_succ]
  refine takeL 5 (v := ?vpu6) rfl (by kernel_rfl) (by kernel_rfl) (by kernel_rfl) (by kernel_rfl) (by kernel_rfl) (fun _ _ _ h => h) hH rfl ?ypu6 ?rpu6
  case ypu6 => intro W hSw; go_simp; try with_reducible rfl
  try simp only [Act.put, List.setIfInBounds_toArray, List.set_cons_zero, List.set_cons_succ]
  refine callL 6 rfl (by kernel_rfl) rfl (fun K hK => ?_)
  go_simp
  have hal : Below W0.heap.size W0 (W0.alloc (.cells #[.pointer (some ⟨q, 0, none⟩)] 62)) := (Below.refl _ _).alloc (Nat.le_refl _) _
  have hc1 := (hal.cell (p := ⟨B, 218, none⟩) hBl).trans cw
  refine hK.out _ _ hc1 (fun hH => ?_)
  clear hK K
  try simp only [Act.put, List.setIfInBounds_toArray, List.set_cons_zero, List.set_cons_succ]
  refine callL 7 rfl (by kernel_rfl) rfl (fun K hK => ?_)
  refine op_pushP Tryz.underlying59 (by kernel_rfl) (.tmp 7) (.tmp 10) rfl hi _ (L.map (qV h)) q rfl Hown.out (by rw [List.length_map]; omega) rfl hhz ?_
  intro v8 w8 hown8 hg8 hloc8
  have s8 := Str.kept Hst.out hg8 (fun e => Hnw.out e.symm)
  have c8 := s8.cell 218 (ordA_wt _ _ _)
  have f8 := s8.frozen 218
  have Hfin := Lib.hid (HP.out w8 v8 hown8 hg8 hloc8)
  have Hb8 := Lib.hid ((Hb0.out.grown hg8 hhz (fun g e => (Hlt.out g e).1)).setCell (p := ⟨B, 218, none⟩) (.inr rfl) v8)
  clear hg8 hloc8 s8
  obtain ⟨a8, n8, rfl, hm8⟩ := hown8.slice
  rw [List.length_append, List.length_map, List.length_singleton] at *
  clear hown8
  refine hK.out _ _ c8 (fun hH => ?_)
  clear hK K
  try simp only [Act.put, List.setIfInBounds_toArray, List.set_cons_zero, List.set_cons_succ]
  refine callL 8 rfl (by kernel_rfl) rfl (fun K hK => ?_)
  go_simp
  refine hK.out _ _ hH (fun hH => ?_)
  clear hK K
  try simp only [Act.put, List.setIfInBounds_toArray, List.set_cons_zero, List.set_cons_succ]
  refine lastL rfl (by kernel_rfl) (by kernel_rfl) (by kernel_rfl) rfl (fun K hK => ?_)
  go_simp
  refine hK.out _ _ ?_
  clear hK K
  try simp only [Act.put]
  go_wp2
  go_end0
  exact ⟨rfl, _, Hfin.out, Hb8.out⟩

set_option maxRecDepth 8000 in
set_option maxHeartbeats 1000000 in
theorem wait_Pop {w : World} {lo hi B : Nat} {h : Nat → Value} {vs wt : Value} {T L : List Vx} {wv : Nat → Nat} (o : Oq w lo hi B h vs wt T wv L) {n : Nat} (hn : L.length = n + 1) (hL : L.length ≤ 1048577) :
    Calls Tryz.prog 128 #[.pointer (some ⟨B, 218, none⟩)] w fun e w' => e = .returned (.iface 62 (.pointer (some ⟨qV h (L.getD n vx0), 0, none⟩))) ∧ ∃ wt', Oq w' lo hi B h vs wt' T wv L.dropLast ∧ Bx hi B w w' := by
  have cw := o.cwt
  obtain ⟨gb, cap, rfl, hgh, hgl, hcp, hcell, _⟩ := o.ow.row (by rw [List.length_map]; omega)
  have hlm : (L.map (qV h)).length = n + 1 := by rw [List.length_map]; exact hn
  have cn := hcell n (by omega)
  rw [List.getElem_map, ← getV (by omega)] at cn
  rw [hlm] at o cw hcp
  have hf := o.st.frozen 218
  have hmk : ∀ x w, (Instr.makeInterface 62 x).run Tryz.prog w = .ok (.iface 62 x) w := fun x w => run_makeInterface w 62 x (by kernel_rfl)
  have Hfin := Lib.hid (o.pop hn)
  have HB := Lib.hid ((Bx.refl hi B w).setCell (p := ⟨B, 218, none⟩) (.inr rfl) (.slice (some ⟨gb, 0, none⟩) n cap))
  generalize qV h (L.getD n vx0) = q at *
  unfold ptrV at cn
  have e1 : IntKind.i64.wrap (((n + 1 : Nat) : Int) - 1) = (n : Int) := by rw [IntWalk.i64_in _ (by omega)]; omega
  have e2 : (n : Int) < ((n + 1 : Nat) : Int) := by omega
  have e3 : (n : Int) ≤ (cap : Int) := by omega
  clear o hcell
  go_enter Tryz.func128, Tryz.ntmps128
  go_wp2
  go_ret
  exact ⟨rfl, _, Hfin.out, HB.out⟩

end Go.Proofs.YtjaacdapibokiabGreatDoor
