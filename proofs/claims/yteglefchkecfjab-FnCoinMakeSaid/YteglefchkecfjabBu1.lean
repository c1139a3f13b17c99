/- Texts that the laws of this folder share, one behind another; no conditions. -/
import Derived.Test.YteglefchkecfjabRows
import Derived.Test.YteglefchkecfjabBu0
import Derived.Deep.QuietTactic
import Derived.BigQuiet
import Derived.Maps.AppendAt

/- Graphs of vertices: what they are as lists, and the reference's tests of vertices and graphs, each by a walk of its text; conditions: lists are shorter than 2^40, and where the text asks it, the committee is valid. -/
namespace Go.Proofs.Yteglefchkecfjab
open Go.RowKit

/-- A vertex: round, author, parents, digest. -/
structure Vx where
  r : Int
  a : Int
  ps : List Int
  d : Int
deriving DecidableEq
def Vx.fd (v : Vx) : List Fd := [.i v.r, .i v.a, .l v.ps, .i v.d]
def vx0 : Vx := ⟨0, 0, [], 0⟩
def quorumZ (c : List Int) : Int := 2 * totalZ c / 3 + 1
def rngB (r : Int) : Bool := decide (0 ≤ r ∧ r ≤ 30)
def autB (n : Nat) (a : Int) : Bool := decide (0 ≤ a ∧ a ≤ (n : Int) - 1)
def quoB (c : List Int) (v : Vx) : Bool := if v.r = 0 then decide (v.ps.length = 0) else decide (quorumZ c ≤ weightZ c v.ps)
/-- The vertex is valid for a committee that is valid. -/
def vtxB (c : List Int) (v : Vx) : Bool := rngB v.r && (autB c.length v.a && (membersB c.length v.ps && (digB v.d && quoB c v)))
def sameRA (r a : Int) (v : Vx) : Bool := decide (v.r = r ∧ v.a = a)
/-- The index of the vertex with this round and author, or -1. -/
def findZ (g : List Vx) (r a : Int) : Int := match g.findIdx? (sameRA r a) with | some k => k | none => -1
def hasP (g : List Vx) (r : Int) (ps : List Int) (k : Nat) : Bool := decide (0 ≤ findZ g (r - 1) (ps.getD k 0))
def parB (g : List Vx) (v : Vx) : Bool := allB (hasP g v.r v.ps) v.ps.length
def befB (a b : Vx) : Bool := decide (a.r < b.r ∨ a.r = b.r ∧ a.a < b.a)
def okV (c : List Int) (g : List Vx) (i : Nat) : Bool := vtxB c (g.getD i vx0) && ((i == 0 || befB (g.getD (i - 1) vx0) (g.getD i vx0)) && parB g (g.getD i vx0))
def graphB (c : List Int) (g : List Vx) : Bool := validB c && allB (okV c g) g.length

theorem getV {g : List Vx} {k : Nat} (h : k < g.length) : g.getD k vx0 = g[k] := by simp [List.getD, List.getElem?_eq_getElem h]
theorem findZ_yes {g : List Vx} {r a : Int} {k : Nat} (hk : k < g.length) (h : Upto (fun j => !sameRA r a (g.getD j vx0)) k) (hs : sameRA r a g[k] = true) : findZ g r a = k := by
  unfold findZ
  rw [List.findIdx?_eq_some_iff_getElem.2 ⟨hk, hs, fun j hj => by
    have := h j hj
    simp only [getV (show j < g.length by omega)] at this
    simpa using this⟩]
theorem findZ_no {g : List Vx} {r a : Int} {n : Nat} (h : Upto (fun j => !sameRA r a (g.getD j vx0)) n) (hn : g.length ≤ n) : findZ g r a = -1 := by
  unfold findZ
  rw [List.findIdx?_eq_none_iff.2 fun v hv => by
    obtain ⟨k, hk, rfl⟩ := List.mem_iff_getElem.1 hv
    have := h k (by omega)
    simp only [getV hk] at this
    simpa using this]
theorem findZ_cases (g : List Vx) (r a : Int) : (findZ g r a = -1 ∧ ∀ v ∈ g, sameRA r a v = false) ∨ ∃ k, ∃ h : k < g.length, findZ g r a = k ∧ sameRA r a g[k] = true ∧ ∀ j (hj : j < k), sameRA r a (g[j]'(by omega)) = false := by
  unfold findZ
  cases h : g.findIdx? (sameRA r a) with
  | none => exact .inl ⟨rfl, fun v hv => by simpa using List.findIdx?_eq_none_iff.1 h v hv⟩
  | some k =>
    obtain ⟨hk, hs, hb⟩ := List.findIdx?_eq_some_iff_getElem.1 h
    exact .inr ⟨k, hk, rfl, hs, fun j hj => by simpa using hb j hj⟩

/-- A graph in memory. -/
def Gr (w : World) (g : List Vx) (v : Value) (fp : List Nat) : Prop := Rd w (rowsD (g.map Vx.fd)) v fp
theorem Gr.under {w w' : World} {g : List Vx} {v : Value} {fp : List Nat} (h : Gr w g v fp) (hb : Below w.heap.size w w') : Gr w' g v fp := Rd.under h hb
theorem Gr.slice {w : World} {g : List Vx} {v : Value} {fp : List Nat} (h : Gr w g v fp) : ∃ a cap, v = .slice a g.length cap := by
  obtain ⟨a, cap, rfl⟩ := Rd.slice h
  exact ⟨a, cap, by simp⟩
theorem Gr.at {w : World} {g : List Vx} {a : Option Addr} {n cap : Nat} {fp : List Nat} (h : Gr w g (.slice a n cap) fp) (hne : 0 < g.length) : ∃ b off, a = some ⟨b, off, none⟩ ∧ b < w.heap.size ∧ ∀ k (hk : k < g.length),
    w.cell? ⟨b, off + k * 4, none⟩ = some (.int .i64 g[k].r) ∧ w.cell? ⟨b, off + k * 4 + 1, none⟩ = some (.int .i64 g[k].a) ∧ (∃ pa pc, w.cell? ⟨b, off + k * 4 + 2, none⟩ = some (.slice pa g[k].ps.length pc) ∧ IntsAt w pa g[k].ps ∧ SrcAt w pa pc g[k].ps) ∧ w.cell? ⟨b, off + k * 4 + 3, none⟩ = some (.int .i64 g[k].d) := by
  obtain ⟨b, off, rfl, hb, hc⟩ := rows_at (es := g.map Vx.fd) (m := 4) h (by simpa using hne) (fun e he => by obtain ⟨x, _, rfl⟩ := List.mem_map.1 he; rfl)
  refine ⟨b, off, rfl, hb, fun k hk => ?_⟩
  have hk' : k < (g.map Vx.fd).length := by simpa using hk
  have he : (g.map Vx.fd)[k] = g[k].fd := by simp
  obtain ⟨c0, _, h0, r0⟩ := hc k hk' 0 (by rw [he]; simp [Vx.fd])
  obtain ⟨c1, _, h1, r1⟩ := hc k hk' 1 (by rw [he]; simp [Vx.fd])
  obtain ⟨c2, _, h2, r2⟩ := hc k hk' 2 (by rw [he]; simp [Vx.fd])
  obtain ⟨c3, _, h3, r3⟩ := hc k hk' 3 (by rw [he]; simp [Vx.fd])
  obtain rfl := rd_i r0 (x := g[k].r) (by simp only [he]; rfl)
  obtain rfl := rd_i r1 (x := g[k].a) (by simp only [he]; rfl)
  obtain ⟨pa, pc, rfl, hi, hs⟩ := rd_ls r2 (xs := g[k].ps) (by simp only [he]; rfl)
  obtain rfl := rd_i r3 (x := g[k].d) (by simp only [he]; rfl)
  exact ⟨h0, h1, ⟨pa, pc, h2, hi, hs⟩, h3⟩

set_option maxHeartbeats 1000000 in
theorem spec_l11Vertex (ac : Option Addr) (capc : Nat) (c : List Int) (r a d : Int) (pa : Option Addr) (pc : Nat) (ps : List Int) (w : World) (hv : validB c = true) (hbig : ps.length ≤ 1099511627776) (hc : IntsAt w ac c) (hp : IntsAt w pa ps) :
    Calls Try.prog 55 #[.slice ac c.length capc, .agg #[.int .i64 r, .int .i64 a, .slice pa ps.length pc, .int .i64 d]] w fun e w' => e = .returned (.bool (vtxB c ⟨r, a, ps, d⟩)) ∧ Below w.heap.size w w' := by
  obtain ⟨hn1, hn7⟩ := validB_len hv
  have hb0 : Below w.heap.size w (w.alloc (.cells #[.int .i64 r, .int .i64 a, .slice pa ps.length pc, .int .i64 d] 30)) := (Below.refl _ _).alloc (Nat.le_refl _) _
  have s0 := Str.new w 30 #[.int .i64 r, .int .i64 a, .slice pa ps.length pc, .int .i64 d]
  have hc0 := hc.below hb0
  have hp0 := hp.below hb0
  have k0 := s0.cell 0 (v := .int .i64 r) rfl
  have k1 := s0.cell 1 (v := .int .i64 a) rfl
  have k2 := s0.cell 2 (v := .slice pa ps.length pc) rfl
  have k3 := s0.cell 3 (v := .int .i64 d) rfl
  have H1 := Lib.hid (fun W => spec_l6In r 0 30 W)
  have H2 := Lib.hid (fun W => spec_l6In a 0 ((c.length : Int) - 1) W)
  have H3 := Lib.hid (fun W (h : IntsAt W pa ps) => spec_l1Members ac capc c.length pa pc ps W (by omega) hbig h)
  have H4 := Lib.hid (fun W => spec_l2Digest d W)
  have H5 := Lib.hid (fun W (hm : membersB c.length ps = true) (h : IntsAt W ac c) (h' : IntsAt W pa ps) => spec_l1Weight ac capc c pa pc ps W hv hm hbig h h')
  have H6 := Lib.hid (fun W (h : IntsAt W ac c) => spec_l1Quorum ac capc c W hv h)
  have hw1 : IntKind.i64.wrap ((c.length : Int) - 1) = c.length - 1 := IntWalk.i64_in _ (by omega)
  have HC := Lib.hid hc0; have HP := Lib.hid hp0; have Hb0 := Lib.hid hb0
  clear hc0 hp0 hb0 s0 hc hp
  have Hres := Lib.hid (show vtxB c ⟨r, a, ps, d⟩ = (rngB r && (autB c.length a && (membersB c.length ps && (digB d && quoB c ⟨r, a, ps, d⟩)))) from rfl)
  go_enter Try.func55, Try.ntmps55
  go_wp2_with fail
  generalize w.alloc (.cells #[.int .i64 r, .int .i64 a, .slice pa ps.length pc, .int .i64 d] 30) = W0 at *
  refine (H1.out W0).mono ?_
  rintro e w1 ⟨rfl, rfl⟩
  rw [show decide (0 ≤ r ∧ r ≤ 30) = rngB r from rfl]
  cases h1 : rngB r with
  | false =>
    go_wp2
    go_ret
    exact ⟨ret_bool (by rw [Hres.out, h1]; rfl), Hb0.out⟩
  | true =>
  go_wp2_with fail
  refine (H2.out W0).mono ?_
  rintro e w1 ⟨rfl, rfl⟩
  rw [show decide (0 ≤ a ∧ a ≤ (c.length : Int) - 1) = autB c.length a from rfl]
  cases h2 : autB c.length a with
  | false =>
    go_wp2
    go_ret
    exact ⟨ret_bool (by rw [Hres.out, h1, h2]; rfl), Hb0.out⟩
  | true =>
  go_wp2_with fail
  refine (H3.out W0 HP.out).mono ?_
  rintro e w1 ⟨rfl, hd1⟩
  have Hb1 := Lib.hid (below_step Hb0.out Hb0.out.size (hd1.below W0.heap.size))
  have HC1 := Lib.hid (HC.out.below (hd1.below W0.heap.size))
  have HP1 := Lib.hid (HP.out.below (hd1.below W0.heap.size))
  have k0 := (hd1.cell _).trans k0
  have k2 := (hd1.cell _).trans k2
  have k3 := (hd1.cell _).trans k3
  clear hd1
  cases h3 : membersB c.length ps with
  | false =>
    go_wp2
    go_ret
    exact ⟨ret_bool (by rw [Hres.out, h1, h2, h3]; rfl), Hb1.out⟩
  | true =>
  go_wp2_with fail
  refine (H4.out w1).mono ?_
  rintro e w2 ⟨rfl, rfl⟩
  cases h4 : digB d with
  | false =>
    go_wp2
    go_ret
    exact ⟨ret_bool (by rw [Hres.out, h1, h2, h3, h4]; rfl), Hb1.out⟩
  | true =>
  have hres : vtxB c ⟨r, a, ps, d⟩ = quoB c ⟨r, a, ps, d⟩ := by rw [Hres.out, h1, h2, h3, h4]; rfl
  have Hr := Lib.hid hres; clear hres
  by_cases hr0 : r = 0
  · have hq : quoB c ⟨r, a, ps, d⟩ = decide (ps.length = 0) := if_pos hr0
    have Hq := Lib.hid hq; clear hq
    subst hr0
    go_wp2
    go_ret
    exact ⟨ret_bool (by rw [Hr.out, Hq.out, Bool.eq_iff_iff, beq_iff_eq, decide_eq_true_iff]; omega), Hb1.out⟩
  · have hq : quoB c ⟨r, a, ps, d⟩ = decide (quorumZ c ≤ weightZ c ps) := if_neg hr0
    have Hq := Lib.hid hq; clear hq
    have hr0' : (r == 0) = false := by simpa using hr0
    go_wp2_with fail
    refine (H5.out w1 h3 HC1.out HP1.out).mono ?_
    rintro e w2 ⟨rfl, rfl⟩
    go_wp2_with fail
    refine (H6.out w1 HC1.out).mono ?_
    rintro e w2 ⟨rfl, rfl⟩
    go_wp2
    go_ret
    exact ⟨ret_bool (by rw [Hr.out, Hq.out]; rfl), Hb1.out⟩

theorem spec_l11Find (g : List Vx) (v : Value) (fp : List Nat) (r a : Int) (w : World) (hbig : g.length ≤ 1099511627776) (hr : Gr w g v fp) :
    Calls Try.prog 109 #[v, .int .i64 r, .int .i64 a] w fun e w' => e = .returned (.int .i64 (findZ g r a)) ∧ w = w' := by
  obtain ⟨va, vc, rfl⟩ := hr.slice
  have Hr := Lib.hid hr; clear hr
  go_enter Try.func109, Try.ntmps109
  go_wp2
  go_loopw [7] (fun i wr => ∃ k : Nat, k ≤ g.length ∧ i = .int .i64 k ∧ Upto (fun j => !sameRA r a (g.getD j vx0)) k ∧ w = wr) (fun i _ => g.length - (intOf i).toNat)
  case atStart => exact ⟨0, by omega, rfl, upto_zero _, rfl⟩
  case round =>
    obtain ⟨k, hk, rfl, hup, rfl⟩ := hrel
    by_cases hlt : k < g.length
    · obtain ⟨b, off, rfl, hb, hat⟩ := Hr.out.at (by omega)
      obtain ⟨c0, c1, _, _⟩ := hat k hlt
      clear hat
      have hgk := getV hlt
      by_cases hs : sameRA r a g[k] = true
      · have hz := findZ_yes hlt hup hs
        unfold sameRA at hs
        obtain ⟨hs1, hs2⟩ := of_decide_eq_true hs
        have Hz := Lib.hid hz; clear hz hs
        have e1 : (g[k].r == r) = true := by simpa using hs1
        have e2 : (g[k].a == a) = true := by simpa using hs2
        clear hs1 hs2
        go_wp2
        go_ret
        exact ⟨by rw [Hz.out]; rfl, rfl⟩
      · have hup' := upto_step hup (k := k) (by simp only [hgk]; simpa using hs)
        have Hup := Lib.hid hup'; clear hup'
        by_cases hs1 : g[k].r = r
        · have hs2 : ¬ g[k].a = a := fun e => hs (decide_eq_true ⟨hs1, e⟩)
          have e2 : (g[k].a == a) = false := by simpa using hs2
          have e1 : (g[k].r == r) = true := by simpa using hs1
          go_wp2
          go_roundw
          case rel => exact ⟨k + 1, by omega, by go_num, Hup.out, trivial⟩
          case measure => simp [intOf]; omega
        · have e1 : (g[k].r == r) = false := by simpa using hs1
          go_wp2
          go_roundw
          case rel => exact ⟨k + 1, by omega, by go_num, Hup.out, trivial⟩
          case measure => simp [intOf]; omega
    · have hz := findZ_no hup (by omega)
      go_wp2
      go_ret
      exact ⟨by rw [hz]; rfl, rfl⟩

end Go.Proofs.Yteglefchkecfjab

/- The reference's tests of graphs, each by a walk of its text; conditions: lists are shorter than 2^40, and where the text asks it, the committee is valid. -/
namespace Go.Proofs.Yteglefchkecfjab
open Go.RowKit

set_option maxHeartbeats 1000000 in
theorem spec_l11Parents (g : List Vx) (v : Value) (fp : List Nat) (r a d : Int) (pa : Option Addr) (pc : Nat) (ps : List Int) (w : World) (hbig : g.length ≤ 1099511627776) (hbp : ps.length ≤ 1099511627776) (hr0 : 0 ≤ r) (hr1 : r ≤ 1099511627776) (hg : Gr w g v fp) (hp : IntsAt w pa ps) :
    Calls Try.prog 57 #[v, .agg #[.int .i64 r, .int .i64 a, .slice pa ps.length pc, .int .i64 d]] w fun e w' => e = .returned (.bool (parB g ⟨r, a, ps, d⟩)) ∧ Below w.heap.size w w' := by
  have hb0 : Below w.heap.size w (w.alloc (.cells #[.int .i64 r, .int .i64 a, .slice pa ps.length pc, .int .i64 d] 30)) := (Below.refl _ _).alloc (Nat.le_refl _) _
  have s0 := Str.new w 30 #[.int .i64 r, .int .i64 a, .slice pa ps.length pc, .int .i64 d]
  have hsz0 : (w.alloc (.cells #[.int .i64 r, .int .i64 a, .slice pa ps.length pc, .int .i64 d] 30)).heap.size = w.heap.size + 1 := by simp
  have Hg := Lib.hid (hg.under hb0); clear hg
  have Hp := Lib.hid (hp.below hb0); clear hp
  have Hb0 := Lib.hid hb0; clear hb0
  have Hs0 := Lib.hid s0; clear s0
  have hw1 : IntKind.i64.wrap (r - 1) = r - 1 := IntWalk.i64_in _ (by omega)
  have Hres := Lib.hid (show parB g ⟨r, a, ps, d⟩ = allB (hasP g r ps) ps.length from rfl)
  have HF := Lib.hid (fun W x (h : Gr W g v fp) => spec_l11Find g v fp (r - 1) x W hbig h)
  go_enter Try.func57, Try.ntmps57
  go_wp2
  generalize w.alloc (.cells #[.int .i64 r, .int .i64 a, .slice pa ps.length pc, .int .i64 d] 30) = W0 at *
  go_loopw [5] (fun i wr => ∃ k : Nat, k ≤ ps.length ∧ i = .int .i64 k ∧ Upto (hasP g r ps) k ∧ Below W0.heap.size W0 wr) (fun i _ => ps.length - (intOf i).toNat)
  case atStart => exact ⟨0, by omega, rfl, upto_zero _, Below.refl _ _⟩
  case round =>
    obtain ⟨k, hk, rfl, hup, hbel⟩ := hrel
    have s1 := (hbel.block _ Hs0.out.lt).trans Hs0.out
    have c0 := Str.cell s1 0 (v := .int .i64 r) rfl
    have c2 := Str.cell s1 2 (v := .slice pa ps.length pc) rfl
    clear s1
    by_cases hlt : k < ps.length
    · obtain ⟨b, off, rfl, hb, hat⟩ := (Hp.out.below hbel).cell (by omega)
      have e0 := hat k hlt
      have Hg1 := Lib.hid (Hg.out.under hbel)
      have Hbel := Lib.hid hbel; clear hbel hat
      have hgx : ps.getD k 0 = ps[k] := getD_get hlt
      have hstep : hasP g r ps k = decide (0 ≤ findZ g (r - 1) ps[k]) := by unfold hasP; rw [hgx]
      clear hgx
      generalize ps[k] = x at *
      have Hstep := Lib.hid hstep; clear hstep
      have Hup := Lib.hid hup; clear hup
      have hb0 : Below wr.heap.size wr wr.drew := (Below.refl _ _).drew
      go_wp2_with fail
      refine wp_region_held_drew (S := fun w' => Below wr.heap.size wr w' ∧ w'.cell? ⟨w.heap.size, 0, none⟩ = some (.int .i64 r) ∧ w'.cell? ⟨w.heap.size, 2, none⟩ = some (.slice (some ⟨b, off, none⟩) ps.length pc) ∧ w'.cell? ⟨b, off + k, none⟩ = some (.int .i64 x)) (by kernel_rfl) ⟨hb0, c0, c2, e0⟩ (fun hH => ?_)
      refine takeH 0 (v := ?vp1) rfl (by kernel_rfl) (by kernel_rfl) (by kernel_rfl) (fun _ _ _ h => h) hH rfl ?yp1 ?rp1
      case yp1 => intro w hSw; go_simp; try with_reducible rfl
      try simp only [Act.put, List.setIfInBounds_toArray, List.set_cons_zero, List.set_cons_succ]
      refine takeH 1 (v := ?vp2) rfl (by kernel_rfl) (by kernel_rfl) (by kernel_rfl) (fun _ _ _ h => h) hH rfl ?yp2 ?rp2
      case yp2 => intro w hSw; go_simp; try with_reducible rfl
      try simp only [Act.put, List.setIfInBounds_toArray, List.set_cons_zero, List.set_cons_succ]
      refine takeH 2 (v := ?vp3) rfl (by kernel_rfl) (by kernel_rfl) (by kernel_rfl) (fun _ _ _ h => h) hH rfl ?yp3 ?rp3
      case yp3 => intro w hSw; go_simp; try with_reducible rfl
      try simp only [Act.put, List.setIfInBounds_toArray, List.set_cons_zero, List.set_cons_succ]
      refine takeH 3 (v := ?vp4) rfl (by kernel_rfl) (by kernel_rfl) (by kernel_rfl) (fun _ _ _ h => h) hH rfl ?yp4 ?rp4
      case yp4 => intro w hSw; go_simp; try with_reducible rfl
      try simp only [Act.put, List.setIfInBounds_toArray, List.set_cons_zero, List.set_cons_succ]
      refine takeH 4 (v := ?vp5) rfl (by kernel_rfl) (by kernel_rfl) (by kernel_rfl) (fun _ _ _ h => h) hH rfl ?yp5 ?rp5
      case yp5 => intro w hSw; go_simp; try with_reducible rfl
      try simp only [Act.put, List.setIfInBounds_toArray, List.set_cons_zero, List.set_cons_succ]
      refine takeH 5 (v := ?vp6) rfl (by kernel_rfl) (by kernel_rfl) (by kernel_rfl) (fun _ _ _ h => h) hH rfl ?yp6 ?rp6
      case yp6 => intro w hSw; go_simp; try with_reducible rfl
      try simp only [Act.put, List.setIfInBounds_toArray, List.set_cons_zero, List.set_cons_succ]
      refine takeH 6 (v := ?vp7) rfl (by kernel_rfl) (by kernel_rfl) (by kernel_rfl) (fun _ _ _ h => h) hH rfl ?yp7 ?rp7
      case yp7 => intro w hSw; go_simp; try with_reducible rfl
      try simp only [Act.put, List.setIfInBounds_toArray, List.set_cons_zero, List.set_cons_succ]
      refine takeH 7 (v := ?vp8) rfl (by kernel_rfl) (by kernel_rfl) (by kernel_rfl) (fun _ _ _ h => h) hH rfl ?yp8 ?rp8
      case yp8 => intro w hSw; go_simp; try with_reducible rfl
      try simp only [Act.put, List.setIfInBounds_toArray, List.set_cons_zero, List.set_cons_succ]
      refine takeH 8 (v := ?vp9) rfl (by kernel_rfl) (by kernel_rfl) (by kernel_rfl) (fun _ _ _ h => h) hH rfl ?yp9 ?rp9
      case yp9 => intro w hSw; go_simp; try with_reducible rfl
      try simp only [Act.put, List.setIfInBounds_toArray, List.set_cons_zero, List.set_cons_succ]
      refine callH 9 rfl (by kernel_rfl) rfl (fun K hK => ?_)
      go_simp
      go_at_call 109
      refine (HF.out _ x (Hg1.out.under hH.1)).mono ?_
      rintro e wx ⟨rfl, rfl⟩
      refine hK.out _ _ hH (fun hH => ?_)
      clear hK K
      try simp only [Act.put, List.setIfInBounds_toArray, List.set_cons_zero, List.set_cons_succ]
      refine takeH 10 (v := ?vp11) rfl (by kernel_rfl) (by kernel_rfl) (by kernel_rfl) (fun _ _ _ h => h) hH rfl ?yp11 ?rp11
      case yp11 => intro w hSw; go_simp; try with_reducible rfl
      try simp only [Act.put, List.setIfInBounds_toArray, List.set_cons_zero, List.set_cons_succ]
      refine wpAnyH_done (by kernel_rfl) ?_ _
      obtain ⟨hbw, _⟩ := hH
      clear c0 c2 e0 hb0
      cases hq : hasP g r ps k with
      | true =>
        have hn : ¬ findZ g (r - 1) x < 0 := by
          rw [Hstep.out] at hq; have := of_decide_eq_true hq; omega
        go_wp2
        go_roundw
        case rel => exact ⟨k + 1, by omega, by go_num, upto_step Hup.out hq, below_step Hbel.out Hbel.out.size hbw⟩
        case measure => simp [intOf]; omega
      | false =>
        have hn : findZ g (r - 1) x < 0 := by
          rw [Hstep.out] at hq; have := of_decide_eq_false hq; omega
        have hz := allB_no hlt hq
        go_wp2
        go_ret
        exact ⟨ret_bool (by rw [Hres.out, hz]), (Hb0.out.trans ((below_step Hbel.out Hbel.out.size hbw).mono (by omega)))⟩
    · have hz := allB_yes hup (n := ps.length) (by omega)
      have Hbel := Lib.hid hbel; clear hbel
      go_wp2
      go_ret
      exact ⟨ret_bool (by rw [Hres.out, hz]), (Hb0.out.trans (Hbel.out.mono (by omega)))⟩

theorem spec_l11Before (x y : Vx) (pa pa' : Option Addr) (pc pc' : Nat) (w : World) :
    Calls Try.prog 56 #[.agg #[.int .i64 x.r, .int .i64 x.a, .slice pa x.ps.length pc, .int .i64 x.d], .agg #[.int .i64 y.r, .int .i64 y.a, .slice pa' y.ps.length pc', .int .i64 y.d]] w fun e w' => e = .returned (.bool (befB x y)) ∧ Below w.heap.size w w' := by
  have hb : Below w.heap.size w ((w.alloc (.cells #[.int .i64 x.r, .int .i64 x.a, .slice pa x.ps.length pc, .int .i64 x.d] 30)).alloc (.cells #[.int .i64 y.r, .int .i64 y.a, .slice pa' y.ps.length pc', .int .i64 y.d] 30)) := ((Below.refl _ w).alloc (Nat.le_refl _) _).alloc (by simp) _
  by_cases h1 : x.r < y.r
  · have hz : befB x y = true := decide_eq_true (.inl h1)
    go_enter Try.func56, Try.ntmps56
    go_wp2
    go_ret
    exact ⟨by first | rfl | exact ret_bool (by first | rfl | rw [hz]), hb⟩
  · have h1' : decide (x.r < y.r) = false := decide_eq_false h1
    by_cases h2 : x.r = y.r
    · have hz : befB x y = decide (x.a < y.a) := by unfold befB; rw [Bool.eq_iff_iff, decide_eq_true_iff, decide_eq_true_iff]; omega
      have h2' : (x.r == y.r) = true := by simpa using h2
      clear h1 h2
      go_enter Try.func56, Try.ntmps56
      go_wp2
      go_ret
      exact ⟨by first | rfl | exact ret_bool (by first | rfl | rw [hz]), hb⟩
    · have hz : befB x y = false := decide_eq_false (by omega)
      have h2' : (x.r == y.r) = false := by simpa using h2
      go_enter Try.func56, Try.ntmps56
      go_wp2
      go_ret
      exact ⟨by first | rfl | exact ret_bool (by first | rfl | rw [hz]), hb⟩

set_option maxHeartbeats 2000000 in
theorem spec_GraphValid (ac : Option Addr) (capc : Nat) (c : List Int) (g : List Vx) (v : Value) (fp : List Nat) (w : World) (hn : c.length ≤ 1099511627776) (hbig : g.length ≤ 1099511627776) (hps : ∀ x ∈ g, x.ps.length ≤ 1099511627776) (hc : IntsAt w ac c) (hg : Gr w g v fp) :
    Calls Try.prog 14 #[.slice ac c.length capc, v] w fun e w' => e = .returned (.bool (graphB c g)) ∧ Below w.heap.size w w' := by
  obtain ⟨va, vc, rfl⟩ := hg.slice
  have Hv := Lib.hid (fun W h => spec_CommitteeValid ac capc c W hn h)
  have Hres := Lib.hid (show graphB c g = (validB c && allB (okV c g) g.length) from rfl)
  have Hg := Lib.hid hg; clear hg
  have Hc := Lib.hid hc; clear hc
  cases hv : validB c with
  | false =>
    rw [hv] at Hv
    go_enter Try.func14, Try.ntmps14
    go_wp2_with fail
    refine (Hv.out w Hc.out).mono ?_
    rintro e w1 ⟨rfl, rfl⟩
    go_wp2
    go_ret
    exact ⟨ret_bool (by rw [Hres.out, hv]; rfl), Below.refl _ _⟩
  | true =>
  rw [hv] at Hv
  have Hres := Lib.hid (show graphB c g = allB (okV c g) g.length by rw [Hres.out, hv]; rfl)
  have HP := Lib.hid hps; clear hps
  go_enter Try.func14, Try.ntmps14
  go_wp2_with fail
  refine (Hv.out w Hc.out).mono ?_
  rintro e w1 ⟨rfl, rfl⟩
  go_wp2
  go_loopw [5] (fun i wr => ∃ k : Nat, k ≤ g.length ∧ i = .int .i64 k ∧ Upto (okV c g) k ∧ Below w.heap.size w wr) (fun i _ => g.length - (intOf i).toNat)
  case atStart => exact ⟨0, by omega, rfl, upto_zero _, Below.refl _ _⟩
  case round =>
    obtain ⟨k, hk, rfl, hup, hbel⟩ := hrel
    by_cases hlt : k < g.length
    · have Hg1 := Lib.hid (Hg.out.under hbel)
      have Hc1 := Lib.hid (Hc.out.below hbel)
      obtain ⟨b, off, rfl, hb, hat⟩ := Hg1.out.at (by omega)
      obtain ⟨c0, c1, ⟨pa, pc, c2, i2, _⟩, c3⟩ := hat k hlt
      have hps := HP.out _ (List.getElem_mem hlt)
      have hgk := getV hlt
      have hok : okV c g k = (vtxB c g[k] && ((k == 0 || befB (g.getD (k - 1) vx0) g[k]) && parB g g[k])) := by unfold okV; rw [hgk]
      have Hat := Lib.hid hat; clear hat
      have Hbel := Lib.hid hbel; clear hbel
      have Hup := Lib.hid hup; clear hup
      have HV := Lib.hid (fun W (h : IntsAt W ac c) (h' : IntsAt W pa g[k].ps) => spec_l11Vertex ac capc c g[k].r g[k].a g[k].d pa pc g[k].ps W hv hps h h')
      have HQ := Lib.hid (fun W (h0 : 0 ≤ g[k].r) (h1 : g[k].r ≤ 1099511627776) (h : Gr W g (.slice (some ⟨b, off, none⟩) g.length vc) fp) (h' : IntsAt W pa g[k].ps) => spec_l11Parents g _ fp g[k].r g[k].a g[k].d pa pc g[k].ps W hbig hps h0 h1 h h')
      have Hb := Lib.hid (fun (x : Vx) (pa' : Option Addr) (pc' : Nat) W => spec_l11Before x g[k] pa' pa pc' pc W)
      have Hi2 := Lib.hid i2; clear i2
      have Hok := Lib.hid hok; clear hok
      have Hk := Lib.hid hgk; clear hgk
      have hb0 : Below wr.heap.size wr wr.drew := (Below.refl _ _).drew
      have Hbs := Lib.hid (fun w' (h : Below wr.heap.size wr w') => Nat.lt_of_lt_of_le hb h.size)
      have Hb1 := Lib.hid hb; clear hb
      generalize hx : g[k] = x at *
      obtain ⟨xr, xa, xp, xd⟩ := x
      dsimp only at *
      have Hx := Lib.hid hx; clear hx hps
      cases h1 : vtxB c ⟨xr, xa, xp, xd⟩ with
      | false =>
        rw [h1] at HV
        go_wp2_with fail
        refine wp_region_held_drew (S := fun w' => Below wr.heap.size wr w' ∧ w'.cell? ⟨b, off + k * 4, none⟩ = some (.int .i64 xr) ∧ w'.cell? ⟨b, off + k * 4 + 1, none⟩ = some (.int .i64 xa) ∧ w'.cell? ⟨b, off + k * 4 + 2, none⟩ = some (.slice pa xp.length pc) ∧ w'.cell? ⟨b, off + k * 4 + 3, none⟩ = some (.int .i64 xd)) (by kernel_rfl) ⟨hb0, c0, c1, c2, c3⟩ (fun hH => ?_)
        refine takeH 0 (v := ?va0) rfl (by kernel_rfl) (by kernel_rfl) (by kernel_rfl) (fun _ _ _ h => h) hH rfl ?ya0 ?ra0
        case ya0 => intro W hSw; go_simp; try with_reducible rfl
        try simp only [Act.put, List.setIfInBounds_toArray, List.set_cons_zero, List.set_cons_succ]
        refine takeH 1 (v := ?va1) rfl (by kernel_rfl) (by kernel_rfl) (by kernel_rfl) (fun _ _ _ h => h) hH rfl ?ya1 ?ra1
        case ya1 => intro W hSw; go_simp; try with_reducible rfl
        try simp only [Act.put, List.setIfInBounds_toArray, List.set_cons_zero, List.set_cons_succ]
        refine takeH 2 (v := ?va2) rfl (by kernel_rfl) (by kernel_rfl) (by kernel_rfl) (fun _ _ _ h => h) hH rfl ?ya2 ?ra2
        case ya2 => intro W hSw; go_simp; try with_reducible rfl
        try simp only [Act.put, List.setIfInBounds_toArray, List.set_cons_zero, List.set_cons_succ]
        refine takeH 3 (v := ?va3) rfl (by kernel_rfl) (by kernel_rfl) (by kernel_rfl) (fun _ _ _ h => h) hH rfl ?ya3 ?ra3
        case ya3 => intro W hSw; go_simp; try with_reducible rfl
        try simp only [Act.put, List.setIfInBounds_toArray, List.set_cons_zero, List.set_cons_succ]
        refine takeH 4 (v := ?va4) rfl (by kernel_rfl) (by kernel_rfl) (by kernel_rfl) (fun _ _ _ h => h) hH rfl ?ya4 ?ra4
        case ya4 => intro W hSw; go_simp; try with_reducible rfl
        try simp only [Act.put, List.setIfInBounds_toArray, List.set_cons_zero, List.set_cons_succ]
        refine callH 5 rfl (by kernel_rfl) rfl (fun K hK => ?_)
        go_simp
        go_at_call 55
        refine (HV.out _ (Hc1.out.below hH.1) (Hi2.out.below hH.1)).mono ?_
        rintro e wx ⟨rfl, hbx⟩
        refine hK.out _ _ ⟨hH.1.trans (hbx.mono hH.1.size), (hbx.cell (p := ⟨b, off + k * 4, none⟩) (Hbs.out _ hH.1)).trans hH.2.1, (hbx.cell (p := ⟨b, off + k * 4 + 1, none⟩) (Hbs.out _ hH.1)).trans hH.2.2.1, (hbx.cell (p := ⟨b, off + k * 4 + 2, none⟩) (Hbs.out _ hH.1)).trans hH.2.2.2.1, (hbx.cell (p := ⟨b, off + k * 4 + 3, none⟩) (Hbs.out _ hH.1)).trans hH.2.2.2.2⟩ (fun hH => ?_)
        clear hK K
        try simp only [Act.put, List.setIfInBounds_toArray, List.set_cons_zero, List.set_cons_succ]
        refine takeH 6 (v := ?va6) rfl (by kernel_rfl) (by kernel_rfl) (by kernel_rfl) (fun _ _ _ h => h) hH rfl ?ya6 ?ra6
        case ya6 => intro W hSw; go_simp; try with_reducible rfl
        try simp only [Act.put, List.setIfInBounds_toArray, List.set_cons_zero, List.set_cons_succ]
        refine takeH 7 (v := ?va7) rfl (by kernel_rfl) (by kernel_rfl) (by kernel_rfl) (fun _ _ _ h => h) hH rfl ?ya7 ?ra7
        case ya7 => intro W hSw; go_simp; try with_reducible rfl
        try simp only [Act.put, List.setIfInBounds_toArray, List.set_cons_zero, List.set_cons_succ]
        refine skipH 8 rfl (by kernel_rfl) (by kernel_rfl) (by kernel_rfl) (fun _ _ _ h => h) hH rfl ?_
        try simp only [Act.put, List.setIfInBounds_toArray, List.set_cons_zero, List.set_cons_succ]
        refine skipH 9 rfl (by kernel_rfl) (by kernel_rfl) (by kernel_rfl) (fun _ _ _ h => h) hH rfl ?_
        try simp only [Act.put, List.setIfInBounds_toArray, List.set_cons_zero, List.set_cons_succ]
        refine skipH 10 rfl (by kernel_rfl) (by kernel_rfl) (by kernel_rfl) (fun _ _ _ h => h) hH rfl ?_
        try simp only [Act.put, List.setIfInBounds_toArray, List.set_cons_zero, List.set_cons_succ]
        refine skipH 11 rfl (by kernel_rfl) (by kernel_rfl) (by kernel_rfl) (fun _ _ _ h => h) hH rfl ?_
        try simp only [Act.put, List.setIfInBounds_toArray, List.set_cons_zero, List.set_cons_succ]
        refine skipH 12 rfl (by kernel_rfl) (by kernel_rfl) (by kernel_rfl) (fun _ _ _ h => h) hH rfl ?_
        try simp only [Act.put, List.setIfInBounds_toArray, List.set_cons_zero, List.set_cons_succ]
        refine skipH 13 rfl (by kernel_rfl) (by kernel_rfl) (by kernel_rfl) (fun _ _ _ h => h) hH rfl ?_
        try simp only [Act.put, List.setIfInBounds_toArray, List.set_cons_zero, List.set_cons_succ]
        refine skipH 14 rfl (by kernel_rfl) (by kernel_rfl) (by kernel_rfl) (fun _ _ _ h => h) hH rfl ?_
        try simp only [Act.put, List.setIfInBounds_toArray, List.set_cons_zero, List.set_cons_succ]
        refine skipH 15 rfl (by kernel_rfl) (by kernel_rfl) (by kernel_rfl) (fun _ _ _ h => h) hH rfl ?_
        try simp only [Act.put, List.setIfInBounds_toArray, List.set_cons_zero, List.set_cons_succ]
        refine skipH 16 rfl (by kernel_rfl) (by kernel_rfl) (by kernel_rfl) (fun _ _ _ h => h) hH rfl ?_
        try simp only [Act.put, List.setIfInBounds_toArray, List.set_cons_zero, List.set_cons_succ]
        refine skipH 17 rfl (by kernel_rfl) (by kernel_rfl) (by kernel_rfl) (fun _ _ _ h => h) hH rfl ?_
        try simp only [Act.put, List.setIfInBounds_toArray, List.set_cons_zero, List.set_cons_succ]
        refine skipH 18 rfl (by kernel_rfl) (by kernel_rfl) (by kernel_rfl) (fun _ _ _ h => h) hH rfl ?_
        try simp only [Act.put, List.setIfInBounds_toArray, List.set_cons_zero, List.set_cons_succ]
        refine skipH 19 rfl (by kernel_rfl) (by kernel_rfl) (by kernel_rfl) (fun _ _ _ h => h) hH rfl ?_
        try simp only [Act.put, List.setIfInBounds_toArray, List.set_cons_zero, List.set_cons_succ]
        refine skipH 20 rfl (by kernel_rfl) (by kernel_rfl) (by kernel_rfl) (fun _ _ _ h => h) hH rfl ?_
        try simp only [Act.put, List.setIfInBounds_toArray, List.set_cons_zero, List.set_cons_succ]
        refine skipH 21 rfl (by kernel_rfl) (by kernel_rfl) (by kernel_rfl) (fun _ _ _ h => h) hH rfl ?_
        try simp only [Act.put, List.setIfInBounds_toArray, List.set_cons_zero, List.set_cons_succ]
        refine skipH 22 rfl (by kernel_rfl) (by kernel_rfl) (by kernel_rfl) (fun _ _ _ h => h) hH rfl ?_
        try simp only [Act.put, List.setIfInBounds_toArray, List.set_cons_zero, List.set_cons_succ]
        refine takeH 23 (v := ?va23) rfl (by kernel_rfl) (by kernel_rfl) (by kernel_rfl) (fun _ _ _ h => h) hH rfl ?ya23 ?ra23
        case ya23 => intro W hSw; go_simp; try with_reducible rfl
        try simp only [Act.put, List.setIfInBounds_toArray, List.set_cons_zero, List.set_cons_succ]
        refine takeH 24 (v := ?va24) rfl (by kernel_rfl) (by kernel_rfl) (by kernel_rfl) (fun _ _ _ h => h) hH rfl ?ya24 ?ra24
        case ya24 => intro W hSw; go_simp; try with_reducible rfl
        try simp only [Act.put, List.setIfInBounds_toArray, List.set_cons_zero, List.set_cons_succ]
        refine skipH 25 rfl (by kernel_rfl) (by kernel_rfl) (by kernel_rfl) (fun _ _ _ h => h) hH rfl ?_
        try simp only [Act.put, List.setIfInBounds_toArray, List.set_cons_zero, List.set_cons_succ]
        refine skipH 26 rfl (by kernel_rfl) (by kernel_rfl) (by kernel_rfl) (fun _ _ _ h => h) hH rfl ?_
        try simp only [Act.put, List.setIfInBounds_toArray, List.set_cons_zero, List.set_cons_succ]
        refine skipH 27 rfl (by kernel_rfl) (by kernel_rfl) (by kernel_rfl) (fun _ _ _ h => h) hH rfl ?_
        try simp only [Act.put, List.setIfInBounds_toArray, List.set_cons_zero, List.set_cons_succ]
        refine skipH 28 rfl (by kernel_rfl) (by kernel_rfl) (by kernel_rfl) (fun _ _ _ h => h) hH rfl ?_
        try simp only [Act.put, List.setIfInBounds_toArray, List.set_cons_zero, List.set_cons_succ]
        refine skipH 29 rfl (by kernel_rfl) (by kernel_rfl) (by kernel_rfl) (fun _ _ _ h => h) hH rfl ?_
        try simp only [Act.put, List.setIfInBounds_toArray, List.set_cons_zero, List.set_cons_succ]
        refine skipH 30 rfl (by kernel_rfl) (by kernel_rfl) (by kernel_rfl) (fun _ _ _ h => h) hH rfl ?_
        try simp only [Act.put, List.setIfInBounds_toArray, List.set_cons_zero, List.set_cons_succ]
        refine skipH 31 rfl (by kernel_rfl) (by kernel_rfl) (by kernel_rfl) (fun _ _ _ h => h) hH rfl ?_
        try simp only [Act.put, List.setIfInBounds_toArray, List.set_cons_zero, List.set_cons_succ]
        refine takeH 32 (v := ?va32) rfl (by kernel_rfl) (by kernel_rfl) (by kernel_rfl) (fun _ _ _ h => h) hH rfl ?ya32 ?ra32
        case ya32 => intro W hSw; go_simp; try with_reducible rfl
        try simp only [Act.put, List.setIfInBounds_toArray, List.set_cons_zero, List.set_cons_succ]
        refine wpAnyH_done (by kernel_rfl) ?_ _
        try simp only [Act.put]
        have hz := allB_no hlt (show okV c g k = false by rw [Hok.out, h1]; rfl)
        go_wp2
        go_ret
        exact ⟨ret_bool (by rw [Hres.out, hz]), below_step Hbel.out Hbel.out.size hH.1⟩
      | true =>
      have hrd : 0 ≤ xr ∧ xr ≤ 30 := by
        have h := h1; unfold vtxB rngB at h; simp only [Bool.and_eq_true, decide_eq_true_eq] at h; exact h.1
      rw [h1] at HV
      have hw1 : IntKind.i64.wrap ((k : Int) - 1) = k - 1 := IntWalk.i64_in _ (by omega)
      by_cases h0 : k = 0
      · have hgt : decide ((0 : Int) < (k : Int)) = false := decide_eq_false (by omega)
        have hgt' : ¬ (0 : Int) < (k : Int) := by omega
        have hok : okV c g k = parB g ⟨xr, xa, xp, xd⟩ := by rw [Hok.out, h1, h0]; rfl
        have Hok := Lib.hid hok; clear hok hw1
        have H0 := Lib.hid h0; clear h0
        cases h3 : parB g ⟨xr, xa, xp, xd⟩ with
        | false =>
          rw [h3] at HQ
          go_wp2_with fail
          refine wp_region_held_drew (S := fun w' => Below wr.heap.size wr w' ∧ w'.cell? ⟨b, off + k * 4, none⟩ = some (.int .i64 xr) ∧ w'.cell? ⟨b, off + k * 4 + 1, none⟩ = some (.int .i64 xa) ∧ w'.cell? ⟨b, off + k * 4 + 2, none⟩ = some (.slice pa xp.length pc) ∧ w'.cell? ⟨b, off + k * 4 + 3, none⟩ = some (.int .i64 xd)) (by kernel_rfl) ⟨hb0, c0, c1, c2, c3⟩ (fun hH => ?_)
          refine takeH 0 (v := ?vb0) rfl (by kernel_rfl) (by kernel_rfl) (by kernel_rfl) (fun _ _ _ h => h) hH rfl ?yb0 ?rb0
          case yb0 => intro W hSw; go_simp; try with_reducible rfl
          try simp only [Act.put, List.setIfInBounds_toArray, List.set_cons_zero, List.set_cons_succ]
          refine takeH 1 (v := ?vb1) rfl (by kernel_rfl) (by kernel_rfl) (by kernel_rfl) (fun _ _ _ h => h) hH rfl ?yb1 ?rb1
          case yb1 => intro W hSw; go_simp; try with_reducible rfl
          try simp only [Act.put, List.setIfInBounds_toArray, List.set_cons_zero, List.set_cons_succ]
          refine takeH 2 (v := ?vb2) rfl (by kernel_rfl) (by kernel_rfl) (by kernel_rfl) (fun _ _ _ h => h) hH rfl ?yb2 ?rb2
          case yb2 => intro W hSw; go_simp; try with_reducible rfl
          try simp only [Act.put, List.setIfInBounds_toArray, List.set_cons_zero, List.set_cons_succ]
          refine takeH 3 (v := ?vb3) rfl (by kernel_rfl) (by kernel_rfl) (by kernel_rfl) (fun _ _ _ h => h) hH rfl ?yb3 ?rb3
          case yb3 => intro W hSw; go_simp; try with_reducible rfl
          try simp only [Act.put, List.setIfInBounds_toArray, List.set_cons_zero, List.set_cons_succ]
          refine takeH 4 (v := ?vb4) rfl (by kernel_rfl) (by kernel_rfl) (by kernel_rfl) (fun _ _ _ h => h) hH rfl ?yb4 ?rb4
          case yb4 => intro W hSw; go_simp; try with_reducible rfl
          try simp only [Act.put, List.setIfInBounds_toArray, List.set_cons_zero, List.set_cons_succ]
          refine callH 5 rfl (by kernel_rfl) rfl (fun K hK => ?_)
          go_simp
          go_at_call 55
          refine (HV.out _ (Hc1.out.below hH.1) (Hi2.out.below hH.1)).mono ?_
          rintro e wx ⟨rfl, hbx⟩
          refine hK.out _ _ ⟨hH.1.trans (hbx.mono hH.1.size), (hbx.cell (p := ⟨b, off + k * 4, none⟩) (Hbs.out _ hH.1)).trans hH.2.1, (hbx.cell (p := ⟨b, off + k * 4 + 1, none⟩) (Hbs.out _ hH.1)).trans hH.2.2.1, (hbx.cell (p := ⟨b, off + k * 4 + 2, none⟩) (Hbs.out _ hH.1)).trans hH.2.2.2.1, (hbx.cell (p := ⟨b, off + k * 4 + 3, none⟩) (Hbs.out _ hH.1)).trans hH.2.2.2.2⟩ (fun hH => ?_)
          clear hK K
          try simp only [Act.put, List.setIfInBounds_toArray, List.set_cons_zero, List.set_cons_succ]
          refine takeH 6 (v := ?vb6) rfl (by kernel_rfl) (by kernel_rfl) (by kernel_rfl) (fun _ _ _ h => h) hH rfl ?yb6 ?rb6
          case yb6 => intro W hSw; go_simp; try with_reducible rfl
          try simp only [Act.put, List.setIfInBounds_toArray, List.set_cons_zero, List.set_cons_succ]
          refine takeH 7 (v := ?vb7) rfl (by kernel_rfl) (by kernel_rfl) (by kernel_rfl) (fun _ _ _ h => h) hH rfl ?yb7 ?rb7
          case yb7 => intro W hSw; go_simp; try with_reducible rfl
          try simp only [Act.put, List.setIfInBounds_toArray, List.set_cons_zero, List.set_cons_succ]
          refine takeH 8 (v := ?vb8) rfl (by kernel_rfl) (by kernel_rfl) (by kernel_rfl) (fun _ _ _ h => h) hH rfl ?yb8 ?rb8
          case yb8 => intro W hSw; go_simp; try with_reducible rfl
          try simp only [Act.put, List.setIfInBounds_toArray, List.set_cons_zero, List.set_cons_succ]
          refine takeH 9 (v := .bool false) rfl (by kernel_rfl) (by kernel_rfl) (by kernel_rfl) (fun _ _ _ h => h) hH rfl ?yb9 ?rb9
          case yb9 => intro W hSw; go_simp; first | done | simp only [hgt] | omega | (simp; omega)
          try simp only [Act.put, List.setIfInBounds_toArray, List.set_cons_zero, List.set_cons_succ]
          refine takeH 10 (v := ?vb10) rfl (by kernel_rfl) (by kernel_rfl) (by kernel_rfl) (fun _ _ _ h => h) hH rfl ?yb10 ?rb10
          case yb10 => intro W hSw; go_simp; try with_reducible rfl
          try simp only [Act.put, List.setIfInBounds_toArray, List.set_cons_zero, List.set_cons_succ]
          refine skipH 11 rfl (by kernel_rfl) (by kernel_rfl) (by kernel_rfl) (fun _ _ _ h => h) hH rfl ?_
          try simp only [Act.put, List.setIfInBounds_toArray, List.set_cons_zero, List.set_cons_succ]
          refine skipH 12 rfl (by kernel_rfl) (by kernel_rfl) (by kernel_rfl) (fun _ _ _ h => h) hH rfl ?_
          try simp only [Act.put, List.setIfInBounds_toArray, List.set_cons_zero, List.set_cons_succ]
          refine skipH 13 rfl (by kernel_rfl) (by kernel_rfl) (by kernel_rfl) (fun _ _ _ h => h) hH rfl ?_
          try simp only [Act.put, List.setIfInBounds_toArray, List.set_cons_zero, List.set_cons_succ]
          refine skipH 14 rfl (by kernel_rfl) (by kernel_rfl) (by kernel_rfl) (fun _ _ _ h => h) hH rfl ?_
          try simp only [Act.put, List.setIfInBounds_toArray, List.set_cons_zero, List.set_cons_succ]
          refine skipH 15 rfl (by kernel_rfl) (by kernel_rfl) (by kernel_rfl) (fun _ _ _ h => h) hH rfl ?_
          try simp only [Act.put, List.setIfInBounds_toArray, List.set_cons_zero, List.set_cons_succ]
          refine skipH 16 rfl (by kernel_rfl) (by kernel_rfl) (by kernel_rfl) (fun _ _ _ h => h) hH rfl ?_
          try simp only [Act.put, List.setIfInBounds_toArray, List.set_cons_zero, List.set_cons_succ]
          refine skipH 17 rfl (by kernel_rfl) (by kernel_rfl) (by kernel_rfl) (fun _ _ _ h => h) hH rfl ?_
          try simp only [Act.put, List.setIfInBounds_toArray, List.set_cons_zero, List.set_cons_succ]
          refine skipH 18 rfl (by kernel_rfl) (by kernel_rfl) (by kernel_rfl) (fun _ _ _ h => h) hH rfl ?_
          try simp only [Act.put, List.setIfInBounds_toArray, List.set_cons_zero, List.set_cons_succ]
          refine skipH 19 rfl (by kernel_rfl) (by kernel_rfl) (by kernel_rfl) (fun _ _ _ h => h) hH rfl ?_
          try simp only [Act.put, List.setIfInBounds_toArray, List.set_cons_zero, List.set_cons_succ]
          refine skipH 20 rfl (by kernel_rfl) (by kernel_rfl) (by kernel_rfl) (fun _ _ _ h => h) hH rfl ?_
          try simp only [Act.put, List.setIfInBounds_toArray, List.set_cons_zero, List.set_cons_succ]
          refine skipH 21 rfl (by kernel_rfl) (by kernel_rfl) (by kernel_rfl) (fun _ _ _ h => h) hH rfl ?_
          try simp only [Act.put, List.setIfInBounds_toArray, List.set_cons_zero, List.set_cons_succ]
          refine takeH 22 (v := ?vb22) rfl (by kernel_rfl) (by kernel_rfl) (by kernel_rfl) (fun _ _ _ h => h) hH rfl ?yb22 ?rb22
          case yb22 => intro W hSw; go_simp; try with_reducible rfl
          try simp only [Act.put, List.setIfInBounds_toArray, List.set_cons_zero, List.set_cons_succ]
          refine takeH 23 (v := ?vb23) rfl (by kernel_rfl) (by kernel_rfl) (by kernel_rfl) (fun _ _ _ h => h) hH rfl ?yb23 ?rb23
          case yb23 => intro W hSw; go_simp; try with_reducible rfl
          try simp only [Act.put, List.setIfInBounds_toArray, List.set_cons_zero, List.set_cons_succ]
          refine takeH 24 (v := ?vb24) rfl (by kernel_rfl) (by kernel_rfl) (by kernel_rfl) (fun _ _ _ h => h) hH rfl ?yb24 ?rb24
          case yb24 => intro W hSw; go_simp; try with_reducible rfl
          try simp only [Act.put, List.setIfInBounds_toArray, List.set_cons_zero, List.set_cons_succ]
          refine takeH 25 (v := ?vb25) rfl (by kernel_rfl) (by kernel_rfl) (by kernel_rfl) (fun _ _ _ h => h) hH rfl ?yb25 ?rb25
          case yb25 => intro W hSw; go_simp; try with_reducible rfl
          try simp only [Act.put, List.setIfInBounds_toArray, List.set_cons_zero, List.set_cons_succ]
          refine takeH 26 (v := ?vb26) rfl (by kernel_rfl) (by kernel_rfl) (by kernel_rfl) (fun _ _ _ h => h) hH rfl ?yb26 ?rb26
          case yb26 => intro W hSw; go_simp; try with_reducible rfl
          try simp only [Act.put, List.setIfInBounds_toArray, List.set_cons_zero, List.set_cons_succ]
          refine takeH 27 (v := ?vb27) rfl (by kernel_rfl) (by kernel_rfl) (by kernel_rfl) (fun _ _ _ h => h) hH rfl ?yb27 ?rb27
          case yb27 => intro W hSw; go_simp; try with_reducible rfl
          try simp only [Act.put, List.setIfInBounds_toArray, List.set_cons_zero, List.set_cons_succ]
          refine takeH 28 (v := ?vb28) rfl (by kernel_rfl) (by kernel_rfl) (by kernel_rfl) (fun _ _ _ h => h) hH rfl ?yb28 ?rb28
          case yb28 => intro W hSw; go_simp; try with_reducible rfl
          try simp only [Act.put, List.setIfInBounds_toArray, List.set_cons_zero, List.set_cons_succ]
          refine takeH 29 (v := ?vb29) rfl (by kernel_rfl) (by kernel_rfl) (by kernel_rfl) (fun _ _ _ h => h) hH rfl ?yb29 ?rb29
          case yb29 => intro W hSw; go_simp; try with_reducible rfl
          try simp only [Act.put, List.setIfInBounds_toArray, List.set_cons_zero, List.set_cons_succ]
          refine callH 30 rfl (by kernel_rfl) rfl (fun K hK => ?_)
          go_simp
          go_at_call 57
          refine (HQ.out _ hrd.1 (by omega) (Hg1.out.under hH.1) (Hi2.out.below hH.1)).mono ?_
          rintro e wx ⟨rfl, hbx⟩
          refine hK.out _ _ ⟨hH.1.trans (hbx.mono hH.1.size), (hbx.cell (p := ⟨b, off + k * 4, none⟩) (Hbs.out _ hH.1)).trans hH.2.1, (hbx.cell (p := ⟨b, off + k * 4 + 1, none⟩) (Hbs.out _ hH.1)).trans hH.2.2.1, (hbx.cell (p := ⟨b, off + k * 4 + 2, none⟩) (Hbs.out _ hH.1)).trans hH.2.2.2.1, (hbx.cell (p := ⟨b, off + k * 4 + 3, none⟩) (Hbs.out _ hH.1)).trans hH.2.2.2.2⟩ (fun hH => ?_)
          clear hK K
          try simp only [Act.put, List.setIfInBounds_toArray, List.set_cons_zero, List.set_cons_succ]
          refine takeH 31 (v := ?vb31) rfl (by kernel_rfl) (by kernel_rfl) (by kernel_rfl) (fun _ _ _ h => h) hH rfl ?yb31 ?rb31
          case yb31 => intro W hSw; go_simp; try with_reducible rfl
          try simp only [Act.put, List.setIfInBounds_toArray, List.set_cons_zero, List.set_cons_succ]
          refine takeH 32 (v := ?vb32) rfl (by kernel_rfl) (by kernel_rfl) (by kernel_rfl) (fun _ _ _ h => h) hH rfl ?yb32 ?rb32
          case yb32 => intro W hSw; go_simp; try with_reducible rfl
          try simp only [Act.put, List.setIfInBounds_toArray, List.set_cons_zero, List.set_cons_succ]
          refine wpAnyH_done (by kernel_rfl) ?_ _
          try simp only [Act.put]
          have hz := allB_no hlt (show okV c g k = false by rw [Hok.out, h3])
          go_wp2
          go_ret
          exact ⟨ret_bool (by rw [Hres.out, hz]), below_step Hbel.out Hbel.out.size hH.1⟩
        | true =>
          rw [h3] at HQ
          go_wp2_with fail
          refine wp_region_held_drew (S := fun w' => Below wr.heap.size wr w' ∧ w'.cell? ⟨b, off + k * 4, none⟩ = some (.int .i64 xr) ∧ w'.cell? ⟨b, off + k * 4 + 1, none⟩ = some (.int .i64 xa) ∧ w'.cell? ⟨b, off + k * 4 + 2, none⟩ = some (.slice pa xp.length pc) ∧ w'.cell? ⟨b, off + k * 4 + 3, none⟩ = some (.int .i64 xd)) (by kernel_rfl) ⟨hb0, c0, c1, c2, c3⟩ (fun hH => ?_)
          refine takeH 0 (v := ?vc0) rfl (by kernel_rfl) (by kernel_rfl) (by kernel_rfl) (fun _ _ _ h => h) hH rfl ?yc0 ?rc0
          case yc0 => intro W hSw; go_simp; try with_reducible rfl
          try simp only [Act.put, List.setIfInBounds_toArray, List.set_cons_zero, List.set_cons_succ]
          refine takeH 1 (v := ?vc1) rfl (by kernel_rfl) (by kernel_rfl) (by kernel_rfl) (fun _ _ _ h => h) hH rfl ?yc1 ?rc1
          case yc1 => intro W hSw; go_simp; try with_reducible rfl
          try simp only [Act.put, List.setIfInBounds_toArray, List.set_cons_zero, List.set_cons_succ]
          refine takeH 2 (v := ?vc2) rfl (by kernel_rfl) (by kernel_rfl) (by kernel_rfl) (fun _ _ _ h => h) hH rfl ?yc2 ?rc2
          case yc2 => intro W hSw; go_simp; try with_reducible rfl
          try simp only [Act.put, List.setIfInBounds_toArray, List.set_cons_zero, List.set_cons_succ]
          refine takeH 3 (v := ?vc3) rfl (by kernel_rfl) (by kernel_rfl) (by kernel_rfl) (fun _ _ _ h => h) hH rfl ?yc3 ?rc3
          case yc3 => intro W hSw; go_simp; try with_reducible rfl
          try simp only [Act.put, List.setIfInBounds_toArray, List.set_cons_zero, List.set_cons_succ]
          refine takeH 4 (v := ?vc4) rfl (by kernel_rfl) (by kernel_rfl) (by kernel_rfl) (fun _ _ _ h => h) hH rfl ?yc4 ?rc4
          case yc4 => intro W hSw; go_simp; try with_reducible rfl
          try simp only [Act.put, List.setIfInBounds_toArray, List.set_cons_zero, List.set_cons_succ]
          refine callH 5 rfl (by kernel_rfl) rfl (fun K hK => ?_)
          go_simp
          go_at_call 55
          refine (HV.out _ (Hc1.out.below hH.1) (Hi2.out.below hH.1)).mono ?_
          rintro e wx ⟨rfl, hbx⟩
          refine hK.out _ _ ⟨hH.1.trans (hbx.mono hH.1.size), (hbx.cell (p := ⟨b, off + k * 4, none⟩) (Hbs.out _ hH.1)).trans hH.2.1, (hbx.cell (p := ⟨b, off + k * 4 + 1, none⟩) (Hbs.out _ hH.1)).trans hH.2.2.1, (hbx.cell (p := ⟨b, off + k * 4 + 2, none⟩) (Hbs.out _ hH.1)).trans hH.2.2.2.1, (hbx.cell (p := ⟨b, off + k * 4 + 3, none⟩) (Hbs.out _ hH.1)).trans hH.2.2.2.2⟩ (fun hH => ?_)
          clear hK K
          try simp only [Act.put, List.setIfInBounds_toArray, List.set_cons_zero, List.set_cons_succ]
          refine takeH 6 (v := ?vc6) rfl (by kernel_rfl) (by kernel_rfl) (by kernel_rfl) (fun _ _ _ h => h) hH rfl ?yc6 ?rc6
          case yc6 => intro W hSw; go_simp; try with_reducible rfl
          try simp only [Act.put, List.setIfInBounds_toArray, List.set_cons_zero, List.set_cons_succ]
          refine takeH 7 (v := ?vc7) rfl (by kernel_rfl) (by kernel_rfl) (by kernel_rfl) (fun _ _ _ h => h) hH rfl ?yc7 ?rc7
          case yc7 => intro W hSw; go_simp; try with_reducible rfl
          try simp only [Act.put, List.setIfInBounds_toArray, List.set_cons_zero, List.set_cons_succ]
          refine takeH 8 (v := ?vc8) rfl (by kernel_rfl) (by kernel_rfl) (by kernel_rfl) (fun _ _ _ h => h) hH rfl ?yc8 ?rc8
          case yc8 => intro W hSw; go_simp; try with_reducible rfl
          try simp only [Act.put, List.setIfInBounds_toArray, List.set_cons_zero, List.set_cons_succ]
          refine takeH 9 (v := .bool false) rfl (by kernel_rfl) (by kernel_rfl) (by kernel_rfl) (fun _ _ _ h => h) hH rfl ?yc9 ?rc9
          case yc9 => intro W hSw; go_simp; first | done | simp only [hgt] | omega | (simp; omega)
          try simp only [Act.put, List.setIfInBounds_toArray, List.set_cons_zero, List.set_cons_succ]
          refine takeH 10 (v := ?vc10) rfl (by kernel_rfl) (by kernel_rfl) (by kernel_rfl) (fun _ _ _ h => h) hH rfl ?yc10 ?rc10
          case yc10 => intro W hSw; go_simp; try with_reducible rfl
          try simp only [Act.put, List.setIfInBounds_toArray, List.set_cons_zero, List.set_cons_succ]
          refine skipH 11 rfl (by kernel_rfl) (by kernel_rfl) (by kernel_rfl) (fun _ _ _ h => h) hH rfl ?_
          try simp only [Act.put, List.setIfInBounds_toArray, List.set_cons_zero, List.set_cons_succ]
          refine skipH 12 rfl (by kernel_rfl) (by kernel_rfl) (by kernel_rfl) (fun _ _ _ h => h) hH rfl ?_
          try simp only [Act.put, List.setIfInBounds_toArray, List.set_cons_zero, List.set_cons_succ]
          refine skipH 13 rfl (by kernel_rfl) (by kernel_rfl) (by kernel_rfl) (fun _ _ _ h => h) hH rfl ?_
          try simp only [Act.put, List.setIfInBounds_toArray, List.set_cons_zero, List.set_cons_succ]
          refine skipH 14 rfl (by kernel_rfl) (by kernel_rfl) (by kernel_rfl) (fun _ _ _ h => h) hH rfl ?_
          try simp only [Act.put, List.setIfInBounds_toArray, List.set_cons_zero, List.set_cons_succ]
          refine skipH 15 rfl (by kernel_rfl) (by kernel_rfl) (by kernel_rfl) (fun _ _ _ h => h) hH rfl ?_
          try simp only [Act.put, List.setIfInBounds_toArray, List.set_cons_zero, List.set_cons_succ]
          refine skipH 16 rfl (by kernel_rfl) (by kernel_rfl) (by kernel_rfl) (fun _ _ _ h => h) hH rfl ?_
          try simp only [Act.put, List.setIfInBounds_toArray, List.set_cons_zero, List.set_cons_succ]
          refine skipH 17 rfl (by kernel_rfl) (by kernel_rfl) (by kernel_rfl) (fun _ _ _ h => h) hH rfl ?_
          try simp only [Act.put, List.setIfInBounds_toArray, List.set_cons_zero, List.set_cons_succ]
          refine skipH 18 rfl (by kernel_rfl) (by kernel_rfl) (by kernel_rfl) (fun _ _ _ h => h) hH rfl ?_
          try simp only [Act.put, List.setIfInBounds_toArray, List.set_cons_zero, List.set_cons_succ]
          refine skipH 19 rfl (by kernel_rfl) (by kernel_rfl) (by kernel_rfl) (fun _ _ _ h => h) hH rfl ?_
          try simp only [Act.put, List.setIfInBounds_toArray, List.set_cons_zero, List.set_cons_succ]
          refine skipH 20 rfl (by kernel_rfl) (by kernel_rfl) (by kernel_rfl) (fun _ _ _ h => h) hH rfl ?_
          try simp only [Act.put, List.setIfInBounds_toArray, List.set_cons_zero, List.set_cons_succ]
          refine skipH 21 rfl (by kernel_rfl) (by kernel_rfl) (by kernel_rfl) (fun _ _ _ h => h) hH rfl ?_
          try simp only [Act.put, List.setIfInBounds_toArray, List.set_cons_zero, List.set_cons_succ]
          refine takeH 22 (v := ?vc22) rfl (by kernel_rfl) (by kernel_rfl) (by kernel_rfl) (fun _ _ _ h => h) hH rfl ?yc22 ?rc22
          case yc22 => intro W hSw; go_simp; try with_reducible rfl
          try simp only [Act.put, List.setIfInBounds_toArray, List.set_cons_zero, List.set_cons_succ]
          refine takeH 23 (v := ?vc23) rfl (by kernel_rfl) (by kernel_rfl) (by kernel_rfl) (fun _ _ _ h => h) hH rfl ?yc23 ?rc23
          case yc23 => intro W hSw; go_simp; try with_reducible rfl
          try simp only [Act.put, List.setIfInBounds_toArray, List.set_cons_zero, List.set_cons_succ]
          refine takeH 24 (v := ?vc24) rfl (by kernel_rfl) (by kernel_rfl) (by kernel_rfl) (fun _ _ _ h => h) hH rfl ?yc24 ?rc24
          case yc24 => intro W hSw; go_simp; try with_reducible rfl
          try simp only [Act.put, List.setIfInBounds_toArray, List.set_cons_zero, List.set_cons_succ]
          refine takeH 25 (v := ?vc25) rfl (by kernel_rfl) (by kernel_rfl) (by kernel_rfl) (fun _ _ _ h => h) hH rfl ?yc25 ?rc25
          case yc25 => intro W hSw; go_simp; try with_reducible rfl
          try simp only [Act.put, List.setIfInBounds_toArray, List.set_cons_zero, List.set_cons_succ]
          refine takeH 26 (v := ?vc26) rfl (by kernel_rfl) (by kernel_rfl) (by kernel_rfl) (fun _ _ _ h => h) hH rfl ?yc26 ?rc26
          case yc26 => intro W hSw; go_simp; try with_reducible rfl
          try simp only [Act.put, List.setIfInBounds_toArray, List.set_cons_zero, List.set_cons_succ]
          refine takeH 27 (v := ?vc27) rfl (by kernel_rfl) (by kernel_rfl) (by kernel_rfl) (fun _ _ _ h => h) hH rfl ?yc27 ?rc27
          case yc27 => intro W hSw; go_simp; try with_reducible rfl
          try simp only [Act.put, List.setIfInBounds_toArray, List.set_cons_zero, List.set_cons_succ]
          refine takeH 28 (v := ?vc28) rfl (by kernel_rfl) (by kernel_rfl) (by kernel_rfl) (fun _ _ _ h => h) hH rfl ?yc28 ?rc28
          case yc28 => intro W hSw; go_simp; try with_reducible rfl
          try simp only [Act.put, List.setIfInBounds_toArray, List.set_cons_zero, List.set_cons_succ]
          refine takeH 29 (v := ?vc29) rfl (by kernel_rfl) (by kernel_rfl) (by kernel_rfl) (fun _ _ _ h => h) hH rfl ?yc29 ?rc29
          case yc29 => intro W hSw; go_simp; try with_reducible rfl
          try simp only [Act.put, List.setIfInBounds_toArray, List.set_cons_zero, List.set_cons_succ]
          refine callH 30 rfl (by kernel_rfl) rfl (fun K hK => ?_)
          go_simp
          go_at_call 57
          refine (HQ.out _ hrd.1 (by omega) (Hg1.out.under hH.1) (Hi2.out.below hH.1)).mono ?_
          rintro e wx ⟨rfl, hbx⟩
          refine hK.out _ _ ⟨hH.1.trans (hbx.mono hH.1.size), (hbx.cell (p := ⟨b, off + k * 4, none⟩) (Hbs.out _ hH.1)).trans hH.2.1, (hbx.cell (p := ⟨b, off + k * 4 + 1, none⟩) (Hbs.out _ hH.1)).trans hH.2.2.1, (hbx.cell (p := ⟨b, off + k * 4 + 2, none⟩) (Hbs.out _ hH.1)).trans hH.2.2.2.1, (hbx.cell (p := ⟨b, off + k * 4 + 3, none⟩) (Hbs.out _ hH.1)).trans hH.2.2.2.2⟩ (fun hH => ?_)
          clear hK K
          try simp only [Act.put, List.setIfInBounds_toArray, List.set_cons_zero, List.set_cons_succ]
          refine takeH 31 (v := ?vc31) rfl (by kernel_rfl) (by kernel_rfl) (by kernel_rfl) (fun _ _ _ h => h) hH rfl ?yc31 ?rc31
          case yc31 => intro W hSw; go_simp; try with_reducible rfl
          try simp only [Act.put, List.setIfInBounds_toArray, List.set_cons_zero, List.set_cons_succ]
          refine takeH 32 (v := ?vc32) rfl (by kernel_rfl) (by kernel_rfl) (by kernel_rfl) (fun _ _ _ h => h) hH rfl ?yc32 ?rc32
          case yc32 => intro W hSw; go_simp; try with_reducible rfl
          try simp only [Act.put, List.setIfInBounds_toArray, List.set_cons_zero, List.set_cons_succ]
          refine wpAnyH_done (by kernel_rfl) ?_ _
          try simp only [Act.put]
          go_wp2
          go_roundw
          case rel => exact ⟨k + 1, by omega, by go_num, upto_step Hup.out (by rw [Hok.out, h3]), below_step Hbel.out Hbel.out.size hH.1⟩
          case measure => simp [intOf]; omega
      · have hgt : decide ((0 : Int) < (k : Int)) = true := decide_eq_true (by omega)
        have hgt' : (0 : Int) < (k : Int) := by omega
        obtain ⟨d0, d1, ⟨pa', pc', d2, _⟩, d3⟩ := Hat.out (k - 1) (by omega)
        have hgy := getV (show k - 1 < g.length by omega)
        have hok : okV c g k = (befB g[k - 1] ⟨xr, xa, xp, xd⟩ && parB g ⟨xr, xa, xp, xd⟩) := by rw [Hok.out, h1, hgy, show (k == 0) = false by simpa using h0]; rfl
        have Hok := Lib.hid hok; clear hok hgy
        have HB := Lib.hid (Hb.out g[k - 1] pa' pc'); clear Hb
        generalize hy : g[k - 1] = y at *
        obtain ⟨yr, ya, yp, yd⟩ := y
        dsimp only at *
        have Hy := Lib.hid hy; clear hy
        have e3 : ((k : Int) - 1).toNat = k - 1 := by omega
        have e4 : 0 ≤ (k : Int) - 1 := by omega
        have e5 : 1 ≤ (k : Int) := by omega
        have e6 : (k : Int) - 1 < g.length := by omega
        cases h2 : befB ⟨yr, ya, yp, yd⟩ ⟨xr, xa, xp, xd⟩ with
        | false =>
          rw [h2] at HB
          go_wp2_with fail
          refine wp_region_held_drew (S := fun w' => Below wr.heap.size wr w' ∧ w'.cell? ⟨b, off + k * 4, none⟩ = some (.int .i64 xr) ∧ w'.cell? ⟨b, off + k * 4 + 1, none⟩ = some (.int .i64 xa) ∧ w'.cell? ⟨b, off + k * 4 + 2, none⟩ = some (.slice pa xp.length pc) ∧ w'.cell? ⟨b, off + k * 4 + 3, none⟩ = some (.int .i64 xd) ∧ w'.cell? ⟨b, off + (k - 1) * 4, none⟩ = some (.int .i64 yr) ∧ w'.cell? ⟨b, off + (k - 1) * 4 + 1, none⟩ = some (.int .i64 ya) ∧ w'.cell? ⟨b, off + (k - 1) * 4 + 2, none⟩ = some (.slice pa' yp.length pc') ∧ w'.cell? ⟨b, off + (k - 1) * 4 + 3, none⟩ = some (.int .i64 yd)) (by kernel_rfl) ⟨hb0, c0, c1, c2, c3, d0, d1, d2, d3⟩ (fun hH => ?_)
          refine takeH 0 (v := ?vd0) rfl (by kernel_rfl) (by kernel_rfl) (by kernel_rfl) (fun _ _ _ h => h) hH rfl ?yd0 ?rd0
          case yd0 => intro W hSw; go_simp; try with_reducible rfl
          try simp only [Act.put, List.setIfInBounds_toArray, List.set_cons_zero, List.set_cons_succ]
          refine takeH 1 (v := ?vd1) rfl (by kernel_rfl) (by kernel_rfl) (by kernel_rfl) (fun _ _ _ h => h) hH rfl ?yd1 ?rd1
          case yd1 => intro W hSw; go_simp; try with_reducible rfl
          try simp only [Act.put, List.setIfInBounds_toArray, List.set_cons_zero, List.set_cons_succ]
          refine takeH 2 (v := ?vd2) rfl (by kernel_rfl) (by kernel_rfl) (by kernel_rfl) (fun _ _ _ h => h) hH rfl ?yd2 ?rd2
          case yd2 => intro W hSw; go_simp; try with_reducible rfl
          try simp only [Act.put, List.setIfInBounds_toArray, List.set_cons_zero, List.set_cons_succ]
          refine takeH 3 (v := ?vd3) rfl (by kernel_rfl) (by kernel_rfl) (by kernel_rfl) (fun _ _ _ h => h) hH rfl ?yd3 ?rd3
          case yd3 => intro W hSw; go_simp; try with_reducible rfl
          try simp only [Act.put, List.setIfInBounds_toArray, List.set_cons_zero, List.set_cons_succ]
          refine takeH 4 (v := ?vd4) rfl (by kernel_rfl) (by kernel_rfl) (by kernel_rfl) (fun _ _ _ h => h) hH rfl ?yd4 ?rd4
          case yd4 => intro W hSw; go_simp; try with_reducible rfl
          try simp only [Act.put, List.setIfInBounds_toArray, List.set_cons_zero, List.set_cons_succ]
          refine callH 5 rfl (by kernel_rfl) rfl (fun K hK => ?_)
          go_simp
          go_at_call 55
          refine (HV.out _ (Hc1.out.below hH.1) (Hi2.out.below hH.1)).mono ?_
          rintro e wx ⟨rfl, hbx⟩
          refine hK.out _ _ ⟨hH.1.trans (hbx.mono hH.1.size), (hbx.cell (p := ⟨b, off + k * 4, none⟩) (Hbs.out _ hH.1)).trans hH.2.1, (hbx.cell (p := ⟨b, off + k * 4 + 1, none⟩) (Hbs.out _ hH.1)).trans hH.2.2.1, (hbx.cell (p := ⟨b, off + k * 4 + 2, none⟩) (Hbs.out _ hH.1)).trans hH.2.2.2.1, (hbx.cell (p := ⟨b, off + k * 4 + 3, none⟩) (Hbs.out _ hH.1)).trans hH.2.2.2.2.1, (hbx.cell (p := ⟨b, off + (k - 1) * 4, none⟩) (Hbs.out _ hH.1)).trans hH.2.2.2.2.2.1, (hbx.cell (p := ⟨b, off + (k - 1) * 4 + 1, none⟩) (Hbs.out _ hH.1)).trans hH.2.2.2.2.2.2.1, (hbx.cell (p := ⟨b, off + (k - 1) * 4 + 2, none⟩) (Hbs.out _ hH.1)).trans hH.2.2.2.2.2.2.2.1, (hbx.cell (p := ⟨b, off + (k - 1) * 4 + 3, none⟩) (Hbs.out _ hH.1)).trans hH.2.2.2.2.2.2.2.2⟩ (fun hH => ?_)
          clear hK K
          try simp only [Act.put, List.setIfInBounds_toArray, List.set_cons_zero, List.set_cons_succ]
          refine takeH 6 (v := ?vd6) rfl (by kernel_rfl) (by kernel_rfl) (by kernel_rfl) (fun _ _ _ h => h) hH rfl ?yd6 ?rd6
          case yd6 => intro W hSw; go_simp; try with_reducible rfl
          try simp only [Act.put, List.setIfInBounds_toArray, List.set_cons_zero, List.set_cons_succ]
          refine takeH 7 (v := ?vd7) rfl (by kernel_rfl) (by kernel_rfl) (by kernel_rfl) (fun _ _ _ h => h) hH rfl ?yd7 ?rd7
          case yd7 => intro W hSw; go_simp; try with_reducible rfl
          try simp only [Act.put, List.setIfInBounds_toArray, List.set_cons_zero, List.set_cons_succ]
          refine takeH 8 (v := ?vd8) rfl (by kernel_rfl) (by kernel_rfl) (by kernel_rfl) (fun _ _ _ h => h) hH rfl ?yd8 ?rd8
          case yd8 => intro W hSw; go_simp; try with_reducible rfl
          try simp only [Act.put, List.setIfInBounds_toArray, List.set_cons_zero, List.set_cons_succ]
          refine takeH 9 (v := .bool true) rfl (by kernel_rfl) (by kernel_rfl) (by kernel_rfl) (fun _ _ _ h => h) hH rfl ?yd9 ?rd9
          case yd9 => intro W hSw; go_simp; first | done | simp only [hgt] | omega | (simp; omega)
          try simp only [Act.put, List.setIfInBounds_toArray, List.set_cons_zero, List.set_cons_succ]
          refine takeH 10 (v := ?vd10) rfl (by kernel_rfl) (by kernel_rfl) (by kernel_rfl) (fun _ _ _ h => h) hH rfl ?yd10 ?rd10
          case yd10 => intro W hSw; go_simp; try with_reducible rfl
          try simp only [Act.put, List.setIfInBounds_toArray, List.set_cons_zero, List.set_cons_succ]
          refine takeH 11 (v := ?vd11) rfl (by kernel_rfl) (by kernel_rfl) (by kernel_rfl) (fun _ _ _ h => h) hH rfl ?yd11 ?rd11
          case yd11 => intro W hSw; go_simp; try with_reducible rfl
          try simp only [Act.put, List.setIfInBounds_toArray, List.set_cons_zero, List.set_cons_succ]
          refine takeH 12 (v := ?vd12) rfl (by kernel_rfl) (by kernel_rfl) (by kernel_rfl) (fun _ _ _ h => h) hH rfl ?yd12 ?rd12
          case yd12 => intro W hSw; go_simp; try with_reducible rfl
          try simp only [Act.put, List.setIfInBounds_toArray, List.set_cons_zero, List.set_cons_succ]
          refine takeH 13 (v := ?vd13) rfl (by kernel_rfl) (by kernel_rfl) (by kernel_rfl) (fun _ _ _ h => h) hH rfl ?yd13 ?rd13
          case yd13 => intro W hSw; go_simp; try with_reducible rfl
          try simp only [Act.put, List.setIfInBounds_toArray, List.set_cons_zero, List.set_cons_succ]
          refine takeH 14 (v := ?vd14) rfl (by kernel_rfl) (by kernel_rfl) (by kernel_rfl) (fun _ _ _ h => h) hH rfl ?yd14 ?rd14
          case yd14 => intro W hSw; go_simp; try with_reducible rfl
          try simp only [Act.put, List.setIfInBounds_toArray, List.set_cons_zero, List.set_cons_succ]
          refine takeH 15 (v := ?vd15) rfl (by kernel_rfl) (by kernel_rfl) (by kernel_rfl) (fun _ _ _ h => h) hH rfl ?yd15 ?rd15
          case yd15 => intro W hSw; go_simp; try with_reducible rfl
          try simp only [Act.put, List.setIfInBounds_toArray, List.set_cons_zero, List.set_cons_succ]
          refine takeH 16 (v := ?vd16) rfl (by kernel_rfl) (by kernel_rfl) (by kernel_rfl) (fun _ _ _ h => h) hH rfl ?yd16 ?rd16
          case yd16 => intro W hSw; go_simp; try with_reducible rfl
          try simp only [Act.put, List.setIfInBounds_toArray, List.set_cons_zero, List.set_cons_succ]
          refine takeH 17 (v := ?vd17) rfl (by kernel_rfl) (by kernel_rfl) (by kernel_rfl) (fun _ _ _ h => h) hH rfl ?yd17 ?rd17
          case yd17 => intro W hSw; go_simp; try with_reducible rfl
          try simp only [Act.put, List.setIfInBounds_toArray, List.set_cons_zero, List.set_cons_succ]
          refine takeH 18 (v := ?vd18) rfl (by kernel_rfl) (by kernel_rfl) (by kernel_rfl) (fun _ _ _ h => h) hH rfl ?yd18 ?rd18
          case yd18 => intro W hSw; go_simp; try with_reducible rfl
          try simp only [Act.put, List.setIfInBounds_toArray, List.set_cons_zero, List.set_cons_succ]
          refine takeH 19 (v := ?vd19) rfl (by kernel_rfl) (by kernel_rfl) (by kernel_rfl) (fun _ _ _ h => h) hH rfl ?yd19 ?rd19
          case yd19 => intro W hSw; go_simp; try with_reducible rfl
          try simp only [Act.put, List.setIfInBounds_toArray, List.set_cons_zero, List.set_cons_succ]
          refine callH 20 rfl (by kernel_rfl) rfl (fun K hK => ?_)
          go_simp
          go_at_call 56
          refine (HB.out _).mono ?_
          rintro e wx ⟨rfl, hbx⟩
          refine hK.out _ _ ⟨hH.1.trans (hbx.mono hH.1.size), (hbx.cell (p := ⟨b, off + k * 4, none⟩) (Hbs.out _ hH.1)).trans hH.2.1, (hbx.cell (p := ⟨b, off + k * 4 + 1, none⟩) (Hbs.out _ hH.1)).trans hH.2.2.1, (hbx.cell (p := ⟨b, off + k * 4 + 2, none⟩) (Hbs.out _ hH.1)).trans hH.2.2.2.1, (hbx.cell (p := ⟨b, off + k * 4 + 3, none⟩) (Hbs.out _ hH.1)).trans hH.2.2.2.2.1, (hbx.cell (p := ⟨b, off + (k - 1) * 4, none⟩) (Hbs.out _ hH.1)).trans hH.2.2.2.2.2.1, (hbx.cell (p := ⟨b, off + (k - 1) * 4 + 1, none⟩) (Hbs.out _ hH.1)).trans hH.2.2.2.2.2.2.1, (hbx.cell (p := ⟨b, off + (k - 1) * 4 + 2, none⟩) (Hbs.out _ hH.1)).trans hH.2.2.2.2.2.2.2.1, (hbx.cell (p := ⟨b, off + (k - 1) * 4 + 3, none⟩) (Hbs.out _ hH.1)).trans hH.2.2.2.2.2.2.2.2⟩ (fun hH => ?_)
          clear hK K
          try simp only [Act.put, List.setIfInBounds_toArray, List.set_cons_zero, List.set_cons_succ]
          refine takeH 21 (v := ?vd21) rfl (by kernel_rfl) (by kernel_rfl) (by kernel_rfl) (fun _ _ _ h => h) hH rfl ?yd21 ?rd21
          case yd21 => intro W hSw; go_simp; try with_reducible rfl
          try simp only [Act.put, List.setIfInBounds_toArray, List.set_cons_zero, List.set_cons_succ]
          refine takeH 22 (v := ?vd22) rfl (by kernel_rfl) (by kernel_rfl) (by kernel_rfl) (fun _ _ _ h => h) hH rfl ?yd22 ?rd22
          case yd22 => intro W hSw; go_simp; try with_reducible rfl
          try simp only [Act.put, List.setIfInBounds_toArray, List.set_cons_zero, List.set_cons_succ]
          refine takeH 23 (v := ?vd23) rfl (by kernel_rfl) (by kernel_rfl) (by kernel_rfl) (fun _ _ _ h => h) hH rfl ?yd23 ?rd23
          case yd23 => intro W hSw; go_simp; try with_reducible rfl
          try simp only [Act.put, List.setIfInBounds_toArray, List.set_cons_zero, List.set_cons_succ]
          refine takeH 24 (v := ?vd24) rfl (by kernel_rfl) (by kernel_rfl) (by kernel_rfl) (fun _ _ _ h => h) hH rfl ?yd24 ?rd24
          case yd24 => intro W hSw; go_simp; try with_reducible rfl
          try simp only [Act.put, List.setIfInBounds_toArray, List.set_cons_zero, List.set_cons_succ]
          refine skipH 25 rfl (by kernel_rfl) (by kernel_rfl) (by kernel_rfl) (fun _ _ _ h => h) hH rfl ?_
          try simp only [Act.put, List.setIfInBounds_toArray, List.set_cons_zero, List.set_cons_succ]
          refine skipH 26 rfl (by kernel_rfl) (by kernel_rfl) (by kernel_rfl) (fun _ _ _ h => h) hH rfl ?_
          try simp only [Act.put, List.setIfInBounds_toArray, List.set_cons_zero, List.set_cons_succ]
          refine skipH 27 rfl (by kernel_rfl) (by kernel_rfl) (by kernel_rfl) (fun _ _ _ h => h) hH rfl ?_
          try simp only [Act.put, List.setIfInBounds_toArray, List.set_cons_zero, List.set_cons_succ]
          refine skipH 28 rfl (by kernel_rfl) (by kernel_rfl) (by kernel_rfl) (fun _ _ _ h => h) hH rfl ?_
          try simp only [Act.put, List.setIfInBounds_toArray, List.set_cons_zero, List.set_cons_succ]
          refine skipH 29 rfl (by kernel_rfl) (by kernel_rfl) (by kernel_rfl) (fun _ _ _ h => h) hH rfl ?_
          try simp only [Act.put, List.setIfInBounds_toArray, List.set_cons_zero, List.set_cons_succ]
          refine skipH 30 rfl (by kernel_rfl) (by kernel_rfl) (by kernel_rfl) (fun _ _ _ h => h) hH rfl ?_
          try simp only [Act.put, List.setIfInBounds_toArray, List.set_cons_zero, List.set_cons_succ]
          refine skipH 31 rfl (by kernel_rfl) (by kernel_rfl) (by kernel_rfl) (fun _ _ _ h => h) hH rfl ?_
          try simp only [Act.put, List.setIfInBounds_toArray, List.set_cons_zero, List.set_cons_succ]
          refine takeH 32 (v := ?vd32) rfl (by kernel_rfl) (by kernel_rfl) (by kernel_rfl) (fun _ _ _ h => h) hH rfl ?yd32 ?rd32
          case yd32 => intro W hSw; go_simp; try with_reducible rfl
          try simp only [Act.put, List.setIfInBounds_toArray, List.set_cons_zero, List.set_cons_succ]
          refine wpAnyH_done (by kernel_rfl) ?_ _
          try simp only [Act.put]
          have hz := allB_no hlt (show okV c g k = false by rw [Hok.out, h2]; rfl)
          go_wp2
          go_ret
          exact ⟨ret_bool (by rw [Hres.out, hz]), below_step Hbel.out Hbel.out.size hH.1⟩
        | true =>
        rw [h2] at HB
        cases h3 : parB g ⟨xr, xa, xp, xd⟩ with
        | false =>
          rw [h3] at HQ
          go_wp2_with fail
          refine wp_region_held_drew (S := fun w' => Below wr.heap.size wr w' ∧ w'.cell? ⟨b, off + k * 4, none⟩ = some (.int .i64 xr) ∧ w'.cell? ⟨b, off + k * 4 + 1, none⟩ = some (.int .i64 xa) ∧ w'.cell? ⟨b, off + k * 4 + 2, none⟩ = some (.slice pa xp.length pc) ∧ w'.cell? ⟨b, off + k * 4 + 3, none⟩ = some (.int .i64 xd) ∧ w'.cell? ⟨b, off + (k - 1) * 4, none⟩ = some (.int .i64 yr) ∧ w'.cell? ⟨b, off + (k - 1) * 4 + 1, none⟩ = some (.int .i64 ya) ∧ w'.cell? ⟨b, off + (k - 1) * 4 + 2, none⟩ = some (.slice pa' yp.length pc') ∧ w'.cell? ⟨b, off + (k - 1) * 4 + 3, none⟩ = some (.int .i64 yd)) (by kernel_rfl) ⟨hb0, c0, c1, c2, c3, d0, d1, d2, d3⟩ (fun hH => ?_)
          refine takeH 0 (v := ?ve0) rfl (by kernel_rfl) (by kernel_rfl) (by kernel_rfl) (fun _ _ _ h => h) hH rfl ?ye0 ?re0
          case ye0 => intro W hSw; go_simp; try with_reducible rfl
          try simp only [Act.put, List.setIfInBounds_toArray, List.set_cons_zero, List.set_cons_succ]
          refine takeH 1 (v := ?ve1) rfl (by kernel_rfl) (by kernel_rfl) (by kernel_rfl) (fun _ _ _ h => h) hH rfl ?ye1 ?re1
          case ye1 => intro W hSw; go_simp; try with_reducible rfl
          try simp only [Act.put, List.setIfInBounds_toArray, List.set_cons_zero, List.set_cons_succ]
          refine takeH 2 (v := ?ve2) rfl (by kernel_rfl) (by kernel_rfl) (by kernel_rfl) (fun _ _ _ h => h) hH rfl ?ye2 ?re2
          case ye2 => intro W hSw; go_simp; try with_reducible rfl
          try simp only [Act.put, List.setIfInBounds_toArray, List.set_cons_zero, List.set_cons_succ]
          refine takeH 3 (v := ?ve3) rfl (by kernel_rfl) (by kernel_rfl) (by kernel_rfl) (fun _ _ _ h => h) hH rfl ?ye3 ?re3
          case ye3 => intro W hSw; go_simp; try with_reducible rfl
          try simp only [Act.put, List.setIfInBounds_toArray, List.set_cons_zero, List.set_cons_succ]
          refine takeH 4 (v := ?ve4) rfl (by kernel_rfl) (by kernel_rfl) (by kernel_rfl) (fun _ _ _ h => h) hH rfl ?ye4 ?re4
          case ye4 => intro W hSw; go_simp; try with_reducible rfl
          try simp only [Act.put, List.setIfInBounds_toArray, List.set_cons_zero, List.set_cons_succ]
          refine callH 5 rfl (by kernel_rfl) rfl (fun K hK => ?_)
          go_simp
          go_at_call 55
          refine (HV.out _ (Hc1.out.below hH.1) (Hi2.out.below hH.1)).mono ?_
          rintro e wx ⟨rfl, hbx⟩
          refine hK.out _ _ ⟨hH.1.trans (hbx.mono hH.1.size), (hbx.cell (p := ⟨b, off + k * 4, none⟩) (Hbs.out _ hH.1)).trans hH.2.1, (hbx.cell (p := ⟨b, off + k * 4 + 1, none⟩) (Hbs.out _ hH.1)).trans hH.2.2.1, (hbx.cell (p := ⟨b, off + k * 4 + 2, none⟩) (Hbs.out _ hH.1)).trans hH.2.2.2.1, (hbx.cell (p := ⟨b, off + k * 4 + 3, none⟩) (Hbs.out _ hH.1)).trans hH.2.2.2.2.1, (hbx.cell (p := ⟨b, off + (k - 1) * 4, none⟩) (Hbs.out _ hH.1)).trans hH.2.2.2.2.2.1, (hbx.cell (p := ⟨b, off + (k - 1) * 4 + 1, none⟩) (Hbs.out _ hH.1)).trans hH.2.2.2.2.2.2.1, (hbx.cell (p := ⟨b, off + (k - 1) * 4 + 2, none⟩) (Hbs.out _ hH.1)).trans hH.2.2.2.2.2.2.2.1, (hbx.cell (p := ⟨b, off + (k - 1) * 4 + 3, none⟩) (Hbs.out _ hH.1)).trans hH.2.2.2.2.2.2.2.2⟩ (fun hH => ?_)
          clear hK K
          try simp only [Act.put, List.setIfInBounds_toArray, List.set_cons_zero, List.set_cons_succ]
          refine takeH 6 (v := ?ve6) rfl (by kernel_rfl) (by kernel_rfl) (by kernel_rfl) (fun _ _ _ h => h) hH rfl ?ye6 ?re6
          case ye6 => intro W hSw; go_simp; try with_reducible rfl
          try simp only [Act.put, List.setIfInBounds_toArray, List.set_cons_zero, List.set_cons_succ]
          refine takeH 7 (v := ?ve7) rfl (by kernel_rfl) (by kernel_rfl) (by kernel_rfl) (fun _ _ _ h => h) hH rfl ?ye7 ?re7
          case ye7 => intro W hSw; go_simp; try with_reducible rfl
          try simp only [Act.put, List.setIfInBounds_toArray, List.set_cons_zero, List.set_cons_succ]
          refine takeH 8 (v := ?ve8) rfl (by kernel_rfl) (by kernel_rfl) (by kernel_rfl) (fun _ _ _ h => h) hH rfl ?ye8 ?re8
          case ye8 => intro W hSw; go_simp; try with_reducible rfl
          try simp only [Act.put, List.setIfInBounds_toArray, List.set_cons_zero, List.set_cons_succ]
          refine takeH 9 (v := .bool true) rfl (by kernel_rfl) (by kernel_rfl) (by kernel_rfl) (fun _ _ _ h => h) hH rfl ?ye9 ?re9
          case ye9 => intro W hSw; go_simp; first | done | simp only [hgt] | omega | (simp; omega)
          try simp only [Act.put, List.setIfInBounds_toArray, List.set_cons_zero, List.set_cons_succ]
          refine takeH 10 (v := ?ve10) rfl (by kernel_rfl) (by kernel_rfl) (by kernel_rfl) (fun _ _ _ h => h) hH rfl ?ye10 ?re10
          case ye10 => intro W hSw; go_simp; try with_reducible rfl
          try simp only [Act.put, List.setIfInBounds_toArray, List.set_cons_zero, List.set_cons_succ]
          refine takeH 11 (v := ?ve11) rfl (by kernel_rfl) (by kernel_rfl) (by kernel_rfl) (fun _ _ _ h => h) hH rfl ?ye11 ?re11
          case ye11 => intro W hSw; go_simp; try with_reducible rfl
          try simp only [Act.put, List.setIfInBounds_toArray, List.set_cons_zero, List.set_cons_succ]
          refine takeH 12 (v := ?ve12) rfl (by kernel_rfl) (by kernel_rfl) (by kernel_rfl) (fun _ _ _ h => h) hH rfl ?ye12 ?re12
          case ye12 => intro W hSw; go_simp; try with_reducible rfl
          try simp only [Act.put, List.setIfInBounds_toArray, List.set_cons_zero, List.set_cons_succ]
          refine takeH 13 (v := ?ve13) rfl (by kernel_rfl) (by kernel_rfl) (by kernel_rfl) (fun _ _ _ h => h) hH rfl ?ye13 ?re13
          case ye13 => intro W hSw; go_simp; try with_reducible rfl
          try simp only [Act.put, List.setIfInBounds_toArray, List.set_cons_zero, List.set_cons_succ]
          refine takeH 14 (v := ?ve14) rfl (by kernel_rfl) (by kernel_rfl) (by kernel_rfl) (fun _ _ _ h => h) hH rfl ?ye14 ?re14
          case ye14 => intro W hSw; go_simp; try with_reducible rfl
          try simp only [Act.put, List.setIfInBounds_toArray, List.set_cons_zero, List.set_cons_succ]
          refine takeH 15 (v := ?ve15) rfl (by kernel_rfl) (by kernel_rfl) (by kernel_rfl) (fun _ _ _ h => h) hH rfl ?ye15 ?re15
          case ye15 => intro W hSw; go_simp; try with_reducible rfl
          try simp only [Act.put, List.setIfInBounds_toArray, List.set_cons_zero, List.set_cons_succ]
          refine takeH 16 (v := ?ve16) rfl (by kernel_rfl) (by kernel_rfl) (by kernel_rfl) (fun _ _ _ h => h) hH rfl ?ye16 ?re16
          case ye16 => intro W hSw; go_simp; try with_reducible rfl
          try simp only [Act.put, List.setIfInBounds_toArray, List.set_cons_zero, List.set_cons_succ]
          refine takeH 17 (v := ?ve17) rfl (by kernel_rfl) (by kernel_rfl) (by kernel_rfl) (fun _ _ _ h => h) hH rfl ?ye17 ?re17
          case ye17 => intro W hSw; go_simp; try with_reducible rfl
          try simp only [Act.put, List.setIfInBounds_toArray, List.set_cons_zero, List.set_cons_succ]
          refine takeH 18 (v := ?ve18) rfl (by kernel_rfl) (by kernel_rfl) (by kernel_rfl) (fun _ _ _ h => h) hH rfl ?ye18 ?re18
          case ye18 => intro W hSw; go_simp; try with_reducible rfl
          try simp only [Act.put, List.setIfInBounds_toArray, List.set_cons_zero, List.set_cons_succ]
          refine takeH 19 (v := ?ve19) rfl (by kernel_rfl) (by kernel_rfl) (by kernel_rfl) (fun _ _ _ h => h) hH rfl ?ye19 ?re19
          case ye19 => intro W hSw; go_simp; try with_reducible rfl
          try simp only [Act.put, List.setIfInBounds_toArray, List.set_cons_zero, List.set_cons_succ]
          refine callH 20 rfl (by kernel_rfl) rfl (fun K hK => ?_)
          go_simp
          go_at_call 56
          refine (HB.out _).mono ?_
          rintro e wx ⟨rfl, hbx⟩
          refine hK.out _ _ ⟨hH.1.trans (hbx.mono hH.1.size), (hbx.cell (p := ⟨b, off + k * 4, none⟩) (Hbs.out _ hH.1)).trans hH.2.1, (hbx.cell (p := ⟨b, off + k * 4 + 1, none⟩) (Hbs.out _ hH.1)).trans hH.2.2.1, (hbx.cell (p := ⟨b, off + k * 4 + 2, none⟩) (Hbs.out _ hH.1)).trans hH.2.2.2.1, (hbx.cell (p := ⟨b, off + k * 4 + 3, none⟩) (Hbs.out _ hH.1)).trans hH.2.2.2.2.1, (hbx.cell (p := ⟨b, off + (k - 1) * 4, none⟩) (Hbs.out _ hH.1)).trans hH.2.2.2.2.2.1, (hbx.cell (p := ⟨b, off + (k - 1) * 4 + 1, none⟩) (Hbs.out _ hH.1)).trans hH.2.2.2.2.2.2.1, (hbx.cell (p := ⟨b, off + (k - 1) * 4 + 2, none⟩) (Hbs.out _ hH.1)).trans hH.2.2.2.2.2.2.2.1, (hbx.cell (p := ⟨b, off + (k - 1) * 4 + 3, none⟩) (Hbs.out _ hH.1)).trans hH.2.2.2.2.2.2.2.2⟩ (fun hH => ?_)
          clear hK K
          try simp only [Act.put, List.setIfInBounds_toArray, List.set_cons_zero, List.set_cons_succ]
          refine takeH 21 (v := ?ve21) rfl (by kernel_rfl) (by kernel_rfl) (by kernel_rfl) (fun _ _ _ h => h) hH rfl ?ye21 ?re21
          case ye21 => intro W hSw; go_simp; try with_reducible rfl
          try simp only [Act.put, List.setIfInBounds_toArray, List.set_cons_zero, List.set_cons_succ]
          refine takeH 22 (v := ?ve22) rfl (by kernel_rfl) (by kernel_rfl) (by kernel_rfl) (fun _ _ _ h => h) hH rfl ?ye22 ?re22
          case ye22 => intro W hSw; go_simp; try with_reducible rfl
          try simp only [Act.put, List.setIfInBounds_toArray, List.set_cons_zero, List.set_cons_succ]
          refine takeH 23 (v := ?ve23) rfl (by kernel_rfl) (by kernel_rfl) (by kernel_rfl) (fun _ _ _ h => h) hH rfl ?ye23 ?re23
          case ye23 => intro W hSw; go_simp; try with_reducible rfl
          try simp only [Act.put, List.setIfInBounds_toArray, List.set_cons_zero, List.set_cons_succ]
          refine takeH 24 (v := ?ve24) rfl (by kernel_rfl) (by kernel_rfl) (by kernel_rfl) (fun _ _ _ h => h) hH rfl ?ye24 ?re24
          case ye24 => intro W hSw; go_simp; try with_reducible rfl
          try simp only [Act.put, List.setIfInBounds_toArray, List.set_cons_zero, List.set_cons_succ]
          refine takeH 25 (v := ?ve25) rfl (by kernel_rfl) (by kernel_rfl) (by kernel_rfl) (fun _ _ _ h => h) hH rfl ?ye25 ?re25
          case ye25 => intro W hSw; go_simp; try with_reducible rfl
          try simp only [Act.put, List.setIfInBounds_toArray, List.set_cons_zero, List.set_cons_succ]
          refine takeH 26 (v := ?ve26) rfl (by kernel_rfl) (by kernel_rfl) (by kernel_rfl) (fun _ _ _ h => h) hH rfl ?ye26 ?re26
          case ye26 => intro W hSw; go_simp; try with_reducible rfl
          try simp only [Act.put, List.setIfInBounds_toArray, List.set_cons_zero, List.set_cons_succ]
          refine takeH 27 (v := ?ve27) rfl (by kernel_rfl) (by kernel_rfl) (by kernel_rfl) (fun _ _ _ h => h) hH rfl ?ye27 ?re27
          case ye27 => intro W hSw; go_simp; try with_reducible rfl
          try simp only [Act.put, List.setIfInBounds_toArray, List.set_cons_zero, List.set_cons_succ]
          refine takeH 28 (v := ?ve28) rfl (by kernel_rfl) (by kernel_rfl) (by kernel_rfl) (fun _ _ _ h => h) hH rfl ?ye28 ?re28
          case ye28 => intro W hSw; go_simp; try with_reducible rfl
          try simp only [Act.put, List.setIfInBounds_toArray, List.set_cons_zero, List.set_cons_succ]
          refine takeH 29 (v := ?ve29) rfl (by kernel_rfl) (by kernel_rfl) (by kernel_rfl) (fun _ _ _ h => h) hH rfl ?ye29 ?re29
          case ye29 => intro W hSw; go_simp; try with_reducible rfl
          try simp only [Act.put, List.setIfInBounds_toArray, List.set_cons_zero, List.set_cons_succ]
          refine callH 30 rfl (by kernel_rfl) rfl (fun K hK => ?_)
          go_simp
          go_at_call 57
          refine (HQ.out _ hrd.1 (by omega) (Hg1.out.under hH.1) (Hi2.out.below hH.1)).mono ?_
          rintro e wx ⟨rfl, hbx⟩
          refine hK.out _ _ ⟨hH.1.trans (hbx.mono hH.1.size), (hbx.cell (p := ⟨b, off + k * 4, none⟩) (Hbs.out _ hH.1)).trans hH.2.1, (hbx.cell (p := ⟨b, off + k * 4 + 1, none⟩) (Hbs.out _ hH.1)).trans hH.2.2.1, (hbx.cell (p := ⟨b, off + k * 4 + 2, none⟩) (Hbs.out _ hH.1)).trans hH.2.2.2.1, (hbx.cell (p := ⟨b, off + k * 4 + 3, none⟩) (Hbs.out _ hH.1)).trans hH.2.2.2.2.1, (hbx.cell (p := ⟨b, off + (k - 1) * 4, none⟩) (Hbs.out _ hH.1)).trans hH.2.2.2.2.2.1, (hbx.cell (p := ⟨b, off + (k - 1) * 4 + 1, none⟩) (Hbs.out _ hH.1)).trans hH.2.2.2.2.2.2.1, (hbx.cell (p := ⟨b, off + (k - 1) * 4 + 2, none⟩) (Hbs.out _ hH.1)).trans hH.2.2.2.2.2.2.2.1, (hbx.cell (p := ⟨b, off + (k - 1) * 4 + 3, none⟩) (Hbs.out _ hH.1)).trans hH.2.2.2.2.2.2.2.2⟩ (fun hH => ?_)
          clear hK K
          try simp only [Act.put, List.setIfInBounds_toArray, List.set_cons_zero, List.set_cons_succ]
          refine takeH 31 (v := ?ve31) rfl (by kernel_rfl) (by kernel_rfl) (by kernel_rfl) (fun _ _ _ h => h) hH rfl ?ye31 ?re31
          case ye31 => intro W hSw; go_simp; try with_reducible rfl
          try simp only [Act.put, List.setIfInBounds_toArray, List.set_cons_zero, List.set_cons_succ]
          refine takeH 32 (v := ?ve32) rfl (by kernel_rfl) (by kernel_rfl) (by kernel_rfl) (fun _ _ _ h => h) hH rfl ?ye32 ?re32
          case ye32 => intro W hSw; go_simp; try with_reducible rfl
          try simp only [Act.put, List.setIfInBounds_toArray, List.set_cons_zero, List.set_cons_succ]
          refine wpAnyH_done (by kernel_rfl) ?_ _
          try simp only [Act.put]
          have hz := allB_no hlt (show okV c g k = false by rw [Hok.out, h2, h3]; rfl)
          go_wp2
          go_ret
          exact ⟨ret_bool (by rw [Hres.out, hz]), below_step Hbel.out Hbel.out.size hH.1⟩
        | true =>
          rw [h3] at HQ
          go_wp2_with fail
          refine wp_region_held_drew (S := fun w' => Below wr.heap.size wr w' ∧ w'.cell? ⟨b, off + k * 4, none⟩ = some (.int .i64 xr) ∧ w'.cell? ⟨b, off + k * 4 + 1, none⟩ = some (.int .i64 xa) ∧ w'.cell? ⟨b, off + k * 4 + 2, none⟩ = some (.slice pa xp.length pc) ∧ w'.cell? ⟨b, off + k * 4 + 3, none⟩ = some (.int .i64 xd) ∧ w'.cell? ⟨b, off + (k - 1) * 4, none⟩ = some (.int .i64 yr) ∧ w'.cell? ⟨b, off + (k - 1) * 4 + 1, none⟩ = some (.int .i64 ya) ∧ w'.cell? ⟨b, off + (k - 1) * 4 + 2, none⟩ = some (.slice pa' yp.length pc') ∧ w'.cell? ⟨b, off + (k - 1) * 4 + 3, none⟩ = some (.int .i64 yd)) (by kernel_rfl) ⟨hb0, c0, c1, c2, c3, d0, d1, d2, d3⟩ (fun hH => ?_)
          refine takeH 0 (v := ?vf0) rfl (by kernel_rfl) (by kernel_rfl) (by kernel_rfl) (fun _ _ _ h => h) hH rfl ?yf0 ?rf0
          case yf0 => intro W hSw; go_simp; try with_reducible rfl
          try simp only [Act.put, List.setIfInBounds_toArray, List.set_cons_zero, List.set_cons_succ]
          refine takeH 1 (v := ?vf1) rfl (by kernel_rfl) (by kernel_rfl) (by kernel_rfl) (fun _ _ _ h => h) hH rfl ?yf1 ?rf1
          case yf1 => intro W hSw; go_simp; try with_reducible rfl
          try simp only [Act.put, List.setIfInBounds_toArray, List.set_cons_zero, List.set_cons_succ]
          refine takeH 2 (v := ?vf2) rfl (by kernel_rfl) (by kernel_rfl) (by kernel_rfl) (fun _ _ _ h => h) hH rfl ?yf2 ?rf2
          case yf2 => intro W hSw; go_simp; try with_reducible rfl
          try simp only [Act.put, List.setIfInBounds_toArray, List.set_cons_zero, List.set_cons_succ]
          refine takeH 3 (v := ?vf3) rfl (by kernel_rfl) (by kernel_rfl) (by kernel_rfl) (fun _ _ _ h => h) hH rfl ?yf3 ?rf3
          case yf3 => intro W hSw; go_simp; try with_reducible rfl
          try simp only [Act.put, List.setIfInBounds_toArray, List.set_cons_zero, List.set_cons_succ]
          refine takeH 4 (v := ?vf4) rfl (by kernel_rfl) (by kernel_rfl) (by kernel_rfl) (fun _ _ _ h => h) hH rfl ?yf4 ?rf4
          case yf4 => intro W hSw; go_simp; try with_reducible rfl
          try simp only [Act.put, List.setIfInBounds_toArray, List.set_cons_zero, List.set_cons_succ]
          refine callH 5 rfl (by kernel_rfl) rfl (fun K hK => ?_)
          go_simp
          go_at_call 55
          refine (HV.out _ (Hc1.out.below hH.1) (Hi2.out.below hH.1)).mono ?_
          rintro e wx ⟨rfl, hbx⟩
          refine hK.out _ _ ⟨hH.1.trans (hbx.mono hH.1.size), (hbx.cell (p := ⟨b, off + k * 4, none⟩) (Hbs.out _ hH.1)).trans hH.2.1, (hbx.cell (p := ⟨b, off + k * 4 + 1, none⟩) (Hbs.out _ hH.1)).trans hH.2.2.1, (hbx.cell (p := ⟨b, off + k * 4 + 2, none⟩) (Hbs.out _ hH.1)).trans hH.2.2.2.1, (hbx.cell (p := ⟨b, off + k * 4 + 3, none⟩) (Hbs.out _ hH.1)).trans hH.2.2.2.2.1, (hbx.cell (p := ⟨b, off + (k - 1) * 4, none⟩) (Hbs.out _ hH.1)).trans hH.2.2.2.2.2.1, (hbx.cell (p := ⟨b, off + (k - 1) * 4 + 1, none⟩) (Hbs.out _ hH.1)).trans hH.2.2.2.2.2.2.1, (hbx.cell (p := ⟨b, off + (k - 1) * 4 + 2, none⟩) (Hbs.out _ hH.1)).trans hH.2.2.2.2.2.2.2.1, (hbx.cell (p := ⟨b, off + (k - 1) * 4 + 3, none⟩) (Hbs.out _ hH.1)).trans hH.2.2.2.2.2.2.2.2⟩ (fun hH => ?_)
          clear hK K
          try simp only [Act.put, List.setIfInBounds_toArray, List.set_cons_zero, List.set_cons_succ]
          refine takeH 6 (v := ?vf6) rfl (by kernel_rfl) (by kernel_rfl) (by kernel_rfl) (fun _ _ _ h => h) hH rfl ?yf6 ?rf6
          case yf6 => intro W hSw; go_simp; try with_reducible rfl
          try simp only [Act.put, List.setIfInBounds_toArray, List.set_cons_zero, List.set_cons_succ]
          refine takeH 7 (v := ?vf7) rfl (by kernel_rfl) (by kernel_rfl) (by kernel_rfl) (fun _ _ _ h => h) hH rfl ?yf7 ?rf7
          case yf7 => intro W hSw; go_simp; try with_reducible rfl
          try simp only [Act.put, List.setIfInBounds_toArray, List.set_cons_zero, List.set_cons_succ]
          refine takeH 8 (v := ?vf8) rfl (by kernel_rfl) (by kernel_rfl) (by kernel_rfl) (fun _ _ _ h => h) hH rfl ?yf8 ?rf8
          case yf8 => intro W hSw; go_simp; try with_reducible rfl
          try simp only [Act.put, List.setIfInBounds_toArray, List.set_cons_zero, List.set_cons_succ]
          refine takeH 9 (v := .bool true) rfl (by kernel_rfl) (by kernel_rfl) (by kernel_rfl) (fun _ _ _ h => h) hH rfl ?yf9 ?rf9
          case yf9 => intro W hSw; go_simp; first | done | simp only [hgt] | omega | (simp; omega)
          try simp only [Act.put, List.setIfInBounds_toArray, List.set_cons_zero, List.set_cons_succ]
          refine takeH 10 (v := ?vf10) rfl (by kernel_rfl) (by kernel_rfl) (by kernel_rfl) (fun _ _ _ h => h) hH rfl ?yf10 ?rf10
          case yf10 => intro W hSw; go_simp; try with_reducible rfl
          try simp only [Act.put, List.setIfInBounds_toArray, List.set_cons_zero, List.set_cons_succ]
          refine takeH 11 (v := ?vf11) rfl (by kernel_rfl) (by kernel_rfl) (by kernel_rfl) (fun _ _ _ h => h) hH rfl ?yf11 ?rf11
          case yf11 => intro W hSw; go_simp; try with_reducible rfl
          try simp only [Act.put, List.setIfInBounds_toArray, List.set_cons_zero, List.set_cons_succ]
          refine takeH 12 (v := ?vf12) rfl (by kernel_rfl) (by kernel_rfl) (by kernel_rfl) (fun _ _ _ h => h) hH rfl ?yf12 ?rf12
          case yf12 => intro W hSw; go_simp; try with_reducible rfl
          try simp only [Act.put, List.setIfInBounds_toArray, List.set_cons_zero, List.set_cons_succ]
          refine takeH 13 (v := ?vf13) rfl (by kernel_rfl) (by kernel_rfl) (by kernel_rfl) (fun _ _ _ h => h) hH rfl ?yf13 ?rf13
          case yf13 => intro W hSw; go_simp; try with_reducible rfl
          try simp only [Act.put, List.setIfInBounds_toArray, List.set_cons_zero, List.set_cons_succ]
          refine takeH 14 (v := ?vf14) rfl (by kernel_rfl) (by kernel_rfl) (by kernel_rfl) (fun _ _ _ h => h) hH rfl ?yf14 ?rf14
          case yf14 => intro W hSw; go_simp; try with_reducible rfl
          try simp only [Act.put, List.setIfInBounds_toArray, List.set_cons_zero, List.set_cons_succ]
          refine takeH 15 (v := ?vf15) rfl (by kernel_rfl) (by kernel_rfl) (by kernel_rfl) (fun _ _ _ h => h) hH rfl ?yf15 ?rf15
          case yf15 => intro W hSw; go_simp; try with_reducible rfl
          try simp only [Act.put, List.setIfInBounds_toArray, List.set_cons_zero, List.set_cons_succ]
          refine takeH 16 (v := ?vf16) rfl (by kernel_rfl) (by kernel_rfl) (by kernel_rfl) (fun _ _ _ h => h) hH rfl ?yf16 ?rf16
          case yf16 => intro W hSw; go_simp; try with_reducible rfl
          try simp only [Act.put, List.setIfInBounds_toArray, List.set_cons_zero, List.set_cons_succ]
          refine takeH 17 (v := ?vf17) rfl (by kernel_rfl) (by kernel_rfl) (by kernel_rfl) (fun _ _ _ h => h) hH rfl ?yf17 ?rf17
          case yf17 => intro W hSw; go_simp; try with_reducible rfl
          try simp only [Act.put, List.setIfInBounds_toArray, List.set_cons_zero, List.set_cons_succ]
          refine takeH 18 (v := ?vf18) rfl (by kernel_rfl) (by kernel_rfl) (by kernel_rfl) (fun _ _ _ h => h) hH rfl ?yf18 ?rf18
          case yf18 => intro W hSw; go_simp; try with_reducible rfl
          try simp only [Act.put, List.setIfInBounds_toArray, List.set_cons_zero, List.set_cons_succ]
          refine takeH 19 (v := ?vf19) rfl (by kernel_rfl) (by kernel_rfl) (by kernel_rfl) (fun _ _ _ h => h) hH rfl ?yf19 ?rf19
          case yf19 => intro W hSw; go_simp; try with_reducible rfl
          try simp only [Act.put, List.setIfInBounds_toArray, List.set_cons_zero, List.set_cons_succ]
          refine callH 20 rfl (by kernel_rfl) rfl (fun K hK => ?_)
          go_simp
          go_at_call 56
          refine (HB.out _).mono ?_
          rintro e wx ⟨rfl, hbx⟩
          refine hK.out _ _ ⟨hH.1.trans (hbx.mono hH.1.size), (hbx.cell (p := ⟨b, off + k * 4, none⟩) (Hbs.out _ hH.1)).trans hH.2.1, (hbx.cell (p := ⟨b, off + k * 4 + 1, none⟩) (Hbs.out _ hH.1)).trans hH.2.2.1, (hbx.cell (p := ⟨b, off + k * 4 + 2, none⟩) (Hbs.out _ hH.1)).trans hH.2.2.2.1, (hbx.cell (p := ⟨b, off + k * 4 + 3, none⟩) (Hbs.out _ hH.1)).trans hH.2.2.2.2.1, (hbx.cell (p := ⟨b, off + (k - 1) * 4, none⟩) (Hbs.out _ hH.1)).trans hH.2.2.2.2.2.1, (hbx.cell (p := ⟨b, off + (k - 1) * 4 + 1, none⟩) (Hbs.out _ hH.1)).trans hH.2.2.2.2.2.2.1, (hbx.cell (p := ⟨b, off + (k - 1) * 4 + 2, none⟩) (Hbs.out _ hH.1)).trans hH.2.2.2.2.2.2.2.1, (hbx.cell (p := ⟨b, off + (k - 1) * 4 + 3, none⟩) (Hbs.out _ hH.1)).trans hH.2.2.2.2.2.2.2.2⟩ (fun hH => ?_)
          clear hK K
          try simp only [Act.put, List.setIfInBounds_toArray, List.set_cons_zero, List.set_cons_succ]
          refine takeH 21 (v := ?vf21) rfl (by kernel_rfl) (by kernel_rfl) (by kernel_rfl) (fun _ _ _ h => h) hH rfl ?yf21 ?rf21
          case yf21 => intro W hSw; go_simp; try with_reducible rfl
          try simp only [Act.put, List.setIfInBounds_toArray, List.set_cons_zero, List.set_cons_succ]
          refine takeH 22 (v := ?vf22) rfl (by kernel_rfl) (by kernel_rfl) (by kernel_rfl) (fun _ _ _ h => h) hH rfl ?yf22 ?rf22
          case yf22 => intro W hSw; go_simp; try with_reducible rfl
          try simp only [Act.put, List.setIfInBounds_toArray, List.set_cons_zero, List.set_cons_succ]
          refine takeH 23 (v := ?vf23) rfl (by kernel_rfl) (by kernel_rfl) (by kernel_rfl) (fun _ _ _ h => h) hH rfl ?yf23 ?rf23
          case yf23 => intro W hSw; go_simp; try with_reducible rfl
          try simp only [Act.put, List.setIfInBounds_toArray, List.set_cons_zero, List.set_cons_succ]
          refine takeH 24 (v := ?vf24) rfl (by kernel_rfl) (by kernel_rfl) (by kernel_rfl) (fun _ _ _ h => h) hH rfl ?yf24 ?rf24
          case yf24 => intro W hSw; go_simp; try with_reducible rfl
          try simp only [Act.put, List.setIfInBounds_toArray, List.set_cons_zero, List.set_cons_succ]
          refine takeH 25 (v := ?vf25) rfl (by kernel_rfl) (by kernel_rfl) (by kernel_rfl) (fun _ _ _ h => h) hH rfl ?yf25 ?rf25
          case yf25 => intro W hSw; go_simp; try with_reducible rfl
          try simp only [Act.put, List.setIfInBounds_toArray, List.set_cons_zero, List.set_cons_succ]
          refine takeH 26 (v := ?vf26) rfl (by kernel_rfl) (by kernel_rfl) (by kernel_rfl) (fun _ _ _ h => h) hH rfl ?yf26 ?rf26
          case yf26 => intro W hSw; go_simp; try with_reducible rfl
          try simp only [Act.put, List.setIfInBounds_toArray, List.set_cons_zero, List.set_cons_succ]
          refine takeH 27 (v := ?vf27) rfl (by kernel_rfl) (by kernel_rfl) (by kernel_rfl) (fun _ _ _ h => h) hH rfl ?yf27 ?rf27
          case yf27 => intro W hSw; go_simp; try with_reducible rfl
          try simp only [Act.put, List.setIfInBounds_toArray, List.set_cons_zero, List.set_cons_succ]
          refine takeH 28 (v := ?vf28) rfl (by kernel_rfl) (by kernel_rfl) (by kernel_rfl) (fun _ _ _ h => h) hH rfl ?yf28 ?rf28
          case yf28 => intro W hSw; go_simp; try with_reducible rfl
          try simp only [Act.put, List.setIfInBounds_toArray, List.set_cons_zero, List.set_cons_succ]
          refine takeH 29 (v := ?vf29) rfl (by kernel_rfl) (by kernel_rfl) (by kernel_rfl) (fun _ _ _ h => h) hH rfl ?yf29 ?rf29
          case yf29 => intro W hSw; go_simp; try with_reducible rfl
          try simp only [Act.put, List.setIfInBounds_toArray, List.set_cons_zero, List.set_cons_succ]
          refine callH 30 rfl (by kernel_rfl) rfl (fun K hK => ?_)
          go_simp
          go_at_call 57
          refine (HQ.out _ hrd.1 (by omega) (Hg1.out.under hH.1) (Hi2.out.below hH.1)).mono ?_
          rintro e wx ⟨rfl, hbx⟩
          refine hK.out _ _ ⟨hH.1.trans (hbx.mono hH.1.size), (hbx.cell (p := ⟨b, off + k * 4, none⟩) (Hbs.out _ hH.1)).trans hH.2.1, (hbx.cell (p := ⟨b, off + k * 4 + 1, none⟩) (Hbs.out _ hH.1)).trans hH.2.2.1, (hbx.cell (p := ⟨b, off + k * 4 + 2, none⟩) (Hbs.out _ hH.1)).trans hH.2.2.2.1, (hbx.cell (p := ⟨b, off + k * 4 + 3, none⟩) (Hbs.out _ hH.1)).trans hH.2.2.2.2.1, (hbx.cell (p := ⟨b, off + (k - 1) * 4, none⟩) (Hbs.out _ hH.1)).trans hH.2.2.2.2.2.1, (hbx.cell (p := ⟨b, off + (k - 1) * 4 + 1, none⟩) (Hbs.out _ hH.1)).trans hH.2.2.2.2.2.2.1, (hbx.cell (p := ⟨b, off + (k - 1) * 4 + 2, none⟩) (Hbs.out _ hH.1)).trans hH.2.2.2.2.2.2.2.1, (hbx.cell (p := ⟨b, off + (k - 1) * 4 + 3, none⟩) (Hbs.out _ hH.1)).trans hH.2.2.2.2.2.2.2.2⟩ (fun hH => ?_)
          clear hK K
          try simp only [Act.put, List.setIfInBounds_toArray, List.set_cons_zero, List.set_cons_succ]
          refine takeH 31 (v := ?vf31) rfl (by kernel_rfl) (by kernel_rfl) (by kernel_rfl) (fun _ _ _ h => h) hH rfl ?yf31 ?rf31
          case yf31 => intro W hSw; go_simp; try with_reducible rfl
          try simp only [Act.put, List.setIfInBounds_toArray, List.set_cons_zero, List.set_cons_succ]
          refine takeH 32 (v := ?vf32) rfl (by kernel_rfl) (by kernel_rfl) (by kernel_rfl) (fun _ _ _ h => h) hH rfl ?yf32 ?rf32
          case yf32 => intro W hSw; go_simp; try with_reducible rfl
          try simp only [Act.put, List.setIfInBounds_toArray, List.set_cons_zero, List.set_cons_succ]
          refine wpAnyH_done (by kernel_rfl) ?_ _
          try simp only [Act.put]
          go_wp2
          go_roundw
          case rel => exact ⟨k + 1, by omega, by go_num, upto_step Hup.out (by rw [Hok.out, h2, h3]; rfl), below_step Hbel.out Hbel.out.size hH.1⟩
          case measure => simp [intOf]; omega
    · have hz := allB_yes hup (n := g.length) (by omega)
      have Hbel := Lib.hid hbel; clear hbel
      go_wp2
      go_ret
      exact ⟨ret_bool (by rw [Hres.out, hz]), Hbel.out⟩

end Go.Proofs.Yteglefchkecfjab

/- Appending one number as an operation of a region, and where the new slice lies; nothing here speaks of the program. -/
namespace Go.Proofs.Yteglefchkecfjab
open Go.RowKit

/-- 'append(s, z)' as an operation of a region, and where the new slice lies. -/
theorem op_push_at {P : Program} {T E : TypeId} (hT : IntT P T E) (w : World) {o : Oper} {a : Act} {K : Act → World → Prop} {Q : Exit → Act → World → Prop} (s x : Operand)
    (ho : o.op = .call { callee := .builtin .append, args := #[s, x], argTypes := #[T, T] }) (B : Nat) (v : Value) (xs : List Int) (z : Int) (hs : a.eval s = v) (hown : Own E w B v xs)
    (hlen : xs.length ≤ 1099511627776) (hx : a.eval x = .slice (some ⟨w.heap.size, 0, none⟩) 1 1) (hB : B ≤ w.heap.size)
    (h : ∀ v' w', Own E w' B v' (xs ++ [z]) → w.grownBy w' v.ownBlock → (v'.ownBlock = v.ownBlock ∨ ∃ g, v'.ownBlock = some g ∧ w.heap.size ≤ g) → K (a.put o.dst v') w') : Oper.wp P o a (w.alloc (.cells #[.int .i64 z] E)) K Q := by
  obtain ⟨i, hi, hz, hsz, hby⟩ := info_parts hT.info
  obtain ⟨v', w', hr, h1, h2, _, h4⟩ := run_append_own_at (P := P) (w.alloc (.cells #[.int .i64 z] E)) B T o.type E i (.int .i64 0) 1 8 hT.sl hi hz hsz hby rfl (by decide) v xs.length _ (World.ownsRow.alloc hown _) ⟨w.heap.size, 0, none⟩ 1 1 [.int .i64 z] rfl (cells_one _ _ _) (by intro u hu; simp at hu; subst hu; rfl) (by unfold maxLen; omega) (by omega) (by simp; omega)
  unfold Oper.wp execOp
  simp only [ho, resolve, invoke, builtin, Sem.run_bind, Sem.run_pure, Result.andThen_ok, List.map_toArray, List.map_cons, List.map_nil, hs, hx, hr]
  refine h v' w' ?_ (grownBy_trans (World.grownBy_alloc _ _ _) h2) ?_
  · unfold Own; simpa using h1
  · rcases h4 with h4 | h4
    · exact .inl h4
    · exact .inr ⟨_, h4, by simp⟩

end Go.Proofs.Yteglefchkecfjab

/- The reference's copies of vertices and graphs, their sameness, the authors of a round, each by a walk of its text; conditions: lists are shorter than 2^40 (a graph that is copied: 2^20). -/
namespace Go.Proofs.Yteglefchkecfjab
open Go.RowKit

theorem TIg : IntT Try.prog 23 3 := ⟨Try.underlying23, by kernel_rfl⟩

theorem SrcAt.under {w w' : World} {a : Option Addr} {c : Nat} {xs : List Int} (h : SrcAt w a c xs) (hi : IntsAt w a xs) (hb : Below w.heap.size w w') : SrcAt w' a c xs := by
  rcases h with h | ⟨ad, rfl, hc⟩
  · exact .inl h
  · refine .inr ⟨ad, rfl, fun j hj => ?_⟩
    obtain ⟨b, off, e, hbb, _⟩ := hi.cell (by omega)
    cases e
    have := hc j hj
    rw [addr_add'] at this ⊢
    exact (hb.cell (p := ⟨b, off + j, none⟩) hbb).trans this

set_option maxHeartbeats 1000000 in
theorem spec_l11One (r a d : Int) (pa : Option Addr) (pc : Nat) (ps : List Int) (w : World) (hbp : ps.length ≤ 1099511627776) (hs : SrcAt w pa pc ps) (hi : IntsAt w pa ps) :
    Calls Try.prog 110 #[.agg #[.int .i64 r, .int .i64 a, .slice pa ps.length pc, .int .i64 d]] w fun e w' => ∃ v, e = .returned (.agg #[.int .i64 r, .int .i64 a, v, .int .i64 d]) ∧ Own 3 w' w.heap.size v ps ∧ Below w.heap.size w w' := by
  have hbW : Below w.heap.size w ((w.alloc (.cells #[.int .i64 r, .int .i64 a, .slice pa ps.length pc, .int .i64 d] 30)).alloc (.cells #[.int .i64 0, .int .i64 0, .slice none 0 0, .int .i64 0] 30)) := ((Below.refl _ w).alloc (Nat.le_refl _) _).alloc (by simp) _
  have hb2 : Below w.heap.size w (((w.alloc (.cells #[.int .i64 r, .int .i64 a, .slice pa ps.length pc, .int .i64 d] 30)).alloc (.cells #[.int .i64 0, .int .i64 0, .slice none 0 0, .int .i64 0] 30)).alloc (.cells #[] 3)) := hbW.alloc (by simp; omega) _
  have s0 := ((Str.new w 30 #[.int .i64 r, .int .i64 a, .slice pa ps.length pc, .int .i64 d]).alloc (.cells #[.int .i64 0, .int .i64 0, .slice none 0 0, .int .i64 0] 30)).alloc (.cells #[] 3)
  have s1 := (Str.new (w.alloc (.cells #[.int .i64 r, .int .i64 a, .slice pa ps.length pc, .int .i64 d] 30)) 30 #[.int .i64 0, .int .i64 0, .slice none 0 0, .int .i64 0]).alloc (.cells #[] 3)
  have ho := own_empty 3 ((w.alloc (.cells #[.int .i64 r, .int .i64 a, .slice pa ps.length pc, .int .i64 d] 30)).alloc (.cells #[.int .i64 0, .int .i64 0, .slice none 0 0, .int .i64 0] 30)) (Nat.le_refl _)
  have hsrc : SrcAt (((w.alloc (.cells #[.int .i64 r, .int .i64 a, .slice pa ps.length pc, .int .i64 d] 30)).alloc (.cells #[.int .i64 0, .int .i64 0, .slice none 0 0, .int .i64 0] 30)).alloc (.cells #[] 3)) pa pc ps := by
    rcases hs with h | ⟨ad, rfl, hc⟩
    · exact .inl h
    · refine .inr ⟨ad, rfl, fun j hj => ?_⟩
      obtain ⟨b, off, e, hb, _⟩ := hi.cell (by omega)
      cases e
      have := hc j hj
      rw [addr_add'] at this ⊢
      exact (hb2.cell (p := ⟨b, off + j, none⟩) hb).trans this
  have hz : ((w.alloc (.cells #[.int .i64 r, .int .i64 a, .slice pa ps.length pc, .int .i64 d] 30)).alloc (.cells #[.int .i64 0, .int .i64 0, .slice none 0 0, .int .i64 0] 30)).heap.size = w.heap.size + 2 := by simp
  have hzs : (((w.alloc (.cells #[.int .i64 r, .int .i64 a, .slice pa ps.length pc, .int .i64 d] 30)).alloc (.cells #[.int .i64 0, .int .i64 0, .slice none 0 0, .int .i64 0] 30)).alloc (.cells #[] 3)).heap.size = w.heap.size + 3 := by simp
  have hz1 : (w.alloc (.cells #[.int .i64 r, .int .i64 a, .slice pa ps.length pc, .int .i64 d] 30)).heap.size = w.heap.size + 1 := by simp
  rw [hz1] at s1
  rw [hz] at ho
  have k2 := s0.cell 2 (v := .slice pa ps.length pc) rfl
  have Ho := Lib.hid ho
  have Hs0 := Lib.hid s0
  have Hs1 := Lib.hid s1
  have Hsrc := Lib.hid hsrc
  have Hb2 := Lib.hid hb2
  clear ho s0 s1 hsrc hb2 hbW hs hi hz hz1
  go_enter Try.func110, Try.ntmps110
  go_wp2_with (at_builtin; refine wpList_appI TIg rfl (.tmp 3) (.tmp 5) rfl (w.heap.size + 2) (.slice (some ⟨w.heap.size + 2, 0, none⟩) 0 0) [] ps _ _ rfl Ho.out rfl Hsrc.out (by simp; omega) (by rw [hzs]; omega) ?_; intro v5 w5 hown hg5; (rw [List.nil_append] at hown); (generalize ((w.alloc (.cells #[.int .i64 r, .int .i64 a, .slice pa ps.length pc, .int .i64 d] 30)).alloc (.cells #[.int .i64 0, .int .i64 0, .slice none 0 0, .int .i64 0] 30)).alloc (.cells #[] 3) = W2 at *); (have t0 := Hs0.out.kept hg5 (by simp [Value.ownBlock])); (have t1 := Hs1.out.kept hg5 (by simp [Value.ownBlock])); (have Hlt := Lib.hid hown.lt); (have Hown := Lib.hid hown); (have Hb5 := Lib.hid (Hb2.out.grown hg5 (by omega) (fun g e => by have := (Ho.out.lt g e).1; omega))); (obtain ⟨a5, c5, rfl, _, _⟩ := Hown.out.ints); (clear hown hg5 hzs Ho Hs0 Hs1 Hsrc Hb2 k2); (have k0 := t0.cell 0 (v := .int .i64 r) rfl); (have k1 := t0.cell 1 (v := .int .i64 a) rfl); (have k2 := t0.cell 2 (v := .slice pa ps.length pc) rfl); (have k3 := t0.cell 3 (v := .int .i64 d) rfl); (have f2 := t0.frozen 2); (have j0 := t1.cell 0 (v := .int .i64 0) rfl); (have j1 := t1.cell 1 (v := .int .i64 0) rfl); (have j2 := t1.cell 2 (v := .slice none 0 0) rfl); (have j3 := t1.cell 3 (v := .int .i64 0) rfl); (have g0 := t1.frozen 0); (have g1 := t1.frozen 1); (have g2 := t1.frozen 2); (have g3 := t1.frozen 3); (have hne : w.heap.size + 1 ≠ w.heap.size := by omega); (have u := ((((t1.other hne 2 (.slice a5 ps.length c5)).set 0 (.int .i64 r)).set 1 (.int .i64 a)).set 2 (.slice a5 ps.length c5)).set 3 (.int .i64 d)); (have e0 := u.cell 0 (v := .int .i64 r) rfl); (have e1 := u.cell 1 (v := .int .i64 a) rfl); (have e2 := u.cell 2 (v := .slice a5 ps.length c5) rfl); (have e3 := u.cell 3 (v := .int .i64 d) rfl); (clear u t0 t1))
  refine bodyPost_ret (v := .agg #[.int .i64 r, .int .i64 a, .slice a5 ps.length c5, .int .i64 d]) (by simp [results, Try.f110, go_sem, e0, e1, e2, e3]) rfl ?_
  have n1 : (Value.slice a5 ps.length c5).ownBlock ≠ some (w.heap.size) := fun e => by have := Hlt.out _ e; omega
  have n2 : (Value.slice a5 ps.length c5).ownBlock ≠ some (w.heap.size + 1) := fun e => by have := Hlt.out _ e; omega
  exact ⟨_, rfl, ((((((Hown.out.mono (by omega)).set_other n1 2 _).set_other n2 0 _).set_other n2 1 _).set_other n2 2 _).set_other n2 3 _), (((((Hb5.out.setCell (p := ⟨w.heap.size, 2, none⟩) (by simp only; omega) _).setCell (p := ⟨w.heap.size + 1, 0, none⟩) (by simp only; omega) _).setCell (p := ⟨w.heap.size + 1, 1, none⟩) (by simp only; omega) _).setCell (p := ⟨w.heap.size + 1, 2, none⟩) (by simp only; omega) _).setCell (p := ⟨w.heap.size + 1, 3, none⟩) (by simp only; omega) _)⟩

set_option maxHeartbeats 1000000 in
theorem spec_l11Copy (g : List Vx) (v : Value) (fp : List Nat) (w : World) (hbig : g.length ≤ 1048576) (hps : ∀ x ∈ g, x.ps.length ≤ 1099511627776) (hr : Gr w g v fp) :
    Calls Try.prog 115 #[v] w fun e w' => ∃ u, e = .returned u ∧ OwnR 30 3 4 w' w.heap.size w'.heap.size u (g.map Vx.fd) ∧ Below w.heap.size w w' := by
  obtain ⟨va, vc, rfl⟩ := hr.slice
  have hb0 : Below w.heap.size w (w.alloc (.cells #[] 30)) := (Below.refl _ _).alloc (Nat.le_refl _) _
  have hv0 : OwnR 30 3 4 (w.alloc (.cells #[] 30)) w.heap.size (w.alloc (.cells #[] 30)).heap.size (.slice (some ⟨w.heap.size, 0, none⟩) 0 0) [] := .nil (World.ownsRow_made w #[] 0 (Nat.le_refl _) (by simp) (by simp)) (fun g e => by cases e; simp)
  have Hv0 := Lib.hid hv0; clear hv0
  have Hr := Lib.hid hr; clear hr
  have HP := Lib.hid hps; clear hps
  go_enter Try.func115, Try.ntmps115
  go_wp2_with fail
  go_loopw [3, 4] (fun u i wr => ∃ k : Nat, k ≤ g.length ∧ i = .int .i64 k ∧ OwnR 30 3 4 wr w.heap.size wr.heap.size u ((g.take k).map Vx.fd) ∧ Below w.heap.size w wr) (fun _ i _ => g.length - (intOf i).toNat)
  case atStart => exact ⟨0, Nat.zero_le _, rfl, by simpa using Hv0.out, hb0⟩
  case round =>
    obtain ⟨k, hk, rfl, hbld, hbel⟩ := hrel
    have Hbld := Lib.hid hbld; clear hbld
    have Hbel := Lib.hid hbel; clear hbel
    by_cases hlt : k < g.length
    · obtain ⟨b, off, rfl, hb, hat⟩ := (Hr.out.under Hbel.out).at (by omega)
      obtain ⟨q0, q1, ⟨pa, pc, q2, i2, s2⟩, q3⟩ := hat k hlt
      have hps := HP.out _ (List.getElem_mem hlt)
      have Hex := Lib.hid (show (g.take (k + 1)).map Vx.fd = (g.take k).map Vx.fd ++ [[.i g[k].r, .i g[k].a, .l g[k].ps, .i g[k].d]] by rw [List.take_succ_eq_append_getElem hlt, List.map_append]; rfl)
      have hel : ((g.take k).map Vx.fd).length ≤ 1048576 := by simp; omega
      have Hcall := Lib.hid (spec_l11One g[k].r g[k].a g[k].d pa pc g[k].ps wr hps s2 i2)
      clear hat s2 i2 hps
      generalize (g.take k).map Vx.fd = es at *
      generalize g[k] = x at *
      obtain ⟨xr, xa, xp, xd⟩ := x
      dsimp only at *
      go_wp2_with fail
      refine Hcall.out.mono ?_
      rintro e w6 ⟨v2, rfl, hown2, hb6⟩
      obtain ⟨a2, c2, rfl, _, _⟩ := hown2.ints
      have hbw6 := below_step Hbel.out Hbel.out.size hb6
      have hB6 := hbw6.size
      have hs6 := hb6.size
      have Hbld6 := Lib.hid (Hbld.out.below hb6 (Nat.le_refl _))
      obtain ⟨hfd, hap, hnew⟩ := vertex_new (B := w.heap.size) xr xa xd hown2 Hbel.out.size
      have Hfd := Lib.hid hfd; clear hfd
      have Hap := Lib.hid hap; clear hap
      have Hnew := Lib.hid hnew; clear hnew hown2 q0 q1 q2 q3
      go_wp2_with (at_builtin; refine wpList_push_own (Ei := 3) Try.underlying24 vertex_inf rfl (by decide) (by decide) rfl (.tmp 12) (.tmp 18) rfl w.heap.size _ es _ _ _ rfl rfl (by intro u hu; simp at hu; rcases hu with rfl | rfl | rfl | rfl <;> rfl) rfl rfl Hfd.out Hap.out wr.heap.size Hbld6.out hs6 Hnew.out hel rfl hB6 ?_; intro v8 w8 hbld8 hg8 hat8)
      go_roundw
      case rel => exact ⟨k + 1, by omega, by go_num, by rw [Hex.out]; exact hbld8, hbw6.grown hg8 hB6 (fun g e => (Hbld.out.lt g e).1)⟩
      case measure => simp [intOf]; omega
    · have hke : k = g.length := by omega
      subst hke
      rw [List.take_length] at Hbld
      go_wp2
      go_ret
      exact ⟨_, rfl, Hbld.out, Hbel.out⟩

def authP (r : Int) (x : Vx) : Bool := decide (x.r = r)
/-- The authors of a round. -/
def authZ (g : List Vx) (r : Int) : List Int := (g.filter (authP r)).map (·.a)
theorem authZ_len (g : List Vx) (r : Int) : (authZ g r).length ≤ g.length := by unfold authZ; rw [List.length_map]; exact List.length_filter_le _ _
theorem authZ_yes {g : List Vx} {r : Int} {k : Nat} (hk : k < g.length) (h : g[k].r = r) : authZ (g.take (k + 1)) r = authZ (g.take k) r ++ [g[k].a] := by
  unfold authZ; rw [List.take_succ_eq_append_getElem hk, List.filter_append, List.map_append]; simp [authP, h]
theorem authZ_no {g : List Vx} {r : Int} {k : Nat} (hk : k < g.length) (h : ¬ g[k].r = r) : authZ (g.take (k + 1)) r = authZ (g.take k) r := by
  unfold authZ; rw [List.take_succ_eq_append_getElem hk, List.filter_append, List.map_append]; simp [authP, h]
theorem spec_l11Authors (g : List Vx) (v : Value) (fp : List Nat) (r : Int) (w : World) (hbig : g.length ≤ 1099511627776) (hr : Gr w g v fp) :
    Calls Try.prog 65 #[v, .int .i64 r] w fun e w' => ∃ u, e = .returned u ∧ Own 3 w' w.heap.size u (authZ g r) ∧ Below w.heap.size w w' := by
  obtain ⟨va, vc, rfl⟩ := hr.slice
  have hb0 : Below w.heap.size w (w.alloc (.cells #[] 3)) := (Below.refl _ _).alloc (Nat.le_refl _) _
  have Hr := Lib.hid hr; clear hr
  go_enter Try.func65, Try.ntmps65
  go_wp2_with fail
  go_loopw [5, 6] (fun u i wr => ∃ k : Nat, k ≤ g.length ∧ i = .int .i64 k ∧ Own 3 wr w.heap.size u (authZ (g.take k) r) ∧ Below w.heap.size w wr) (fun _ i _ => g.length - (intOf i).toNat)
  case atStart => exact ⟨0, Nat.zero_le _, rfl, own_empty _ _ (Nat.le_refl _), hb0⟩
  case round =>
    obtain ⟨k, hk, rfl, hown, hbel⟩ := hrel
    have Hown := Lib.hid hown; clear hown
    have Hbel := Lib.hid hbel; clear hbel
    by_cases hlt : k < g.length
    · obtain ⟨b, off, rfl, hb, hat⟩ := (Hr.out.under Hbel.out).at (by omega)
      obtain ⟨q0, q1, _, _⟩ := hat k hlt
      clear hat
      by_cases e : g[k].r = r
      · have Hs := Lib.hid (authZ_yes hlt e)
        have e1 : (g[k].r == r) = true := by simpa using e
        have hl := authZ_len (g.take k) r
        rw [List.length_take] at hl
        have hB := Hbel.out.size
        clear e
        generalize authZ (g.take k) r = out at *
        generalize g[k].a = x at *
        generalize g[k].r = y at *
        go_wp2_with (at_builtin; refine wpList_push TIg rfl (.tmp 21) (.tmp 27) rfl w.heap.size _ out _ rfl Hown.out (by omega) rfl hB ?_; intro v8 w8 hown8 hg8)
        go_roundw
        case rel => exact ⟨k + 1, by omega, by go_num, by rw [Hs.out]; exact hown8, Hbel.out.grown hg8 hB (fun g e => (Hown.out.lt g e).1)⟩
        case measure => simp [intOf]; omega
      · have Hs := Lib.hid (authZ_no hlt e)
        have e1 : (g[k].r == r) = false := by simpa using e
        clear e
        go_wp2
        go_roundw
        case rel => exact ⟨k + 1, by omega, by go_num, by rw [Hs.out]; exact Hown.out, Hbel.out⟩
        case measure => simp [intOf]; omega
    · have hke : k = g.length := by omega
      subst hke
      rw [List.take_length] at Hown
      go_wp2
      go_ret
      exact ⟨_, rfl, Hown.out, Hbel.out⟩

def gfZ (c : List Int) (g : List Vx) (r a : Int) : Int := if graphB c g = true then findZ g r a else -1
def gaZ (c : List Int) (g : List Vx) (r : Int) : List Int := if graphB c g = true then authZ g r else []
theorem spec_GraphAuthors (ac : Option Addr) (capc : Nat) (c : List Int) (g : List Vx) (v : Value) (fp : List Nat) (r : Int) (w : World) (hn : c.length ≤ 1099511627776) (hbig : g.length ≤ 1099511627776) (hps : ∀ x ∈ g, x.ps.length ≤ 1099511627776) (hc : IntsAt w ac c) (hg : Gr w g v fp) :
    Calls Try.prog 22 #[.slice ac c.length capc, v, .int .i64 r] w fun e w' => ∃ u, e = .returned u ∧ Own 3 w' w.heap.size u (gaZ c g r) ∧ Below w.heap.size w w' := by
  have hV := spec_GraphValid ac capc c g v fp w hn hbig hps hc hg
  have HF := Lib.hid (fun W (h : Gr W g v fp) => spec_l11Authors g v fp r W hbig h)
  have Hg := Lib.hid hg; clear hg
  cases hb : graphB c g with
  | false =>
    rw [hb] at hV
    have hz : gaZ c g r = [] := by unfold gaZ; rw [hb]; rfl
    have HV := Lib.hid hV; clear hV
    rw [hz]
    clear hz
    go_enter Try.func22, Try.ntmps22
    go_wp2_with fail
    refine HV.out.mono ?_
    rintro e w1 ⟨rfl, hb1⟩
    go_wp2
    go_ret
    exact ⟨_, rfl, own_empty _ _ hb1.size, hb1.alloc hb1.size _⟩
  | true =>
    rw [hb] at hV
    have hz : gaZ c g r = authZ g r := by unfold gaZ; rw [hb]; rfl
    have HV := Lib.hid hV; clear hV
    rw [hz]
    clear hz
    go_enter Try.func22, Try.ntmps22
    go_wp2_with fail
    refine HV.out.mono ?_
    rintro e w1 ⟨rfl, hb1⟩
    go_wp2_with fail
    refine (HF.out w1 (Hg.out.under hb1)).mono ?_
    rintro e w2 ⟨u, rfl, ho, hb2⟩
    have Ho := Lib.hid (ho.mono hb1.size)
    have Hb := Lib.hid (below_step hb1 hb1.size hb2)
    clear ho hb1 hb2
    go_wp2
    go_ret
    exact ⟨_, rfl, Ho.out, Hb.out⟩

end Go.Proofs.Yteglefchkecfjab

/- Parts of a list that reads as data: its head and its tail; general steps, nothing here speaks of the program. -/
namespace Go.Proofs.Yteglefchkecfjab
open Go.RowKit

theorem Rd.cut {w : World} {es : List (List Dt)} {g off n cap sz : Nat} {fp : List Nat} (h : Rd w (.l es) (.slice (some ⟨g, off, none⟩) n cap) fp) (hsz : ∀ e ∈ es, e.length = sz) (k m o2 cap2 : Nat) (hk : k + m ≤ es.length) (ho : 0 < m → o2 = off + k * sz) (hcap2 : k + m ≤ cap → m ≤ cap2) :
    ∃ fp', Rd w (.l ((es.drop k).take m)) (.slice (some ⟨g, o2, none⟩) m cap2) fp' ∧ ∀ r ∈ fp', r ∈ fp := by
  rcases Nat.eq_zero_or_pos m with h0 | h0
  · subst h0
    exact ⟨[], by rw [List.take_zero]; exact .nil _ _ (fun e => by cases e), by simp⟩
  · generalize hd : Dt.l es = d at h
    generalize hv : Value.slice (some ⟨g, off, none⟩) n cap = v at h
    cases h with
    | i n => cases hd
    | b x => cases hd
    | s t => cases hd
    | nil a cap hn => cases hd; simp at hk; omega
    | l sz' es' g' off' cap' V F hne' hsz' hcap hgl hc hrd =>
      cases hd
      simp only [Value.slice.injEq, Option.some.injEq, Addr.mk.injEq, and_true] at hv
      obtain ⟨⟨rfl, rfl⟩, rfl, rfl⟩ := hv
      have hss : sz' = sz := by
        have h0 := List.getElem_mem hne'
        rw [← hsz' _ h0, hsz _ h0]
      subst hss
      have hl : ((es.drop k).take m).length = m := by rw [List.length_take, List.length_drop]; omega
      have hget : ∀ i (hi : i < ((es.drop k).take m).length) (hi' : k + i < es.length), ((es.drop k).take m)[i] = es[k + i] := by
        intro i hi hi'
        rw [List.getElem_take, List.getElem_drop]
      have := Rd.l (w := w) sz' ((es.drop k).take m) g o2 cap2 (fun i j => V (k + i) j) (fun i j => F (k + i) j) (by omega) (fun e he => hsz' e (List.mem_of_mem_drop (List.mem_of_mem_take he))) (by rw [hl]; exact hcap2 (by omega)) hgl
        (fun i j hi hj => by
          rw [ho h0, show off + k * sz' + (i * sz' + j) = off + ((k + i) * sz' + j) by rw [Nat.add_mul]; omega]
          exact hc (k + i) j (by omega) hj)
        (fun i j hi hj => by
          have hi' : k + i < es.length := by omega
          have e := hget i hi hi'
          simp only [e] at hj ⊢
          exact hrd (k + i) j hi' hj)
      rw [hl] at this
      refine ⟨_, this, fun r hr => ?_⟩
      rcases List.mem_cons.1 hr with rfl | hr
      · simp
      · obtain ⟨i, hi, hr⟩ := List.mem_flatMap.1 hr
        obtain ⟨j, hj, hr⟩ := List.mem_flatMap.1 hr
        rw [List.mem_range] at hi hj
        exact List.mem_cons_of_mem _ (List.mem_flatMap.2 ⟨k + i, List.mem_range.2 (by omega), List.mem_flatMap.2 ⟨j, List.mem_range.2 hj, hr⟩⟩)
theorem Rd.lens {w : World} {es : List (List Dt)} {a : Option Addr} {n cap : Nat} {fp : List Nat} (h : Rd w (.l es) (.slice a n cap) fp) : n = es.length := by
  obtain ⟨a', c', e⟩ := Rd.slice h
  cases e; rfl
/-- The tail of a list, and where it lies. -/
theorem Rd.tail {w : World} {es : List (List Dt)} {g off n cap sz : Nat} {fp : List Nat} (h : Rd w (.l es) (.slice (some ⟨g, off, none⟩) n cap) fp) (hsz : ∀ e ∈ es, e.length = sz) (k : Nat) (hk : k ≤ es.length) :
    ∃ o2, (if cap = k then some (⟨g, off, none⟩ : Addr) else some ⟨g, off + k * sz, none⟩) = some ⟨g, o2, none⟩ ∧ ∃ fp', Rd w (.l (es.drop k)) (.slice (some ⟨g, o2, none⟩) (es.length - k) (cap - k)) fp' ∧ ∀ r ∈ fp', r ∈ fp := by
  have key : ∀ o2, (k < es.length → o2 = off + k * sz) → ∃ fp', Rd w (.l (es.drop k)) (.slice (some ⟨g, o2, none⟩) (es.length - k) (cap - k)) fp' ∧ ∀ r ∈ fp', r ∈ fp := by
    intro o2 ho
    have := h.cut hsz k (es.length - k) o2 (cap - k) (by omega) (fun hm => ho (by omega)) (fun hc => by omega)
    rwa [List.take_of_length_le (by rw [List.length_drop]; omega)] at this
  by_cases hc : cap = k
  · refine ⟨off, by rw [if_pos hc], key off fun hlt => ?_⟩
    obtain ⟨_, _, _, _, _, _, hcap, _⟩ := Rd.at h (by omega) hsz
    have := h.lens
    omega
  · exact ⟨off + k * sz, by rw [if_neg hc], key _ fun _ => rfl⟩

end Go.Proofs.Yteglefchkecfjab

/- A list of rows of their own is appended to another one; general steps, nothing here speaks of the program. -/
namespace Go.Proofs.Yteglefchkecfjab
open Go.RowKit

theorem FdOk.one {Ei : TypeId} {w : World} {B : Nat} {c : Value} {f : Fd} (h : FdOk Ei w B c f) : c.oneCell' = true := by
  cases f with
  | l xs =>
    obtain ⟨a, cap, rfl, _⟩ := Own.ints h
    rfl
  | i n => rw [show c = _ from h]; rfl
  | b n => rw [show c = _ from h]; rfl
  | s n => rw [show c = _ from h]; rfl

/-- 'append(s, t...)', t rows of their own that are newer than s. -/
theorem wpList_app_own {P : Program} {T E Ei : TypeId} {z0 : Value} {sz bytes : Nat} (hsl : P.underlying T = some (.slice E)) (hinf : (P.info? E).map (fun i => (i.zero, i.size, i.bytes)) = some (some z0, sz, bytes)) (hz0 : z0.cells.size = sz) (hpos : 0 < sz) (hby : bytes ≤ 1000)
    {w : World} {ops : Array Oper} {rest : List Oper} {o : Oper} {a : Act} {Q : Exit → Act → World → Prop} (hgd : o.guard = none) (s x : Operand) (ho : o.op = .call { callee := .builtin .append, args := #[s, x], argTypes := #[T, T] }) (B : Nat) (v u : Value) (es es2 : List (List Fd))
    (hs : a.eval s = v) (hi0 lo hi2 : Nat) (hb : OwnR E Ei sz w B hi0 v es) (hb2 : OwnR E Ei sz w lo hi2 u es2) (hlo : hi0 ≤ lo) (hh2 : hi2 ≤ w.heap.size) (hBlo : B ≤ lo)
    (hlen : es.length + es2.length ≤ 2097152)
    (hx : a.eval x = u) (hB : B ≤ w.heap.size)
    (h : ∀ v' w', OwnR E Ei sz w' B w'.heap.size v' (es ++ es2) → w.grownBy w' v.ownBlock → wpList P ops Q rest (a.put o.dst v') w') : wpList P ops Q (o :: rest) a w := by
  refine wpList_want (by unfold Region.wanted; rw [hgd]) fun K hK => ?_
  obtain ⟨i, hi, hz, hsz, hbb⟩ := info_parts hinf
  obtain ⟨cs, hown, hc, hcc, hcv, hch, hvh⟩ := hb.row
  obtain ⟨cs2, hown2, hc2, hcc2, hcv2, hch2, hvh2⟩ := hb2.row
  have hcl : cs.length = es.length * sz := hown.1
  have hcl2 : cs2.length = es2.length * sz := hown2.1
  have hkj : ∀ p, p < cs2.length → ∃ (k j : Nat) (hk : k < es2.length) (hj : j < (es2[k]).length), p = k * sz + j := by
    intro p hp
    have hk : p / sz < es2.length := by rw [Nat.div_lt_iff_lt_mul hpos]; omega
    refine ⟨p / sz, p % sz, hk, ?_, ?_⟩
    · rw [hb2.szs _ (List.getElem_mem hk)]; exact Nat.mod_lt _ hpos
    · rw [Nat.mul_comm]; exact (Nat.div_add_mod _ _).symm
  have hfd2 : ∀ (p : Nat) (c : Value), cs2[p]? = some c → ∃ f, FdOk Ei w lo c f := by
    intro p c hp
    obtain ⟨hpl, _⟩ := List.getElem?_eq_some_iff.1 hp
    obtain ⟨k, j, hk, hj, rfl⟩ := hkj p hpl
    obtain ⟨c', hc', hf⟩ := hc2 k j hk hj
    rw [hp] at hc'; cases hc'
    exact ⟨_, hf⟩
  have run : ∃ v' w', (Builtin.append_ #[T, T] o.type #[v, u]).run P w = .ok v' w' ∧ w'.ownsRow B E sz v' (es.length + es2.length) (cs ++ cs2) ∧ w.grownBy w' v.ownBlock ∧ (v'.ownBlock = v.ownBlock ∨ v'.ownBlock = some w.heap.size) := by
    rcases hown2.2 with ⟨rfl, h0⟩ | ⟨g, cap, cur, rfl, hg, hgc, hn, hm, hsz2, ht⟩
    · have hr := run_append_owned_none (P := P) (w := w) B T o.type E i sz hsl hi v es.length _ hown
      have : cs2 = [] := List.eq_nil_of_length_eq_zero (by rw [hcl2, h0]; simp)
      subst this
      exact ⟨v, w, hr, by rw [h0, List.append_nil]; exact hown, ⟨rfl, rfl, rfl, Nat.le_refl _, fun _ _ _ => rfl⟩, .inl rfl⟩
    · obtain ⟨v', w', h1, h2, h3, _, h4⟩ := run_append_own_at (P := P) w B T o.type E i z0 sz bytes hsl hi hz hsz hbb hz0 hpos v es.length _ hown ⟨g, 0, none⟩ es2.length cap cs2 hcl2
        (fun j u hu => by
          have := World.ownsRow.cells hown2 (g := g) rfl _ _ hu
          exact this) (fun c hc => by
          obtain ⟨p, hp⟩ := List.mem_iff_getElem?.1 hc
          obtain ⟨f, hf⟩ := hfd2 p c hp
          exact hf.one) (by unfold maxLen; omega) (by
          have := Nat.mul_le_mul hlen hby; omega) hB
      exact ⟨v', w', h1, h2, h3, h4⟩
  obtain ⟨v', w', hrun, h1, hg, h4⟩ := run
  unfold Oper.wp execOp
  simp only [ho, resolve, invoke, builtin, Sem.run_bind, Sem.run_pure, Result.andThen_ok, List.map_toArray, List.map_cons, List.map_nil, hs, hx, hrun]
  have hloc : ∀ g, v'.ownBlock = some g → v.ownBlock = some g ∨ w.heap.size ≤ g := fun g e => by
    rcases h4 with h4 | h4
    · exact .inl (by rw [← h4]; exact e)
    · rw [h4] at e; cases e; exact .inr (Nat.le_refl _)
  have hva : ∀ (p : Nat) (c : Value), cs2[p]? = some c → Apart c v := fun p c hp g e e' => by
    have := (hch2 p c g hp e).1
    have := hvh g e'
    omega
  have hmix : ∀ (p q : Nat) (c d : Value), cs2[p]? = some c → cs[q]? = some d → Apart c d := fun p q c d hp hq g e e' => by
    have := (hch2 p c g hp e).1
    have := hch q d g hq e'
    omega
  have hsame : ∀ (lo' : Nat) (c : Value) (fd : Fd), FdOk Ei w lo' c fd → Apart c v → FdOk Ei w' lo' c fd := fun lo' c fd hf ha => hf.same fun g e => hg.block g (hf.lt g e).2 fun e' => ha g e e'.symm
  have hall : ∀ (p : Nat) (c : Value), (cs ++ cs2)[p]? = some c → (cs[p]? = some c ∧ p < cs.length) ∨ (cs.length ≤ p ∧ cs2[p - cs.length]? = some c) := fun p c hp => by
    by_cases e : p < cs.length
    · rw [List.getElem?_append_left e] at hp; exact .inl ⟨hp, e⟩
    · rw [List.getElem?_append_right (by omega)] at hp; exact .inr ⟨by omega, hp⟩
  have hwv : ∀ c : Value, (∀ g, c.ownBlock = some g → g < w.heap.size) → Apart c v → Apart c v' := fun c hlt ha g hc' hv' => by
    rcases hloc g hv' with h | h
    · exact ha g hc' h
    · have := hlt g hc'; omega
  refine hK _ _ (h v' w' ⟨?_, cs ++ cs2, by rw [List.length_append]; exact h1, fun k j hk hj => ?_, fun p q c d hp hq hne => ?_, fun p c hp => ?_, fun p c g hp hg' => ?_, fun g e => (World.ownsRow.lt h1 g e).2⟩ hg)
  · intro d hd
    rcases List.mem_append.1 hd with hd | hd
    · exact hb.szs d hd
    · exact hb2.szs d hd
  · by_cases hke : k < es.length
    · have hkk : (es ++ es2)[k] = es[k] := List.getElem_append_left hke
      simp only [hkk] at hj ⊢
      obtain ⟨c, hc1, hf⟩ := hc k j hke hj
      obtain ⟨hpl, _⟩ := List.getElem?_eq_some_iff.1 hc1
      exact ⟨c, by rw [List.getElem?_append_left hpl]; exact hc1, hsame _ c _ hf (hcv _ c hc1)⟩
    · have hk2 : k - es.length < es2.length := by rw [List.length_append] at hk; omega
      have hkk : (es ++ es2)[k] = es2[k - es.length] := List.getElem_append_right (by omega)
      simp only [hkk] at hj ⊢
      obtain ⟨c, hc1, hf⟩ := hc2 (k - es.length) j hk2 hj
      have hq : k * sz + j - cs.length = (k - es.length) * sz + j := by
        rw [hcl, Nat.sub_mul]
        have := Nat.mul_le_mul_right sz (show es.length ≤ k by omega)
        omega
      have hge : cs.length ≤ k * sz + j := by
        rw [hcl]
        have := Nat.mul_le_mul_right sz (show es.length ≤ k by omega)
        omega
      refine ⟨c, by rw [List.getElem?_append_right hge, hq]; exact hc1, ?_⟩
      have hf' := hsame _ c _ hf (hva _ c hc1)
      revert hf'
      generalize (es2[k - es.length])[j] = f
      intro hf'
      cases f with
      | l xs => exact Own.mono (show Own Ei w' lo c xs from hf') hBlo
      | i n => exact hf'
      | b n => exact hf'
      | s n => exact hf'
  · rcases hall p c hp with ⟨hp, _⟩ | ⟨hpl, hp⟩
    · rcases hall q d hq with ⟨hq, _⟩ | ⟨_, hq⟩
      · exact hcc p q c d hp hq hne
      · exact (hmix _ p d c hq hp).symm
    · rcases hall q d hq with ⟨hq, _⟩ | ⟨hql, hq⟩
      · exact hmix _ q c d hp hq
      · exact hcc2 _ _ c d hp hq (by omega)
  · rcases hall p c hp with ⟨hp, _⟩ | ⟨_, hp⟩
    · refine hwv c (fun g e => ?_) (hcv p c hp)
      obtain ⟨hpl, _⟩ := List.getElem?_eq_some_iff.1 hp
      have hk : p / sz < es.length := by rw [Nat.div_lt_iff_lt_mul hpos]; omega
      obtain ⟨c', hc', hf⟩ := hc (p / sz) (p % sz) hk (by rw [hb.szs _ (List.getElem_mem hk)]; exact Nat.mod_lt _ hpos)
      rw [Nat.mul_comm, Nat.div_add_mod, hp] at hc'
      cases hc'
      exact (hf.lt g e).2
    · exact hwv c (fun g e => by have := (hch2 _ c g hp e).2; omega) (hva _ c hp)
  · have hsz' := hg.size
    rcases hall p c hp with ⟨hp, _⟩ | ⟨_, hp⟩
    · have h1 := hch p c g hp hg'
      obtain ⟨hpl, _⟩ := List.getElem?_eq_some_iff.1 hp
      have hk : p / sz < es.length := by rw [Nat.div_lt_iff_lt_mul hpos]; omega
      obtain ⟨c', hc', hf⟩ := hc (p / sz) (p % sz) hk (by rw [hb.szs _ (List.getElem_mem hk)]; exact Nat.mod_lt _ hpos)
      rw [Nat.mul_comm, Nat.div_add_mod, hp] at hc'
      cases hc'
      have := (hf.lt g hg').2
      omega
    · have := hch2 _ c g hp hg'
      omega

end Go.Proofs.Yteglefchkecfjab

/- The reference's adding of a vertex to a graph, each text by a walk; conditions: lists are shorter than 2^40 (a graph: 2^20), and where the text asks it, the committee, the graph and the vertex are valid. -/
namespace Go.Proofs.Yteglefchkecfjab
open Go.RowKit

def sameB (x y : Vx) : Bool := decide (x = y)
theorem sameB_no {x y : Vx} (h : ¬ x = y) : sameB x y = false := decide_eq_false h
theorem vx_ext {x y : Vx} (h1 : x.r = y.r) (h2 : x.a = y.a) (h3 : x.ps = y.ps) (h4 : x.d = y.d) : x = y := by cases x; cases y; simp_all
def pEqB (x y : Vx) (k : Nat) : Bool := decide (x.ps.getD k 0 = y.ps.getD k 0)
theorem sameB_ps {x y : Vx} (h1 : x.r = y.r) (h2 : x.a = y.a) (h4 : x.d = y.d) (hl : x.ps.length = y.ps.length) (h : Upto (pEqB x y) x.ps.length) : sameB x y = true := by
  refine decide_eq_true (vx_ext h1 h2 (List.ext_getElem hl fun i a b => ?_) h4)
  have := of_decide_eq_true (h i a)
  rwa [getD_get a, getD_get b] at this

theorem spec_l11Same (x y : Vx) (pa pa' : Option Addr) (pc pc' : Nat) (w : World) (hx : x.ps.length ≤ 1099511627776) (hy : y.ps.length ≤ 1099511627776) (hp : IntsAt w pa x.ps) (hp' : IntsAt w pa' y.ps) :
    Calls Try.prog 114 #[.agg #[.int .i64 x.r, .int .i64 x.a, .slice pa x.ps.length pc, .int .i64 x.d], .agg #[.int .i64 y.r, .int .i64 y.a, .slice pa' y.ps.length pc', .int .i64 y.d]] w fun e w' => e = .returned (.bool (sameB x y)) ∧ Below w.heap.size w w' := by
  have hb : Below w.heap.size w ((w.alloc (.cells #[.int .i64 x.r, .int .i64 x.a, .slice pa x.ps.length pc, .int .i64 x.d] 30)).alloc (.cells #[.int .i64 y.r, .int .i64 y.a, .slice pa' y.ps.length pc', .int .i64 y.d] 30)) := ((Below.refl _ w).alloc (Nat.le_refl _) _).alloc (by simp) _
  have s0 := (Str.new w 30 #[.int .i64 x.r, .int .i64 x.a, .slice pa x.ps.length pc, .int .i64 x.d]).alloc (.cells #[.int .i64 y.r, .int .i64 y.a, .slice pa' y.ps.length pc', .int .i64 y.d] 30)
  have s1 := Str.new (w.alloc (.cells #[.int .i64 x.r, .int .i64 x.a, .slice pa x.ps.length pc, .int .i64 x.d] 30)) 30 #[.int .i64 y.r, .int .i64 y.a, .slice pa' y.ps.length pc', .int .i64 y.d]
  rw [show (w.alloc (.cells #[.int .i64 x.r, .int .i64 x.a, .slice pa x.ps.length pc, .int .i64 x.d] 30)).heap.size = w.heap.size + 1 by simp] at s1
  have k0 := s0.cell 0 (v := .int .i64 x.r) rfl
  have k1 := s0.cell 1 (v := .int .i64 x.a) rfl
  have k2 := s0.cell 2 (v := .slice pa x.ps.length pc) rfl
  have k3 := s0.cell 3 (v := .int .i64 x.d) rfl
  have j0 := s1.cell 0 (v := .int .i64 y.r) rfl
  have j1 := s1.cell 1 (v := .int .i64 y.a) rfl
  have j2 := s1.cell 2 (v := .slice pa' y.ps.length pc') rfl
  have j3 := s1.cell 3 (v := .int .i64 y.d) rfl
  have Hp := Lib.hid (hp.below hb); clear hp
  have Hp' := Lib.hid (hp'.below hb); clear hp'
  have Hb := Lib.hid hb; clear hb
  have Hs0 := Lib.hid s0; clear s0
  have Hs1 := Lib.hid s1; clear s1
  by_cases h1 : x.r = y.r
  case neg =>
    have hz := sameB_no (x := x) (y := y) (fun e => h1 (by rw [e]))
    have e1 : (x.r != y.r) = true := by simpa using h1
    have Hz := Lib.hid hz; clear hz h1
    go_enter Try.func114, Try.ntmps114
    go_wp2
    go_ret
    exact ⟨by first | rfl | exact ret_bool (by rw [Hz.out]), Hb.out⟩
  have e1 : (x.r != y.r) = false := by simpa using h1
  by_cases h2 : x.a = y.a
  case neg =>
    have hz := sameB_no (x := x) (y := y) (fun e => h2 (by rw [e]))
    have e2 : (x.a != y.a) = true := by simpa using h2
    have Hz := Lib.hid hz; clear hz h1 h2
    go_enter Try.func114, Try.ntmps114
    go_wp2
    go_ret
    exact ⟨by first | rfl | exact ret_bool (by rw [Hz.out]), Hb.out⟩
  have e2 : (x.a != y.a) = false := by simpa using h2
  by_cases h4 : x.d = y.d
  case neg =>
    have hz := sameB_no (x := x) (y := y) (fun e => h4 (by rw [e]))
    have e4 : (x.d != y.d) = true := by simpa using h4
    have Hz := Lib.hid hz; clear hz h1 h2 h4
    go_enter Try.func114, Try.ntmps114
    go_wp2
    go_ret
    exact ⟨by first | rfl | exact ret_bool (by rw [Hz.out]), Hb.out⟩
  have e4 : (x.d != y.d) = false := by simpa using h4
  by_cases hl : x.ps.length = y.ps.length
  case neg =>
    have hz := sameB_no (x := x) (y := y) (fun e => hl (by rw [e]))
    have e3 : ((x.ps.length : Int) != (y.ps.length : Int)) = true := by rw [bne_iff_ne]; omega
    have Hz := Lib.hid hz; clear hz h1 h2 h4
    go_enter Try.func114, Try.ntmps114
    go_wp2
    go_ret
    exact ⟨by first | rfl | exact ret_bool (by rw [Hz.out]), Hb.out⟩
  have e3 : ((x.ps.length : Int) != (y.ps.length : Int)) = false := by rw [bne_eq_false_iff_eq]; omega
  have Hyes := Lib.hid (sameB_ps h1 h2 h4 hl)
  have Hno := Lib.hid (fun k (hk : k < x.ps.length) (hk' : k < y.ps.length) (hne : ¬ x.ps[k] = y.ps[k]) => sameB_no (x := x) (y := y) (fun e => hne (by subst e; rfl)))
  have hle : y.ps.length ≤ x.ps.length := by omega
  have hge : x.ps.length ≤ y.ps.length := by omega
  have Hl := Lib.hid hl; clear hl h1 h2 h4
  have hw0 : ((w.alloc (.cells #[.int .i64 x.r, .int .i64 x.a, .slice pa x.ps.length pc, .int .i64 x.d] 30)).alloc (.cells #[.int .i64 y.r, .int .i64 y.a, .slice pa' y.ps.length pc', .int .i64 y.d] 30)).heap.size = w.heap.size + 2 := by simp
  go_enter Try.func114, Try.ntmps114
  go_wp2
  generalize (w.alloc (.cells #[.int .i64 x.r, .int .i64 x.a, .slice pa x.ps.length pc, .int .i64 x.d] 30)).alloc (.cells #[.int .i64 y.r, .int .i64 y.a, .slice pa' y.ps.length pc', .int .i64 y.d] 30) = W0 at *
  clear k0 k1 k2 k3 j0 j1 j2 j3 e1 e2 e3 e4
  go_loopw [5] (fun i wr => ∃ k : Nat, k ≤ x.ps.length ∧ i = .int .i64 k ∧ Upto (pEqB x y) k ∧ Below W0.heap.size W0 wr) (fun i _ => x.ps.length - (intOf i).toNat)
  case atStart => exact ⟨0, by omega, rfl, upto_zero _, Below.refl _ _⟩
  case round =>
    obtain ⟨k, hk, rfl, hup, hbel⟩ := hrel
    have s0 := (hbel.block _ Hs0.out.lt).trans Hs0.out
    have s1 := (hbel.block _ Hs1.out.lt).trans Hs1.out
    have k2 := Str.cell s0 2 (v := .slice pa x.ps.length pc) rfl
    have j2 := Str.cell s1 2 (v := .slice pa' y.ps.length pc') rfl
    clear s0 s1
    by_cases hlt : k < x.ps.length
    · have hlt' : k < y.ps.length := by omega
      obtain ⟨b, off, rfl, hbb, hat⟩ := (Hp.out.below hbel).cell (by omega)
      obtain ⟨b', off', rfl, hbb', hat'⟩ := (Hp'.out.below hbel).cell (by omega)
      have q := hat k hlt
      have q' := hat' k hlt'
      have Hbel := Lib.hid hbel; clear hbel hat hat'
      by_cases e : x.ps[k] = y.ps[k]
      · have e1 : (x.ps[k] == y.ps[k]) = true := by rw [beq_iff_eq]; exact e
        have e2 : (x.ps[k] != y.ps[k]) = false := by rw [bne_eq_false_iff_eq]; exact e
        have Hup := Lib.hid (upto_step hup (k := k) (decide_eq_true (by rw [getD_get hlt, getD_get hlt']; exact e)))
        clear e hup
        go_wp2
        go_quiet (fail)
        go_wp2
        go_roundw
        case rel => exact ⟨k + 1, by omega, by go_num, Hup.out, Hbel.out.trans (((Drawn.refl wr).drewN _).below _)⟩
        case measure => simp [intOf]; omega
      · have e1 : (x.ps[k] == y.ps[k]) = false := by rw [beq_eq_false_iff_ne]; exact e
        have e2 : (x.ps[k] != y.ps[k]) = true := by rw [bne_iff_ne]; exact e
        have Hz := Lib.hid (Hno.out k hlt hlt' e)
        clear e
        go_wp2
        go_quiet (fail)
        go_wp2
        go_ret
        exact ⟨ret_bool (by rw [Hz.out]), Hb.out.trans ((Hbel.out.trans (((Drawn.refl wr).drewN _).below _)).mono (by omega))⟩
    · have Hz := Lib.hid (Hyes.out (fun j hj => hup j (by omega)))
      have Hbel := Lib.hid hbel; clear hbel hup
      go_wp2
      go_ret
      exact ⟨ret_bool (by rw [Hz.out]), Hb.out.trans (Hbel.out.mono (by omega))⟩

end Go.Proofs.Yteglefchkecfjab

/- The reference's adding of a vertex to a graph: l11Add and GraphAdd, each by a walk of its text; conditions: lists are shorter than 2^40 (a graph: 2^20), and where the text asks it, the committee, the graph and the vertex are valid. -/
namespace Go.Proofs.Yteglefchkecfjab
open Go.RowKit

/-- Where a vertex belongs. -/
def insN (g : List Vx) (x : Vx) : Nat := g.findIdx fun y => !befB y x
def insG (g : List Vx) (x : Vx) : List Vx := (g.take (insN g x) ++ [x]) ++ g.drop (insN g x)
/-- The code of an addition. -/
def addN (g : List Vx) (x : Vx) : Int := if 0 ≤ findZ g x.r x.a then (if sameB (g.getD (findZ g x.r x.a).toNat vx0) x = true then 1 else 2) else if parB g x = true then 0 else 3
def addG (g : List Vx) (x : Vx) : List Vx := if addN g x = 0 then insG g x else g
def befAt (g : List Vx) (x : Vx) (k : Nat) : Bool := befB (g.getD k vx0) x
theorem insN_end {g : List Vx} {x : Vx} {n : Nat} (h : Upto (befAt g x) n) (hn : g.length = n) : insN g x = n := by
  subst hn
  refine List.findIdx_eq_length.2 fun y hy => ?_
  obtain ⟨k, hk, rfl⟩ := List.mem_iff_getElem.1 hy
  have := h k hk
  unfold befAt at this
  rw [getV hk] at this
  simp [this]
theorem insN_at {g : List Vx} {x : Vx} {k : Nat} (hk : k < g.length) (h : Upto (befAt g x) k) (hb : befAt g x k = false) : insN g x = k := by
  refine (List.findIdx_eq hk).2 ⟨?_, fun j hj => ?_⟩
  · unfold befAt at hb; rw [getV hk] at hb; simp [hb]
  · have := h j hj
    unfold befAt at this
    rw [getV (by omega)] at this
    simp [this]
theorem addN_same {g : List Vx} {x : Vx} {k : Nat} (hk : k < g.length) (h : findZ g x.r x.a = k) (hs : sameB g[k] x = true) : addN g x = 1 ∧ addG g x = g := by
  have : addN g x = 1 := by unfold addN; rw [h, if_pos (by omega), Int.toNat_natCast, getV hk, if_pos hs]
  exact ⟨this, by unfold addG; rw [this]; rfl⟩
theorem addN_twice {g : List Vx} {x : Vx} {k : Nat} (hk : k < g.length) (h : findZ g x.r x.a = k) (hs : sameB g[k] x = false) : addN g x = 2 ∧ addG g x = g := by
  have : addN g x = 2 := by unfold addN; rw [h, if_pos (by omega), Int.toNat_natCast, getV hk, if_neg (by simp [hs])]
  exact ⟨this, by unfold addG; rw [this]; rfl⟩
theorem addN_miss {g : List Vx} {x : Vx} (h : findZ g x.r x.a = -1) (hp : parB g x = false) : addN g x = 3 ∧ addG g x = g := by
  have : addN g x = 3 := by unfold addN; rw [h, if_neg (by omega), if_neg (by simp [hp])]
  exact ⟨this, by unfold addG; rw [this]; rfl⟩
theorem addN_done {g : List Vx} {x : Vx} (h : findZ g x.r x.a = -1) (hp : parB g x = true) : addN g x = 0 ∧ addG g x = insG g x := by
  have : addN g x = 0 := by unfold addN; rw [h, if_neg (by omega), if_pos hp]
  exact ⟨this, by unfold addG; rw [this]; rfl⟩

/-- The tail of a graph, and where it lies. -/
theorem Gr.tail {w : World} {g : List Vx} {va : Option Addr} {vc : Nat} {fp : List Nat} (h : Gr w g (.slice va g.length vc) fp) (k : Nat) (hk : k ≤ g.length) :
    ∃ fp2, Gr w (g.drop k) (.slice (if vc = k then va else va.map fun x => x.add (k * 4)) (g.length - k) (vc - k)) fp2 := by
  cases va with
  | none =>
    have hc0 := Rd.nilcap h
    have hg0 : g.length = 0 := by
      rcases Nat.eq_zero_or_pos g.length with h0 | h0
      · exact h0
      · obtain ⟨_, _, e, _⟩ := h.at h0; cases e
    have hk0 : k = 0 := by omega
    have hgn : g = [] := List.eq_nil_of_length_eq_zero hg0
    subst hgn hk0
    exact ⟨[], .nil _ _ (fun _ => by omega)⟩
  | some av =>
    rcases Nat.eq_zero_or_pos g.length with h0 | h0
    · have hgn : g = [] := List.eq_nil_of_length_eq_zero h0
      subst hgn
      have hk0 : k = 0 := by simp at hk; omega
      subst hk0
      exact ⟨[], .nil _ _ (fun e => by split at e <;> cases e)⟩
    · obtain ⟨b, off, e, _⟩ := h.at h0
      cases e
      obtain ⟨o2, hif, fp2, hr2, _⟩ := Rd.tail h (sz := 4) (by intro e he; obtain ⟨e', he', rfl⟩ := List.mem_map.1 he; obtain ⟨y, _, rfl⟩ := List.mem_map.1 he'; rfl) k (by simp; omega)
      refine ⟨fp2, ?_⟩
      have e2 : (if vc = k then some (⟨b, off, none⟩ : Addr) else (some (⟨b, off, none⟩ : Addr)).map fun x => x.add (k * 4)) = some ⟨b, o2, none⟩ := by
        rw [← hif, Option.map_some, addr_add']
      rw [e2]
      unfold Gr rowsD
      rw [List.map_drop, List.map_drop]
      simpa using hr2

set_option maxHeartbeats 2000000 in
theorem spec_l11Add (g : List Vx) (v : Value) (fp : List Nat) (x : Vx) (pa : Option Addr) (pc : Nat) (w : World) (hbig : g.length ≤ 1048576) (hps : ∀ y ∈ g, y.ps.length ≤ 1099511627776) (hbp : x.ps.length ≤ 1099511627776) (hr0 : 0 ≤ x.r) (hr1 : x.r ≤ 1099511627776) (hg : Gr w g v fp) (hs : SrcAt w pa pc x.ps) (hi : IntsAt w pa x.ps) :
    Calls Try.prog 62 #[v, .agg #[.int .i64 x.r, .int .i64 x.a, .slice pa x.ps.length pc, .int .i64 x.d]] w fun e w' => ∃ u, e = .returned (.tuple #[u, .int .i64 (addN g x)]) ∧ OwnR 30 3 4 w' w.heap.size w'.heap.size u ((addG g x).map Vx.fd) ∧ Below w.heap.size w w' := by
  have hb0 : Below w.heap.size w (w.alloc (.cells #[.int .i64 x.r, .int .i64 x.a, .slice pa x.ps.length pc, .int .i64 x.d] 30)) := (Below.refl _ _).alloc (Nat.le_refl _) _
  have s0 := Str.new w 30 #[.int .i64 x.r, .int .i64 x.a, .slice pa x.ps.length pc, .int .i64 x.d]
  have hsz0 : (w.alloc (.cells #[.int .i64 x.r, .int .i64 x.a, .slice pa x.ps.length pc, .int .i64 x.d] 30)).heap.size = w.heap.size + 1 := by simp
  have hsrc : ∀ W, Below (w.alloc (.cells #[.int .i64 x.r, .int .i64 x.a, .slice pa x.ps.length pc, .int .i64 x.d] 30)).heap.size (w.alloc (.cells #[.int .i64 x.r, .int .i64 x.a, .slice pa x.ps.length pc, .int .i64 x.d] 30)) W → SrcAt W pa pc x.ps ∧ IntsAt W pa x.ps := by
    intro W hW
    have hbW := hb0.trans (hW.mono (by omega))
    exact ⟨hs.under hi hbW, hi.below hbW⟩
  have Hg := Lib.hid (hg.under hb0); clear hg
  have Hsrc := Lib.hid hsrc; clear hsrc hs hi
  have Hb0 := Lib.hid hb0; clear hb0
  have Hs0 := Lib.hid s0; clear s0
  have HP := Lib.hid hps; clear hps
  have HF := Lib.hid (fun W (h : Gr W g v fp) => spec_l11Find g v fp x.r x.a W (by omega) h)
  have HC := Lib.hid (fun W (h : Gr W g v fp) => spec_l11Copy g v fp W (by omega) HP.out h)
  have hin : ∀ (n : Nat), (∀ y ∈ g.drop n, y.ps.length ≤ 1099511627776) := fun n y hy => HP.out y (List.mem_of_mem_drop hy)
  have HD := Lib.hid (fun n u fp' W (h : Gr W (g.drop n) u fp') => spec_l11Copy (g.drop n) u fp' W (by rw [List.length_drop]; omega) (hin n) h)
  clear hin
  have HQ := Lib.hid (fun W (h : Gr W g v fp) (h' : IntsAt W pa x.ps) => spec_l11Parents g v fp x.r x.a x.d pa pc x.ps W (by omega) hbp hr0 hr1 h h')
  have HS := Lib.hid (fun (y : Vx) (pa' : Option Addr) (pc' : Nat) W (hy : y.ps.length ≤ 1099511627776) (h : IntsAt W pa' y.ps) (h' : IntsAt W pa x.ps) => spec_l11Same y x pa' pa pc' pc W hy hbp h h')
  have HO := Lib.hid (fun (y : Vx) (pa' : Option Addr) (pc' : Nat) W (hy : y.ps.length ≤ 1099511627776) (h : SrcAt W pa' pc' y.ps) (h' : IntsAt W pa' y.ps) => spec_l11One y.r y.a y.d pa' pc' y.ps W hy h h')
  have HB := Lib.hid (fun (y : Vx) (pa' : Option Addr) (pc' : Nat) W => spec_l11Before y x pa' pa pc' pc W)
  obtain ⟨va, vc, rfl⟩ := Hg.out.slice
  have k0 := Hs0.out.cell 0 (v := .int .i64 x.r) rfl
  have k1 := Hs0.out.cell 1 (v := .int .i64 x.a) rfl
  have k2 := Hs0.out.cell 2 (v := .slice pa x.ps.length pc) rfl
  have k3 := Hs0.out.cell 3 (v := .int .i64 x.d) rfl
  have Hfc := Lib.hid (findZ_cases g x.r x.a)
  have HA1 := Lib.hid (fun k hk => addN_same (g := g) (x := x) (k := k) hk)
  have HA2 := Lib.hid (fun k hk => addN_twice (g := g) (x := x) (k := k) hk)
  have HA3 := Lib.hid (addN_miss (g := g) (x := x))
  have HA4 := Lib.hid (addN_done (g := g) (x := x))
  go_enter Try.func62, Try.ntmps62
  go_wp2_with fail
  generalize w.alloc (.cells #[.int .i64 x.r, .int .i64 x.a, .slice pa x.ps.length pc, .int .i64 x.d] 30) = W0 at *
  refine (HF.out W0 Hg.out).mono ?_
  rintro e w1 ⟨rfl, rfl⟩
  rcases Hfc.out with ⟨hz, hno⟩ | ⟨k, hlt, hz, hsame, hbef⟩
  case inr =>
    clear hsame hbef
    have Hz := Lib.hid hz; clear hz
    rw [Hz.out]
    obtain ⟨b, off, rfl, hb, hat⟩ := Hg.out.at (by omega)
    obtain ⟨c0, c1, ⟨pa', pc', c2, i2, _⟩, c3⟩ := hat k hlt
    have hpy := HP.out _ (List.getElem_mem hlt)
    have HS1 := Lib.hid (fun W => HS.out (g[k]'hlt) pa' pc' W hpy)
    have HA1 := Lib.hid (fun h => HA1.out k hlt Hz.out h)
    have HA2 := Lib.hid (fun h => HA2.out k hlt Hz.out h)
    clear hat hpy HS HO HB HD HQ HA3 HA4
    generalize g[k] = y at *
    have hb0 : Below W0.heap.size W0 W0.drew := (Below.refl _ _).drew
    have Hbs := Lib.hid (fun w' (h : Below W0.heap.size W0 w') => (⟨Nat.lt_of_lt_of_le hb h.size, Nat.lt_of_lt_of_le Hs0.out.lt h.size⟩ : b < w'.heap.size ∧ w.heap.size < w'.heap.size))
    have Hi2 := Lib.hid i2; clear i2
    have hge : decide ((0 : Int) ≤ (k : Int)) = true := decide_eq_true (by omega)
    cases hsb : sameB y x with
    | true =>
      rw [hsb] at HS1
      obtain ⟨hz1, hz2⟩ := HA1.out hsb
      have Hz1 := Lib.hid hz1
      have Hz2 := Lib.hid hz2
      clear HA1 HA2 hz1 hz2
      go_wp2_with fail
      refine wp_region_held_drew (S := fun w' => Below W0.heap.size W0 w' ∧ w'.cell? ⟨b, off + k * 4, none⟩ = some (.int .i64 y.r) ∧ w'.cell? ⟨b, off + k * 4 + 1, none⟩ = some (.int .i64 y.a) ∧ w'.cell? ⟨b, off + k * 4 + 2, none⟩ = some (.slice pa' y.ps.length pc') ∧ w'.cell? ⟨b, off + k * 4 + 3, none⟩ = some (.int .i64 y.d) ∧ w'.cell? ⟨w.heap.size, 0, none⟩ = some (.int .i64 x.r) ∧ w'.cell? ⟨w.heap.size, 1, none⟩ = some (.int .i64 x.a) ∧ w'.cell? ⟨w.heap.size, 2, none⟩ = some (.slice pa x.ps.length pc) ∧ w'.cell? ⟨w.heap.size, 3, none⟩ = some (.int .i64 x.d)) (by kernel_rfl) ⟨hb0, c0, c1, c2, c3, k0, k1, k2, k3⟩ (fun hH => ?_)
      refine takeH 0 (v := ?va0) rfl (by kernel_rfl) (by kernel_rfl) (by kernel_rfl) (fun _ _ _ h => h) hH rfl ?ya0 ?ra0
      case ya0 => intro W hSw; go_simp; try with_reducible rfl
      try simp only [Act.put, List.setIfInBounds_toArray, List.set_cons_zero, List.set_cons_succ]
      refine takeH 1 (v := .bool true) rfl (by kernel_rfl) (by kernel_rfl) (by kernel_rfl) (fun _ _ _ h => h) hH rfl ?ya1 ?ra1
      case ya1 => intro W hSw; go_simp; first | done | simp only [hge] | omega | (simp; omega)
      try simp only [Act.put, List.setIfInBounds_toArray, List.set_cons_zero, List.set_cons_succ]
      refine takeH 2 (v := ?va2) rfl (by kernel_rfl) (by kernel_rfl) (by kernel_rfl) (fun _ _ _ h => h) hH rfl ?ya2 ?ra2
      case ya2 => intro W hSw; go_simp; try with_reducible rfl
      try simp only [Act.put, List.setIfInBounds_toArray, List.set_cons_zero, List.set_cons_succ]
      refine takeH 3 (v := ?va3) rfl (by kernel_rfl) (by kernel_rfl) (by kernel_rfl) (fun _ _ _ h => h) hH rfl ?ya3 ?ra3
      case ya3 => intro W hSw; go_simp; try with_reducible rfl
      try simp only [Act.put, List.setIfInBounds_toArray, List.set_cons_zero, List.set_cons_succ]
      refine takeH 4 (v := ?va4) rfl (by kernel_rfl) (by kernel_rfl) (by kernel_rfl) (fun _ _ _ h => h) hH rfl ?ya4 ?ra4
      case ya4 => intro W hSw; go_simp; try with_reducible rfl
      try simp only [Act.put, List.setIfInBounds_toArray, List.set_cons_zero, List.set_cons_succ]
      refine takeH 5 (v := ?va5) rfl (by kernel_rfl) (by kernel_rfl) (by kernel_rfl) (fun _ _ _ h => h) hH rfl ?ya5 ?ra5
      case ya5 => intro W hSw; go_simp; try with_reducible rfl
      try simp only [Act.put, List.setIfInBounds_toArray, List.set_cons_zero, List.set_cons_succ]
      refine takeH 6 (v := ?va6) rfl (by kernel_rfl) (by kernel_rfl) (by kernel_rfl) (fun _ _ _ h => h) hH rfl ?ya6 ?ra6
      case ya6 => intro W hSw; go_simp; try with_reducible rfl
      try simp only [Act.put, List.setIfInBounds_toArray, List.set_cons_zero, List.set_cons_succ]
      refine takeH 7 (v := ?va7) rfl (by kernel_rfl) (by kernel_rfl) (by kernel_rfl) (fun _ _ _ h => h) hH rfl ?ya7 ?ra7
      case ya7 => intro W hSw; go_simp; try with_reducible rfl
      try simp only [Act.put, List.setIfInBounds_toArray, List.set_cons_zero, List.set_cons_succ]
      refine callH 8 rfl (by kernel_rfl) rfl (fun K hK => ?_)
      go_simp
      go_at_call 114
      refine (HS1.out _ (Hi2.out.below hH.1) (Hsrc.out _ hH.1).2).mono ?_
      rintro e wx ⟨rfl, hbx⟩
      refine hK.out _ _ ⟨hH.1.trans (hbx.mono hH.1.size), (hbx.cell (p := ⟨b, off + k * 4, none⟩) (Hbs.out _ hH.1).1).trans hH.2.1, (hbx.cell (p := ⟨b, off + k * 4 + 1, none⟩) (Hbs.out _ hH.1).1).trans hH.2.2.1, (hbx.cell (p := ⟨b, off + k * 4 + 2, none⟩) (Hbs.out _ hH.1).1).trans hH.2.2.2.1, (hbx.cell (p := ⟨b, off + k * 4 + 3, none⟩) (Hbs.out _ hH.1).1).trans hH.2.2.2.2.1, (hbx.cell (p := ⟨w.heap.size, 0, none⟩) (Hbs.out _ hH.1).2).trans hH.2.2.2.2.2.1, (hbx.cell (p := ⟨w.heap.size, 1, none⟩) (Hbs.out _ hH.1).2).trans hH.2.2.2.2.2.2.1, (hbx.cell (p := ⟨w.heap.size, 2, none⟩) (Hbs.out _ hH.1).2).trans hH.2.2.2.2.2.2.2.1, (hbx.cell (p := ⟨w.heap.size, 3, none⟩) (Hbs.out _ hH.1).2).trans hH.2.2.2.2.2.2.2.2⟩ (fun hH => ?_)
      clear hK K
      try simp only [Act.put, List.setIfInBounds_toArray, List.set_cons_zero, List.set_cons_succ]
      refine takeH 9 (v := ?va9) rfl (by kernel_rfl) (by kernel_rfl) (by kernel_rfl) (fun _ _ _ h => h) hH rfl ?ya9 ?ra9
      case ya9 => intro W hSw; go_simp; try with_reducible rfl
      try simp only [Act.put, List.setIfInBounds_toArray, List.set_cons_zero, List.set_cons_succ]
      refine takeH 10 (v := ?va10) rfl (by kernel_rfl) (by kernel_rfl) (by kernel_rfl) (fun _ _ _ h => h) hH rfl ?ya10 ?ra10
      case ya10 => intro W hSw; go_simp; try with_reducible rfl
      try simp only [Act.put, List.setIfInBounds_toArray, List.set_cons_zero, List.set_cons_succ]
      refine wpAnyH_done (by kernel_rfl) ?_ _
      try simp only [Act.put]
      obtain ⟨hbw, _⟩ := hH
      have Hbw := Lib.hid hbw; clear hbw
      go_wp2_with fail
      refine (HC.out _ (Hg.out.under Hbw.out)).mono ?_
      rintro e w2 ⟨u, rfl, ho, hb2⟩
      have Ho := Lib.hid ho; clear ho
      have Hb2 := Lib.hid (below_step (Hb0.out.trans (Hbw.out.mono (by omega))) (by have := Hbw.out.size; omega) hb2)
      have Hle := Lib.hid (show w.heap.size ≤ _ from Nat.le_trans Hb0.out.size Hbw.out.size)
      clear hb2
      go_wp2
      go_ret2
      exact ⟨_, by rw [Hz1.out]; rfl, by rw [Hz2.out]; exact Ho.out.from Hle.out, Hb2.out⟩
    | false =>
      rw [hsb] at HS1
      obtain ⟨hz1, hz2⟩ := HA2.out hsb
      have Hz1 := Lib.hid hz1
      have Hz2 := Lib.hid hz2
      clear HA1 HA2 hz1 hz2
      go_wp2_with fail
      refine wp_region_held_drew (S := fun w' => Below W0.heap.size W0 w' ∧ w'.cell? ⟨b, off + k * 4, none⟩ = some (.int .i64 y.r) ∧ w'.cell? ⟨b, off + k * 4 + 1, none⟩ = some (.int .i64 y.a) ∧ w'.cell? ⟨b, off + k * 4 + 2, none⟩ = some (.slice pa' y.ps.length pc') ∧ w'.cell? ⟨b, off + k * 4 + 3, none⟩ = some (.int .i64 y.d) ∧ w'.cell? ⟨w.heap.size, 0, none⟩ = some (.int .i64 x.r) ∧ w'.cell? ⟨w.heap.size, 1, none⟩ = some (.int .i64 x.a) ∧ w'.cell? ⟨w.heap.size, 2, none⟩ = some (.slice pa x.ps.length pc) ∧ w'.cell? ⟨w.heap.size, 3, none⟩ = some (.int .i64 x.d)) (by kernel_rfl) ⟨hb0, c0, c1, c2, c3, k0, k1, k2, k3⟩ (fun hH => ?_)
      refine takeH 0 (v := ?vb0) rfl (by kernel_rfl) (by kernel_rfl) (by kernel_rfl) (fun _ _ _ h => h) hH rfl ?yb0 ?rb0
      case yb0 => intro W hSw; go_simp; try with_reducible rfl
      try simp only [Act.put, List.setIfInBounds_toArray, List.set_cons_zero, List.set_cons_succ]
      refine takeH 1 (v := .bool true) rfl (by kernel_rfl) (by kernel_rfl) (by kernel_rfl) (fun _ _ _ h => h) hH rfl ?yb1 ?rb1
      case yb1 => intro W hSw; go_simp; first | done | simp only [hge] | omega | (simp; omega)
      try simp only [Act.put, List.setIfInBounds_toArray, List.set_cons_zero, List.set_cons_succ]
      refine takeH 2 (v := ?vb2) rfl (by kernel_rfl) (by kernel_rfl) (by kernel_rfl) (fun _ _ _ h => h) hH rfl ?yb2 ?rb2
      case yb2 => intro W hSw; go_simp; try with_reducible rfl
      try simp only [Act.put, List.setIfInBounds_toArray, List.set_cons_zero, List.set_cons_succ]
      refine takeH 3 (v := ?vb3) rfl (by kernel_rfl) (by kernel_rfl) (by kernel_rfl) (fun _ _ _ h => h) hH rfl ?yb3 ?rb3
      case yb3 => intro W hSw; go_simp; try with_reducible rfl
      try simp only [Act.put, List.setIfInBounds_toArray, List.set_cons_zero, List.set_cons_succ]
      refine takeH 4 (v := ?vb4) rfl (by kernel_rfl) (by kernel_rfl) (by kernel_rfl) (fun _ _ _ h => h) hH rfl ?yb4 ?rb4
      case yb4 => intro W hSw; go_simp; try with_reducible rfl
      try simp only [Act.put, List.setIfInBounds_toArray, List.set_cons_zero, List.set_cons_succ]
      refine takeH 5 (v := ?vb5) rfl (by kernel_rfl) (by kernel_rfl) (by kernel_rfl) (fun _ _ _ h => h) hH rfl ?yb5 ?rb5
      case yb5 => intro W hSw; go_simp; try with_reducible rfl
      try simp only [Act.put, List.setIfInBounds_toArray, List.set_cons_zero, List.set_cons_succ]
      refine takeH 6 (v := ?vb6) rfl (by kernel_rfl) (by kernel_rfl) (by kernel_rfl) (fun _ _ _ h => h) hH rfl ?yb6 ?rb6
      case yb6 => intro W hSw; go_simp; try with_reducible rfl
      try simp only [Act.put, List.setIfInBounds_toArray, List.set_cons_zero, List.set_cons_succ]
      refine takeH 7 (v := ?vb7) rfl (by kernel_rfl) (by kernel_rfl) (by kernel_rfl) (fun _ _ _ h => h) hH rfl ?yb7 ?rb7
      case yb7 => intro W hSw; go_simp; try with_reducible rfl
      try simp only [Act.put, List.setIfInBounds_toArray, List.set_cons_zero, List.set_cons_succ]
      refine callH 8 rfl (by kernel_rfl) rfl (fun K hK => ?_)
      go_simp
      go_at_call 114
      refine (HS1.out _ (Hi2.out.below hH.1) (Hsrc.out _ hH.1).2).mono ?_
      rintro e wx ⟨rfl, hbx⟩
      refine hK.out _ _ ⟨hH.1.trans (hbx.mono hH.1.size), (hbx.cell (p := ⟨b, off + k * 4, none⟩) (Hbs.out _ hH.1).1).trans hH.2.1, (hbx.cell (p := ⟨b, off + k * 4 + 1, none⟩) (Hbs.out _ hH.1).1).trans hH.2.2.1, (hbx.cell (p := ⟨b, off + k * 4 + 2, none⟩) (Hbs.out _ hH.1).1).trans hH.2.2.2.1, (hbx.cell (p := ⟨b, off + k * 4 + 3, none⟩) (Hbs.out _ hH.1).1).trans hH.2.2.2.2.1, (hbx.cell (p := ⟨w.heap.size, 0, none⟩) (Hbs.out _ hH.1).2).trans hH.2.2.2.2.2.1, (hbx.cell (p := ⟨w.heap.size, 1, none⟩) (Hbs.out _ hH.1).2).trans hH.2.2.2.2.2.2.1, (hbx.cell (p := ⟨w.heap.size, 2, none⟩) (Hbs.out _ hH.1).2).trans hH.2.2.2.2.2.2.2.1, (hbx.cell (p := ⟨w.heap.size, 3, none⟩) (Hbs.out _ hH.1).2).trans hH.2.2.2.2.2.2.2.2⟩ (fun hH => ?_)
      clear hK K
      try simp only [Act.put, List.setIfInBounds_toArray, List.set_cons_zero, List.set_cons_succ]
      refine takeH 9 (v := ?vb9) rfl (by kernel_rfl) (by kernel_rfl) (by kernel_rfl) (fun _ _ _ h => h) hH rfl ?yb9 ?rb9
      case yb9 => intro W hSw; go_simp; try with_reducible rfl
      try simp only [Act.put, List.setIfInBounds_toArray, List.set_cons_zero, List.set_cons_succ]
      refine takeH 10 (v := ?vb10) rfl (by kernel_rfl) (by kernel_rfl) (by kernel_rfl) (fun _ _ _ h => h) hH rfl ?yb10 ?rb10
      case yb10 => intro W hSw; go_simp; try with_reducible rfl
      try simp only [Act.put, List.setIfInBounds_toArray, List.set_cons_zero, List.set_cons_succ]
      refine wpAnyH_done (by kernel_rfl) ?_ _
      try simp only [Act.put]
      obtain ⟨hbw, _⟩ := hH
      have Hbw := Lib.hid hbw; clear hbw
      have hge' : (0 : Int) ≤ (k : Int) := by omega
      go_wp2_with fail
      refine (HC.out _ (Hg.out.under Hbw.out)).mono ?_
      rintro e w2 ⟨u, rfl, ho, hb2⟩
      have Ho := Lib.hid ho; clear ho
      have Hb2 := Lib.hid (below_step (Hb0.out.trans (Hbw.out.mono (by omega))) (by have := Hbw.out.size; omega) hb2)
      have Hle := Lib.hid (show w.heap.size ≤ _ from Nat.le_trans Hb0.out.size Hbw.out.size)
      clear hb2
      go_wp2
      go_ret2
      exact ⟨_, by rw [Hz1.out]; rfl, by rw [Hz2.out]; exact Ho.out.from Hle.out, Hb2.out⟩
  case inl =>
    clear hno HA1 HA2 HS
    have Hz := Lib.hid hz; clear hz
    rw [Hz.out]
    have hge : decide ((0 : Int) ≤ (-1 : Int)) = false := rfl
    have hb0 : Below W0.heap.size W0 W0.drew := (Below.refl _ _).drew
    go_wp2_with fail
    refine wp_region_held_drew (S := fun w' => Below W0.heap.size W0 w' ∧ w'.cell? ⟨w.heap.size, 0, none⟩ = some (.int .i64 x.r) ∧ w'.cell? ⟨w.heap.size, 1, none⟩ = some (.int .i64 x.a) ∧ w'.cell? ⟨w.heap.size, 2, none⟩ = some (.slice pa x.ps.length pc) ∧ w'.cell? ⟨w.heap.size, 3, none⟩ = some (.int .i64 x.d)) (by kernel_rfl) ⟨hb0, k0, k1, k2, k3⟩ (fun hH => ?_)
    refine takeH 0 (v := ?vc0) rfl (by kernel_rfl) (by kernel_rfl) (by kernel_rfl) (fun _ _ _ h => h) hH rfl ?yc0 ?rc0
    case yc0 => intro W hSw; go_simp; try with_reducible rfl
    try simp only [Act.put, List.setIfInBounds_toArray, List.set_cons_zero, List.set_cons_succ]
    refine takeH 1 (v := .bool false) rfl (by kernel_rfl) (by kernel_rfl) (by kernel_rfl) (fun _ _ _ h => h) hH rfl ?yc1 ?rc1
    case yc1 => intro W hSw; go_simp; first | done | simp only [hge] | omega | (simp; omega)
    try simp only [Act.put, List.setIfInBounds_toArray, List.set_cons_zero, List.set_cons_succ]
    refine takeH 2 (v := ?vc2) rfl (by kernel_rfl) (by kernel_rfl) (by kernel_rfl) (fun _ _ _ h => h) hH rfl ?yc2 ?rc2
    case yc2 => intro W hSw; go_simp; try with_reducible rfl
    try simp only [Act.put, List.setIfInBounds_toArray, List.set_cons_zero, List.set_cons_succ]
    refine skipH 3 rfl (by kernel_rfl) (by kernel_rfl) (by kernel_rfl) (fun _ _ _ h => h) hH rfl ?_
    try simp only [Act.put, List.setIfInBounds_toArray, List.set_cons_zero, List.set_cons_succ]
    refine skipH 4 rfl (by kernel_rfl) (by kernel_rfl) (by kernel_rfl) (fun _ _ _ h => h) hH rfl ?_
    try simp only [Act.put, List.setIfInBounds_toArray, List.set_cons_zero, List.set_cons_succ]
    refine skipH 5 rfl (by kernel_rfl) (by kernel_rfl) (by kernel_rfl) (fun _ _ _ h => h) hH rfl ?_
    try simp only [Act.put, List.setIfInBounds_toArray, List.set_cons_zero, List.set_cons_succ]
    refine skipH 6 rfl (by kernel_rfl) (by kernel_rfl) (by kernel_rfl) (fun _ _ _ h => h) hH rfl ?_
    try simp only [Act.put, List.setIfInBounds_toArray, List.set_cons_zero, List.set_cons_succ]
    refine skipH 7 rfl (by kernel_rfl) (by kernel_rfl) (by kernel_rfl) (fun _ _ _ h => h) hH rfl ?_
    try simp only [Act.put, List.setIfInBounds_toArray, List.set_cons_zero, List.set_cons_succ]
    refine skipH 8 rfl (by kernel_rfl) (by kernel_rfl) (by kernel_rfl) (fun _ _ _ h => h) hH rfl ?_
    try simp only [Act.put, List.setIfInBounds_toArray, List.set_cons_zero, List.set_cons_succ]
    refine takeH 9 (v := ?vc9) rfl (by kernel_rfl) (by kernel_rfl) (by kernel_rfl) (fun _ _ _ h => h) hH rfl ?yc9 ?rc9
    case yc9 => intro W hSw; go_simp; try with_reducible rfl
    try simp only [Act.put, List.setIfInBounds_toArray, List.set_cons_zero, List.set_cons_succ]
    refine takeH 10 (v := ?vc10) rfl (by kernel_rfl) (by kernel_rfl) (by kernel_rfl) (fun _ _ _ h => h) hH rfl ?yc10 ?rc10
    case yc10 => intro W hSw; go_simp; try with_reducible rfl
    try simp only [Act.put, List.setIfInBounds_toArray, List.set_cons_zero, List.set_cons_succ]
    refine wpAnyH_done (by kernel_rfl) ?_ _
    try simp only [Act.put]
    obtain ⟨hbw, k0, k1, k2, k3⟩ := hH
    generalize W0.drew = W1 at *
    have Hbw := Lib.hid hbw; clear hbw
    go_wp2_with fail
    refine (HQ.out W1 (Hg.out.under Hbw.out) (Hsrc.out W1 Hbw.out).2).mono ?_
    rintro e w2 ⟨rfl, hb2⟩
    have Hb2 := Lib.hid (below_step Hbw.out Hbw.out.size hb2)
    have j0 := (hb2.cell (p := ⟨w.heap.size, 0, none⟩) (by have := Hbw.out.size; simp only; omega)).trans k0
    have j1 := (hb2.cell (p := ⟨w.heap.size, 1, none⟩) (by have := Hbw.out.size; simp only; omega)).trans k1
    have j2 := (hb2.cell (p := ⟨w.heap.size, 2, none⟩) (by have := Hbw.out.size; simp only; omega)).trans k2
    have j3 := (hb2.cell (p := ⟨w.heap.size, 3, none⟩) (by have := Hbw.out.size; simp only; omega)).trans k3
    clear hb2 k0 k1 k2 k3 hb0 hge
    have hle2 : w.heap.size ≤ w2.heap.size := by have := Hb2.out.size; omega
    have Hle2 := Lib.hid hle2
    cases hq : parB g ⟨x.r, x.a, x.ps, x.d⟩ with
    | false =>
      obtain ⟨hz1, hz2⟩ := HA3.out Hz.out hq
      have Hz1 := Lib.hid hz1
      have Hz2 := Lib.hid hz2
      clear HA3 HA4 hz1 hz2 HO HD HB
      go_wp2_with fail
      refine (HC.out w2 (Hg.out.under Hb2.out)).mono ?_
      rintro e w3 ⟨u, rfl, ho, hb3⟩
      have Ho := Lib.hid ho; clear ho
      have Hb3 := Lib.hid (below_step (Hb0.out.trans (Hb2.out.mono (by omega))) hle2 hb3)
      clear hb3
      go_wp2
      go_ret2
      exact ⟨_, by rw [Hz1.out]; rfl, by rw [Hz2.out]; exact Ho.out.from Hle2.out, Hb3.out⟩
    | true =>
      obtain ⟨hz1, hz2⟩ := HA4.out Hz.out hq
      have Hz1 := Lib.hid hz1
      have Hz2 := Lib.hid hz2
      clear HA3 HA4 hz1 hz2 HC HQ
      have hbE : Below w2.heap.size w2 (w2.alloc (.cells #[] 30)) := (Below.refl _ _).alloc (Nat.le_refl _) _
      have hv0 : OwnR 30 3 4 (w2.alloc (.cells #[] 30)) w2.heap.size (w2.alloc (.cells #[] 30)).heap.size (.slice (some ⟨w2.heap.size, 0, none⟩) 0 0) [] := .nil (World.ownsRow_made w2 #[] 0 (Nat.le_refl _) (by simp) (by simp)) (fun g e => by cases e; simp)
      have Hv0 := Lib.hid hv0; clear hv0
      have HbE := Lib.hid hbE; clear hbE
      have hX : ∀ W, Below w2.heap.size w2 W → Str W w.heap.size 30 #[.int .i64 x.r, .int .i64 x.a, .slice pa x.ps.length pc, .int .i64 x.d] := fun W hW => ((Hb2.out.trans (hW.mono Hb2.out.size)).block _ (by omega)).trans Hs0.out
      have HX := Lib.hid hX; clear hX
      have Hins := Lib.hid (fun k (hk : k < g.length) => insN_at (g := g) (x := x) (k := k) hk)
      have Hend := Lib.hid (fun n => insN_end (g := g) (x := x) (n := n))
      clear j0 j1 j2 j3
      go_wp2
      go_loopw [7, 8] (fun u i wr => ∃ k : Nat, k ≤ g.length ∧ i = .int .i64 k ∧ Upto (befAt g x) k ∧ OwnR 30 3 4 wr w2.heap.size wr.heap.size u ((g.take k).map Vx.fd) ∧ Below w2.heap.size w2 wr) (fun _ i _ => g.length - (intOf i).toNat)
      case atStart => exact ⟨0, Nat.zero_le _, rfl, upto_zero _, by simpa using Hv0.out, HbE.out⟩
      case round =>
        obtain ⟨k, hk, rfl, hup, hbld, hbel⟩ := hrel
        have Hbld := Lib.hid hbld; clear hbld
        have Hbel := Lib.hid hbel; clear hbel
        have Hup := Lib.hid hup; clear hup
        have sx := HX.out wr Hbel.out
        have k0 := sx.cell 0 (v := .int .i64 x.r) rfl
        have k1 := sx.cell 1 (v := .int .i64 x.a) rfl
        have k2 := sx.cell 2 (v := .slice pa x.ps.length pc) rfl
        have k3 := sx.cell 3 (v := .int .i64 x.d) rfl
        have hwx := sx.lt
        clear sx
        by_cases hlt : k < g.length
        · obtain ⟨b, off, rfl, hb, hat⟩ := (Hg.out.under (Hb2.out.trans (Hbel.out.mono Hb2.out.size))).at (by omega)
          obtain ⟨c0, c1, ⟨pa', pc', c2, i2, s2⟩, c3⟩ := hat k hlt
          have Hi2 := Lib.hid i2
          have Hs2 := Lib.hid s2
          clear i2 s2
          have hpy := HP.out _ (List.getElem_mem hlt)
          have hba : befAt g x k = befB g[k] x := by unfold befAt; rw [getV hlt]
          have HBk := Lib.hid (HB.out (g[k]'hlt) pa' pc')
          have Hex := Lib.hid (show (g.take (k + 1)).map Vx.fd = (g.take k).map Vx.fd ++ [[.i g[k].r, .i g[k].a, .l g[k].ps, .i g[k].d]] by rw [List.take_succ_eq_append_getElem hlt, List.map_append]; rfl)
          have hb0 : Below wr.heap.size wr wr.drew := (Below.refl _ _).drew
          have Hbs := Lib.hid (fun w' (h : Below wr.heap.size wr w') => (⟨Nat.lt_of_lt_of_le hb h.size, Nat.lt_of_lt_of_le hwx h.size⟩ : b < w'.heap.size ∧ w.heap.size < w'.heap.size))
          clear hat hb hwx
          have hll : decide ((k : Int) < (g.length : Int)) = true := decide_eq_true (by omega)
          have Hba := Lib.hid hba; clear hba
          generalize hy : g[k] = y at *
          have Hy := Lib.hid hy; clear hy
          cases hbf : befB y x with
          | true =>
            rw [hbf] at HBk
            have Hup1 := Lib.hid (upto_step Hup.out (by rw [Hba.out, hbf]))
            clear Hins Hend HD
            go_wp2_with fail
            refine wp_region_held_drew (S := fun w' => Below wr.heap.size wr w' ∧ w'.cell? ⟨b, off + k * 4, none⟩ = some (.int .i64 y.r) ∧ w'.cell? ⟨b, off + k * 4 + 1, none⟩ = some (.int .i64 y.a) ∧ w'.cell? ⟨b, off + k * 4 + 2, none⟩ = some (.slice pa' y.ps.length pc') ∧ w'.cell? ⟨b, off + k * 4 + 3, none⟩ = some (.int .i64 y.d) ∧ w'.cell? ⟨w.heap.size, 0, none⟩ = some (.int .i64 x.r) ∧ w'.cell? ⟨w.heap.size, 1, none⟩ = some (.int .i64 x.a) ∧ w'.cell? ⟨w.heap.size, 2, none⟩ = some (.slice pa x.ps.length pc) ∧ w'.cell? ⟨w.heap.size, 3, none⟩ = some (.int .i64 x.d)) (by kernel_rfl) ⟨hb0, c0, c1, c2, c3, k0, k1, k2, k3⟩ (fun hH => ?_)
            refine takeH 0 (v := ?vd0) rfl (by kernel_rfl) (by kernel_rfl) (by kernel_rfl) (fun _ _ _ h => h) hH rfl ?yd0 ?rd0
            case yd0 => intro W hSw; go_simp; try with_reducible rfl
            try simp only [Act.put, List.setIfInBounds_toArray, List.set_cons_zero, List.set_cons_succ]
            refine takeH 1 (v := ?vd1) rfl (by kernel_rfl) (by kernel_rfl) (by kernel_rfl) (fun _ _ _ h => h) hH rfl ?yd1 ?rd1
            case yd1 => intro W hSw; go_simp; try with_reducible rfl
            try simp only [Act.put, List.setIfInBounds_toArray, List.set_cons_zero, List.set_cons_succ]
            refine takeH 2 (v := ?vd2) rfl (by kernel_rfl) (by kernel_rfl) (by kernel_rfl) (fun _ _ _ h => h) hH rfl ?yd2 ?rd2
            case yd2 => intro W hSw; go_simp; try with_reducible rfl
            try simp only [Act.put, List.setIfInBounds_toArray, List.set_cons_zero, List.set_cons_succ]
            refine takeH 3 (v := .bool true) rfl (by kernel_rfl) (by kernel_rfl) (by kernel_rfl) (fun _ _ _ h => h) hH rfl ?yd3 ?rd3
            case yd3 => intro W hSw; go_simp; first | done | simp only [hll] | omega | (simp; omega)
            try simp only [Act.put, List.setIfInBounds_toArray, List.set_cons_zero, List.set_cons_succ]
            refine takeH 4 (v := ?vd4) rfl (by kernel_rfl) (by kernel_rfl) (by kernel_rfl) (fun _ _ _ h => h) hH rfl ?yd4 ?rd4
            case yd4 => intro W hSw; go_simp; try with_reducible rfl
            try simp only [Act.put, List.setIfInBounds_toArray, List.set_cons_zero, List.set_cons_succ]
            refine takeH 5 (v := ?vd5) rfl (by kernel_rfl) (by kernel_rfl) (by kernel_rfl) (fun _ _ _ h => h) hH rfl ?yd5 ?rd5
            case yd5 => intro W hSw; go_simp; try with_reducible rfl
            try simp only [Act.put, List.setIfInBounds_toArray, List.set_cons_zero, List.set_cons_succ]
            refine takeH 6 (v := ?vd6) rfl (by kernel_rfl) (by kernel_rfl) (by kernel_rfl) (fun _ _ _ h => h) hH rfl ?yd6 ?rd6
            case yd6 => intro W hSw; go_simp; try with_reducible rfl
            try simp only [Act.put, List.setIfInBounds_toArray, List.set_cons_zero, List.set_cons_succ]
            refine takeH 7 (v := ?vd7) rfl (by kernel_rfl) (by kernel_rfl) (by kernel_rfl) (fun _ _ _ h => h) hH rfl ?yd7 ?rd7
            case yd7 => intro W hSw; go_simp; try with_reducible rfl
            try simp only [Act.put, List.setIfInBounds_toArray, List.set_cons_zero, List.set_cons_succ]
            refine takeH 8 (v := ?vd8) rfl (by kernel_rfl) (by kernel_rfl) (by kernel_rfl) (fun _ _ _ h => h) hH rfl ?yd8 ?rd8
            case yd8 => intro W hSw; go_simp; try with_reducible rfl
            try simp only [Act.put, List.setIfInBounds_toArray, List.set_cons_zero, List.set_cons_succ]
            refine takeH 9 (v := ?vd9) rfl (by kernel_rfl) (by kernel_rfl) (by kernel_rfl) (fun _ _ _ h => h) hH rfl ?yd9 ?rd9
            case yd9 => intro W hSw; go_simp; try with_reducible rfl
            try simp only [Act.put, List.setIfInBounds_toArray, List.set_cons_zero, List.set_cons_succ]
            refine callH 10 rfl (by kernel_rfl) rfl (fun K hK => ?_)
            go_simp
            go_at_call 56
            refine (HBk.out _).mono ?_
            rintro e wz ⟨rfl, hbx⟩
            refine hK.out _ _ ⟨hH.1.trans (hbx.mono hH.1.size), (hbx.cell (p := ⟨b, off + k * 4, none⟩) (Hbs.out _ hH.1).1).trans hH.2.1, (hbx.cell (p := ⟨b, off + k * 4 + 1, none⟩) (Hbs.out _ hH.1).1).trans hH.2.2.1, (hbx.cell (p := ⟨b, off + k * 4 + 2, none⟩) (Hbs.out _ hH.1).1).trans hH.2.2.2.1, (hbx.cell (p := ⟨b, off + k * 4 + 3, none⟩) (Hbs.out _ hH.1).1).trans hH.2.2.2.2.1, (hbx.cell (p := ⟨w.heap.size, 0, none⟩) (Hbs.out _ hH.1).2).trans hH.2.2.2.2.2.1, (hbx.cell (p := ⟨w.heap.size, 1, none⟩) (Hbs.out _ hH.1).2).trans hH.2.2.2.2.2.2.1, (hbx.cell (p := ⟨w.heap.size, 2, none⟩) (Hbs.out _ hH.1).2).trans hH.2.2.2.2.2.2.2.1, (hbx.cell (p := ⟨w.heap.size, 3, none⟩) (Hbs.out _ hH.1).2).trans hH.2.2.2.2.2.2.2.2⟩ (fun hH => ?_)
            clear hK K
            try simp only [Act.put, List.setIfInBounds_toArray, List.set_cons_zero, List.set_cons_succ]
            refine takeH 11 (v := ?vd11) rfl (by kernel_rfl) (by kernel_rfl) (by kernel_rfl) (fun _ _ _ h => h) hH rfl ?yd11 ?rd11
            case yd11 => intro W hSw; go_simp; try with_reducible rfl
            try simp only [Act.put, List.setIfInBounds_toArray, List.set_cons_zero, List.set_cons_succ]
            refine wpAnyH_done (by kernel_rfl) ?_ _
            try simp only [Act.put]
            obtain ⟨hbw, c0, c1, c2, c3, _⟩ := hH
            have Hbw := Lib.hid hbw
            have Hone := Lib.hid (HO.out y pa' pc' _ hpy (Hs2.out.under Hi2.out hbw) (Hi2.out.below hbw))
            have hbz := below_step Hbel.out Hbel.out.size hbw
            have hel : ((g.take k).map Vx.fd).length ≤ 1048576 := by simp; omega
            have Hbld := Lib.hid (Hbld.out.below hbw (Nat.le_refl _))
            have hsw := hbw.size
            clear hbw
            generalize (g.take k).map Vx.fd = es at *
            go_wp2_with fail
            refine Hone.out.mono ?_
            rintro e w6 ⟨v2, rfl, hown2, hb6⟩
            obtain ⟨a2, c2', rfl, _, _⟩ := hown2.ints
            have hs6 := hb6.size
            have Hbld6 := Lib.hid (Hbld.out.below hb6 hsw)
            have hbz2 := hbz.size
            obtain ⟨hfd, hap, hnew⟩ := vertex_new (B := w2.heap.size) y.r y.a y.d hown2 hbz2
            have Hfd := Lib.hid hfd; clear hfd
            have Hap := Lib.hid hap; clear hap
            have Hnew := Lib.hid (fun c hc g e => Nat.le_trans hsw (hnew c hc g e)); clear hnew hown2 c0 c1 c2 c3
            have hbz6 := below_step hbz hbz2 hb6
            have hB6 := hbz6.size
            have Hbz6 := Lib.hid hbz6; clear hbz6 hbz hb6
            go_wp2_with (at_builtin; refine wpList_push_own (Ei := 3) Try.underlying24 vertex_inf rfl (by decide) (by decide) rfl (.tmp 56) (.tmp 62) rfl w2.heap.size _ es _ _ _ rfl rfl (by intro u hu; simp at hu; rcases hu with rfl | rfl | rfl | rfl <;> rfl) rfl rfl Hfd.out Hap.out wr.heap.size Hbld6.out (by omega) Hnew.out hel rfl hB6 ?_; intro v8 w8 hbld8 hg8 hat8)
            go_roundw
            case rel => exact ⟨k + 1, by omega, by go_num, Hup1.out, by rw [Hex.out]; exact hbld8, Hbz6.out.grown hg8 hB6 (fun g e => (Hbld6.out.lt g e).1)⟩
            case measure => simp [intOf]; omega
          | false =>
            rw [hbf] at HBk
            have hnk := Hins.out k hlt Hup.out (by rw [Hba.out, hbf])
            clear Hins Hend
            go_wp2_with fail
            refine wp_region_held_drew (S := fun w' => Below wr.heap.size wr w' ∧ w'.cell? ⟨b, off + k * 4, none⟩ = some (.int .i64 y.r) ∧ w'.cell? ⟨b, off + k * 4 + 1, none⟩ = some (.int .i64 y.a) ∧ w'.cell? ⟨b, off + k * 4 + 2, none⟩ = some (.slice pa' y.ps.length pc') ∧ w'.cell? ⟨b, off + k * 4 + 3, none⟩ = some (.int .i64 y.d) ∧ w'.cell? ⟨w.heap.size, 0, none⟩ = some (.int .i64 x.r) ∧ w'.cell? ⟨w.heap.size, 1, none⟩ = some (.int .i64 x.a) ∧ w'.cell? ⟨w.heap.size, 2, none⟩ = some (.slice pa x.ps.length pc) ∧ w'.cell? ⟨w.heap.size, 3, none⟩ = some (.int .i64 x.d)) (by kernel_rfl) ⟨hb0, c0, c1, c2, c3, k0, k1, k2, k3⟩ (fun hH => ?_)
            refine takeH 0 (v := ?ve0) rfl (by kernel_rfl) (by kernel_rfl) (by kernel_rfl) (fun _ _ _ h => h) hH rfl ?ye0 ?re0
            case ye0 => intro W hSw; go_simp; try with_reducible rfl
            try simp only [Act.put, List.setIfInBounds_toArray, List.set_cons_zero, List.set_cons_succ]
            refine takeH 1 (v := ?ve1) rfl (by kernel_rfl) (by kernel_rfl) (by kernel_rfl) (fun _ _ _ h => h) hH rfl ?ye1 ?re1
            case ye1 => intro W hSw; go_simp; try with_reducible rfl
            try simp only [Act.put, List.setIfInBounds_toArray, List.set_cons_zero, List.set_cons_succ]
            refine takeH 2 (v := ?ve2) rfl (by kernel_rfl) (by kernel_rfl) (by kernel_rfl) (fun _ _ _ h => h) hH rfl ?ye2 ?re2
            case ye2 => intro W hSw; go_simp; try with_reducible rfl
            try simp only [Act.put, List.setIfInBounds_toArray, List.set_cons_zero, List.set_cons_succ]
            refine takeH 3 (v := .bool true) rfl (by kernel_rfl) (by kernel_rfl) (by kernel_rfl) (fun _ _ _ h => h) hH rfl ?ye3 ?re3
            case ye3 => intro W hSw; go_simp; first | done | simp only [hll] | omega | (simp; omega)
            try simp only [Act.put, List.setIfInBounds_toArray, List.set_cons_zero, List.set_cons_succ]
            refine takeH 4 (v := ?ve4) rfl (by kernel_rfl) (by kernel_rfl) (by kernel_rfl) (fun _ _ _ h => h) hH rfl ?ye4 ?re4
            case ye4 => intro W hSw; go_simp; try with_reducible rfl
            try simp only [Act.put, List.setIfInBounds_toArray, List.set_cons_zero, List.set_cons_succ]
            refine takeH 5 (v := ?ve5) rfl (by kernel_rfl) (by kernel_rfl) (by kernel_rfl) (fun _ _ _ h => h) hH rfl ?ye5 ?re5
            case ye5 => intro W hSw; go_simp; try with_reducible rfl
            try simp only [Act.put, List.setIfInBounds_toArray, List.set_cons_zero, List.set_cons_succ]
            refine takeH 6 (v := ?ve6) rfl (by kernel_rfl) (by kernel_rfl) (by kernel_rfl) (fun _ _ _ h => h) hH rfl ?ye6 ?re6
            case ye6 => intro W hSw; go_simp; try with_reducible rfl
            try simp only [Act.put, List.setIfInBounds_toArray, List.set_cons_zero, List.set_cons_succ]
            refine takeH 7 (v := ?ve7) rfl (by kernel_rfl) (by kernel_rfl) (by kernel_rfl) (fun _ _ _ h => h) hH rfl ?ye7 ?re7
            case ye7 => intro W hSw; go_simp; try with_reducible rfl
            try simp only [Act.put, List.setIfInBounds_toArray, List.set_cons_zero, List.set_cons_succ]
            refine takeH 8 (v := ?ve8) rfl (by kernel_rfl) (by kernel_rfl) (by kernel_rfl) (fun _ _ _ h => h) hH rfl ?ye8 ?re8
            case ye8 => intro W hSw; go_simp; try with_reducible rfl
            try simp only [Act.put, List.setIfInBounds_toArray, List.set_cons_zero, List.set_cons_succ]
            refine takeH 9 (v := ?ve9) rfl (by kernel_rfl) (by kernel_rfl) (by kernel_rfl) (fun _ _ _ h => h) hH rfl ?ye9 ?re9
            case ye9 => intro W hSw; go_simp; try with_reducible rfl
            try simp only [Act.put, List.setIfInBounds_toArray, List.set_cons_zero, List.set_cons_succ]
            refine callH 10 rfl (by kernel_rfl) rfl (fun K hK => ?_)
            go_simp
            go_at_call 56
            refine (HBk.out _).mono ?_
            rintro e wz ⟨rfl, hbx⟩
            refine hK.out _ _ ⟨hH.1.trans (hbx.mono hH.1.size), (hbx.cell (p := ⟨b, off + k * 4, none⟩) (Hbs.out _ hH.1).1).trans hH.2.1, (hbx.cell (p := ⟨b, off + k * 4 + 1, none⟩) (Hbs.out _ hH.1).1).trans hH.2.2.1, (hbx.cell (p := ⟨b, off + k * 4 + 2, none⟩) (Hbs.out _ hH.1).1).trans hH.2.2.2.1, (hbx.cell (p := ⟨b, off + k * 4 + 3, none⟩) (Hbs.out _ hH.1).1).trans hH.2.2.2.2.1, (hbx.cell (p := ⟨w.heap.size, 0, none⟩) (Hbs.out _ hH.1).2).trans hH.2.2.2.2.2.1, (hbx.cell (p := ⟨w.heap.size, 1, none⟩) (Hbs.out _ hH.1).2).trans hH.2.2.2.2.2.2.1, (hbx.cell (p := ⟨w.heap.size, 2, none⟩) (Hbs.out _ hH.1).2).trans hH.2.2.2.2.2.2.2.1, (hbx.cell (p := ⟨w.heap.size, 3, none⟩) (Hbs.out _ hH.1).2).trans hH.2.2.2.2.2.2.2.2⟩ (fun hH => ?_)
            clear hK K
            try simp only [Act.put, List.setIfInBounds_toArray, List.set_cons_zero, List.set_cons_succ]
            refine takeH 11 (v := ?ve11) rfl (by kernel_rfl) (by kernel_rfl) (by kernel_rfl) (fun _ _ _ h => h) hH rfl ?ye11 ?re11
            case ye11 => intro W hSw; go_simp; try with_reducible rfl
            try simp only [Act.put, List.setIfInBounds_toArray, List.set_cons_zero, List.set_cons_succ]
            refine wpAnyH_done (by kernel_rfl) ?_ _
            try simp only [Act.put]
            have hbw := hH.1
            clear hH
            have Hbz := Lib.hid (below_step Hbel.out Hbel.out.size hbw)
            have Hbldz := Lib.hid (Hbld.out.below hbw (Nat.le_refl _))
            have hrz := hbw.size
            clear hbw c0 c1 c2 c3 HBk Hbs Hex Hbld
            have Hbld := Hbldz
            generalize (some (⟨b, off, none⟩ : Addr)) = va at *
            have hlk : ((g.take k).map Vx.fd).length = k := by simp; omega
            have hel : ((g.take k).map Vx.fd).length ≤ 1048576 := by omega
            obtain ⟨au, cu, rfl, _⟩ := Hbld.out.slice
            have Hlk := Lib.hid hlk
            rw [hlk] at Hbldz
            clear hlk hel Hbld
            have sx := HX.out wz Hbz.out
            have k0 := sx.cell 0 (v := .int .i64 x.r) rfl
            have k1 := sx.cell 1 (v := .int .i64 x.a) rfl
            have k2 := sx.cell 2 (v := .slice pa x.ps.length pc) rfl
            have k3 := sx.cell 3 (v := .int .i64 x.d) rfl
            clear sx
            have hbz0 := Hb2.out.trans (Hbz.out.mono Hb2.out.size)
            have Hbz0 := Lib.hid hbz0; clear hbz0
            obtain ⟨hsz1, hsz2⟩ := Hsrc.out wz Hbz0.out
            have Hone := Lib.hid (HO.out x pa pc wz hbp hsz1 hsz2); clear hsz1 hsz2
            have Hex := Lib.hid (show (insG g x).map Vx.fd = ((g.take k).map Vx.fd ++ [[.i x.r, .i x.a, .l x.ps, .i x.d]]) ++ (g.drop k).map Vx.fd by unfold insG; rw [hnk, List.map_append, List.map_append]; rfl)
            have hdl : (g.drop k).length = g.length - k := List.length_drop
            rw [Hlk.out]
            generalize (g.take k).map Vx.fd = es at *
            go_wp2_with fail
            refine Hone.out.mono ?_
            rintro e w7 ⟨v7, rfl, hown7, hb7⟩
            obtain ⟨a7, c7, rfl, _, _⟩ := hown7.ints
            have hs7 := hb7.size
            have hbz2 := Hbz.out.size
            have Hbld7 := Lib.hid ((Hbldz.out.below hb7 hrz))
            obtain ⟨hfd, hap, hnew⟩ := vertex_new (B := w2.heap.size) x.r x.a x.d hown7 hbz2
            have Hfd := Lib.hid hfd; clear hfd
            have Hap := Lib.hid hap; clear hap
            have Hnew := Lib.hid (fun c hc g e => Nat.le_trans hrz (hnew c hc g e)); clear hnew hown7 k0 k1 k2 k3
            have Hbz7 := Lib.hid (below_step Hbz.out Hbz.out.size hb7); clear hb7
            have hB7 : w2.heap.size ≤ w7.heap.size := by omega
            have hlk := Hlk.out
            have hel : es.length ≤ 1048576 := by omega
            clear hlk
            obtain ⟨ad2, hif⟩ : ∃ ad2, (if vc = k then va else va.map fun x => x.add (k * 4)) = ad2 := ⟨_, rfl⟩
            go_wp2_with (at_builtin; refine wpList_push_own (Ei := 3) Try.underlying24 vertex_inf rfl (by decide) (by decide) rfl (.tmp 66) (.tmp 69) rfl w2.heap.size _ es _ _ _ rfl rfl (by intro u hu; simp at hu; rcases hu with rfl | rfl | rfl | rfl <;> rfl) rfl rfl Hfd.out Hap.out wr.heap.size Hbld7.out (by omega) Hnew.out hel rfl hB7 ?_; intro v8 w8 hbld8 hg8 hat8)
            have hown8 := hbld8
            obtain ⟨a8, c8, rfl, hm8⟩ := hown8.slice
            have hl8 : (es ++ [[Fd.i x.r, .i x.a, .l x.ps, .i x.d]]).length = k + 1 := by rw [List.length_append, Hlk.out]; rfl
            rw [hl8] at hbld8 ⊢
            clear hm8 hl8
            have Hbz8 := Lib.hid (Hbz7.out.grown hg8 hB7 (fun g e => (Hbld7.out.lt g e).1))
            have Hbld8 := Lib.hid hbld8; clear hbld8 hown8 hg8 hat8 Hfd Hap Hnew
            have hgr := Hg.out.under (Hb2.out.trans (Hbz8.out.mono Hb2.out.size))
            have hB8 := Hbz8.out.size
            obtain ⟨fp2, hgr2⟩ := hgr.tail k hk
            rw [hif] at hgr2
            have Hcopy := Lib.hid (HD.out k _ fp2 w8 hgr2); clear hgr2 hgr HD hif
            refine Hcopy.out.mono ?_
            rintro e w9 ⟨u9, rfl, ho9, hb9⟩
            have Hbld9 := Lib.hid (Hbld8.out.below hb9 (Nat.le_refl _))
            have Ho9 := Lib.hid ho9; clear ho9
            have hs9 := hb9.size
            have Hbz9 := Lib.hid (below_step Hbz8.out hB8 hb9); clear hb9
            have hB9 : w2.heap.size ≤ w9.heap.size := by omega
            have hmm : (es ++ [[Fd.i x.r, .i x.a, .l x.ps, .i x.d]]).length + ((g.drop k).map Vx.fd).length ≤ 2097152 := by rw [List.length_append, List.length_map, hdl, Hlk.out]; simp; omega
            go_wp2_with (at_builtin; refine wpList_app_own (Ei := 3) Try.underlying24 vertex_inf rfl (by decide) (by decide) rfl (.tmp 71) (.tmp 75) rfl w2.heap.size _ u9 _ _ rfl w8.heap.size w8.heap.size w9.heap.size Hbld9.out Ho9.out (Nat.le_refl _) (Nat.le_refl _) hB8 hmm rfl hB9 ?_; intro v10 w10 hbld10 hg10)
            go_ret2
            exact ⟨_, by rw [Hz1.out]; rfl, by rw [Hz2.out, Hex.out]; exact hbld10.from (by omega), Hb0.out.trans ((Hb2.out.trans ((Hbz9.out.grown hg10 hB9 (fun g e => (Hbld9.out.lt g e).1)).mono Hb2.out.size)).mono (by omega))⟩
        · have hnk := Hend.out k Hup.out (by omega)
          have hll : decide ((k : Int) < (g.length : Int)) = false := decide_eq_false (by omega)
          have hb0 : Below wr.heap.size wr wr.drew := (Below.refl _ _).drew
          clear Hins Hend
          go_wp2_with fail
          refine wp_region_held_drew (S := fun w' => Below wr.heap.size wr w' ∧ w'.cell? ⟨w.heap.size, 0, none⟩ = some (.int .i64 x.r) ∧ w'.cell? ⟨w.heap.size, 1, none⟩ = some (.int .i64 x.a) ∧ w'.cell? ⟨w.heap.size, 2, none⟩ = some (.slice pa x.ps.length pc) ∧ w'.cell? ⟨w.heap.size, 3, none⟩ = some (.int .i64 x.d)) (by kernel_rfl) ⟨hb0, k0, k1, k2, k3⟩ (fun hH => ?_)
          refine takeH 0 (v := ?vf0) rfl (by kernel_rfl) (by kernel_rfl) (by kernel_rfl) (fun _ _ _ h => h) hH rfl ?yf0 ?rf0
          case yf0 => intro W hSw; go_simp; try with_reducible rfl
          try simp only [Act.put, List.setIfInBounds_toArray, List.set_cons_zero, List.set_cons_succ]
          refine takeH 1 (v := ?vf1) rfl (by kernel_rfl) (by kernel_rfl) (by kernel_rfl) (fun _ _ _ h => h) hH rfl ?yf1 ?rf1
          case yf1 => intro W hSw; go_simp; try with_reducible rfl
          try simp only [Act.put, List.setIfInBounds_toArray, List.set_cons_zero, List.set_cons_succ]
          refine takeH 2 (v := ?vf2) rfl (by kernel_rfl) (by kernel_rfl) (by kernel_rfl) (fun _ _ _ h => h) hH rfl ?yf2 ?rf2
          case yf2 => intro W hSw; go_simp; try with_reducible rfl
          try simp only [Act.put, List.setIfInBounds_toArray, List.set_cons_zero, List.set_cons_succ]
          refine takeH 3 (v := .bool false) rfl (by kernel_rfl) (by kernel_rfl) (by kernel_rfl) (fun _ _ _ h => h) hH rfl ?yf3 ?rf3
          case yf3 => intro W hSw; go_simp; first | done | simp only [hll] | omega | (simp; omega)
          try simp only [Act.put, List.setIfInBounds_toArray, List.set_cons_zero, List.set_cons_succ]
          refine takeH 4 (v := ?vf4) rfl (by kernel_rfl) (by kernel_rfl) (by kernel_rfl) (fun _ _ _ h => h) hH rfl ?yf4 ?rf4
          case yf4 => intro W hSw; go_simp; try with_reducible rfl
          try simp only [Act.put, List.setIfInBounds_toArray, List.set_cons_zero, List.set_cons_succ]
          refine skipH 5 rfl (by kernel_rfl) (by kernel_rfl) (by kernel_rfl) (fun _ _ _ h => h) hH rfl ?_
          try simp only [Act.put, List.setIfInBounds_toArray, List.set_cons_zero, List.set_cons_succ]
          refine skipH 6 rfl (by kernel_rfl) (by kernel_rfl) (by kernel_rfl) (fun _ _ _ h => h) hH rfl ?_
          try simp only [Act.put, List.setIfInBounds_toArray, List.set_cons_zero, List.set_cons_succ]
          refine skipH 7 rfl (by kernel_rfl) (by kernel_rfl) (by kernel_rfl) (fun _ _ _ h => h) hH rfl ?_
          try simp only [Act.put, List.setIfInBounds_toArray, List.set_cons_zero, List.set_cons_succ]
          refine skipH 8 rfl (by kernel_rfl) (by kernel_rfl) (by kernel_rfl) (fun _ _ _ h => h) hH rfl ?_
          try simp only [Act.put, List.setIfInBounds_toArray, List.set_cons_zero, List.set_cons_succ]
          refine skipH 9 rfl (by kernel_rfl) (by kernel_rfl) (by kernel_rfl) (fun _ _ _ h => h) hH rfl ?_
          try simp only [Act.put, List.setIfInBounds_toArray, List.set_cons_zero, List.set_cons_succ]
          refine skipH 10 rfl (by kernel_rfl) (by kernel_rfl) (by kernel_rfl) (fun _ _ _ h => h) hH rfl ?_
          try simp only [Act.put, List.setIfInBounds_toArray, List.set_cons_zero, List.set_cons_succ]
          refine takeH 11 (v := ?vf11) rfl (by kernel_rfl) (by kernel_rfl) (by kernel_rfl) (fun _ _ _ h => h) hH rfl ?yf11 ?rf11
          case yf11 => intro W hSw; go_simp; try with_reducible rfl
          try simp only [Act.put, List.setIfInBounds_toArray, List.set_cons_zero, List.set_cons_succ]
          refine wpAnyH_done (by kernel_rfl) ?_ _
          try simp only [Act.put]
          have hbw := hH.1
          clear hH hb0 k0 k1 k2 k3
          generalize wr.drew = wz at *
          have Hbz := Lib.hid (below_step Hbel.out Hbel.out.size hbw)
          have Hbldz := Lib.hid (Hbld.out.below hbw (Nat.le_refl _))
          have hrz := hbw.size
          clear hbw Hbld
          have Hbld := Hbldz
          have hlk : ((g.take k).map Vx.fd).length = k := by simp; omega
          have hel : ((g.take k).map Vx.fd).length ≤ 1048576 := by omega
          obtain ⟨au, cu, rfl, _⟩ := Hbld.out.slice
          have Hlk := Lib.hid hlk
          rw [hlk] at Hbldz
          clear hlk hel Hbld
          have sx := HX.out wz Hbz.out
          have k0 := sx.cell 0 (v := .int .i64 x.r) rfl
          have k1 := sx.cell 1 (v := .int .i64 x.a) rfl
          have k2 := sx.cell 2 (v := .slice pa x.ps.length pc) rfl
          have k3 := sx.cell 3 (v := .int .i64 x.d) rfl
          clear sx
          have hbz0 := Hb2.out.trans (Hbz.out.mono Hb2.out.size)
          have Hbz0 := Lib.hid hbz0; clear hbz0
          obtain ⟨hsz1, hsz2⟩ := Hsrc.out wz Hbz0.out
          have Hone := Lib.hid (HO.out x pa pc wz hbp hsz1 hsz2); clear hsz1 hsz2
          have Hex := Lib.hid (show (insG g x).map Vx.fd = ((g.take k).map Vx.fd ++ [[.i x.r, .i x.a, .l x.ps, .i x.d]]) ++ (g.drop k).map Vx.fd by unfold insG; rw [hnk, List.map_append, List.map_append]; rfl)
          have hdl : (g.drop k).length = g.length - k := List.length_drop
          rw [Hlk.out]
          generalize (g.take k).map Vx.fd = es at *
          go_wp2_with fail
          refine Hone.out.mono ?_
          rintro e w7 ⟨v7, rfl, hown7, hb7⟩
          obtain ⟨a7, c7, rfl, _, _⟩ := hown7.ints
          have hs7 := hb7.size
          have hbz2 := Hbz.out.size
          have Hbld7 := Lib.hid ((Hbldz.out.below hb7 hrz))
          obtain ⟨hfd, hap, hnew⟩ := vertex_new (B := w2.heap.size) x.r x.a x.d hown7 hbz2
          have Hfd := Lib.hid hfd; clear hfd
          have Hap := Lib.hid hap; clear hap
          have Hnew := Lib.hid (fun c hc g e => Nat.le_trans hrz (hnew c hc g e)); clear hnew hown7 k0 k1 k2 k3
          have Hbz7 := Lib.hid (below_step Hbz.out Hbz.out.size hb7); clear hb7
          have hB7 : w2.heap.size ≤ w7.heap.size := by omega
          have hlk := Hlk.out
          have hel : es.length ≤ 1048576 := by omega
          clear hlk
          obtain ⟨ad2, hif⟩ : ∃ ad2, (if vc = k then va else va.map fun x => x.add (k * 4)) = ad2 := ⟨_, rfl⟩
          go_wp2_with (at_builtin; refine wpList_push_own (Ei := 3) Try.underlying24 vertex_inf rfl (by decide) (by decide) rfl (.tmp 66) (.tmp 69) rfl w2.heap.size _ es _ _ _ rfl rfl (by intro u hu; simp at hu; rcases hu with rfl | rfl | rfl | rfl <;> rfl) rfl rfl Hfd.out Hap.out wr.heap.size Hbld7.out (by omega) Hnew.out hel rfl hB7 ?_; intro v8 w8 hbld8 hg8 hat8)
          have hown8 := hbld8
          obtain ⟨a8, c8, rfl, hm8⟩ := hown8.slice
          have hl8 : (es ++ [[Fd.i x.r, .i x.a, .l x.ps, .i x.d]]).length = k + 1 := by rw [List.length_append, Hlk.out]; rfl
          rw [hl8] at hbld8 ⊢
          clear hm8 hl8
          have Hbz8 := Lib.hid (Hbz7.out.grown hg8 hB7 (fun g e => (Hbld7.out.lt g e).1))
          have Hbld8 := Lib.hid hbld8; clear hbld8 hown8 hg8 hat8 Hfd Hap Hnew
          have hgr := Hg.out.under (Hb2.out.trans (Hbz8.out.mono Hb2.out.size))
          have hB8 := Hbz8.out.size
          obtain ⟨fp2, hgr2⟩ := hgr.tail k hk
          rw [hif] at hgr2
          have Hcopy := Lib.hid (HD.out k _ fp2 w8 hgr2); clear hgr2 hgr HD hif
          refine Hcopy.out.mono ?_
          rintro e w9 ⟨u9, rfl, ho9, hb9⟩
          have Hbld9 := Lib.hid (Hbld8.out.below hb9 (Nat.le_refl _))
          have Ho9 := Lib.hid ho9; clear ho9
          have hs9 := hb9.size
          have Hbz9 := Lib.hid (below_step Hbz8.out hB8 hb9); clear hb9
          have hB9 : w2.heap.size ≤ w9.heap.size := by omega
          have hmm : (es ++ [[Fd.i x.r, .i x.a, .l x.ps, .i x.d]]).length + ((g.drop k).map Vx.fd).length ≤ 2097152 := by rw [List.length_append, List.length_map, hdl, Hlk.out]; simp; omega
          go_wp2_with (at_builtin; refine wpList_app_own (Ei := 3) Try.underlying24 vertex_inf rfl (by decide) (by decide) rfl (.tmp 71) (.tmp 75) rfl w2.heap.size _ u9 _ _ rfl w8.heap.size w8.heap.size w9.heap.size Hbld9.out Ho9.out (Nat.le_refl _) (Nat.le_refl _) hB8 hmm rfl hB9 ?_; intro v10 w10 hbld10 hg10)
          go_ret2
          exact ⟨_, by rw [Hz1.out]; rfl, by rw [Hz2.out, Hex.out]; exact hbld10.from (by omega), Hb0.out.trans ((Hb2.out.trans ((Hbz9.out.grown hg10 hB9 (fun g e => (Hbld9.out.lt g e).1)).mono Hb2.out.size)).mono (by omega))⟩

end Go.Proofs.Yteglefchkecfjab

/- The reference's adding, merging and measuring of graphs, each by a walk of its text; conditions: lists are shorter than 2^40 (a graph: 2^20). -/
namespace Go.Proofs.Yteglefchkecfjab
open Go.RowKit

theorem vtx_round {c : List Int} {x : Vx} (h : vtxB c x = true) : 0 ≤ x.r ∧ x.r ≤ 30 := by
  unfold vtxB rngB at h; simp only [Bool.and_eq_true, decide_eq_true_eq] at h; exact h.1
theorem graph_vtx {c : List Int} {g : List Vx} (h : graphB c g = true) : ∀ x ∈ g, vtxB c x = true := by
  intro x hx
  obtain ⟨k, hk, rfl⟩ := List.mem_iff_getElem.1 hx
  unfold graphB at h
  simp only [Bool.and_eq_true] at h
  have := allB_upto h.2 k hk
  unfold okV at this
  rw [getV hk] at this
  simp only [Bool.and_eq_true] at this
  exact this.1

def gaB (c : List Int) (g : List Vx) (x : Vx) : Bool := graphB c g && vtxB c x
def gaN (c : List Int) (g : List Vx) (x : Vx) : Int := if gaB c g x = true then addN g x else 4
def gaG (c : List Int) (g : List Vx) (x : Vx) : List Vx := if gaB c g x = true then addG g x else []
theorem ga_no {c : List Int} {g : List Vx} {x : Vx} (h : gaB c g x = false) : gaN c g x = 4 ∧ gaG c g x = [] := ⟨by unfold gaN; rw [if_neg (by simp [h])], by unfold gaG; rw [if_neg (by simp [h])]⟩
theorem ga_yes {c : List Int} {g : List Vx} {x : Vx} (h : gaB c g x = true) : gaN c g x = addN g x ∧ gaG c g x = addG g x := ⟨by unfold gaN; rw [if_pos h], by unfold gaG; rw [if_pos h]⟩
theorem ownR_none (w : World) (w0 : Nat) (h : w0 ≤ w.heap.size) : OwnR 30 3 4 (w.alloc (.cells #[] 30)) w0 (w.alloc (.cells #[] 30)).heap.size (.slice (some ⟨w.heap.size, 0, none⟩) 0 0) (([] : List Vx).map Vx.fd) :=
  .nil (World.ownsRow_made w #[] 0 h (by simp) (by simp)) (fun g e => by cases e; simp)
set_option maxHeartbeats 1000000 in
theorem spec_GraphAdd (ac : Option Addr) (capc : Nat) (c : List Int) (g : List Vx) (v : Value) (fp : List Nat) (x : Vx) (pa : Option Addr) (pc : Nat) (w : World) (hn : c.length ≤ 1099511627776) (hbig : g.length ≤ 1048576) (hps : ∀ y ∈ g, y.ps.length ≤ 1099511627776) (hbp : x.ps.length ≤ 1099511627776) (hc : IntsAt w ac c) (hg : Gr w g v fp) (hs : SrcAt w pa pc x.ps) (hi : IntsAt w pa x.ps) :
    Calls Try.prog 17 #[.slice ac c.length capc, v, .agg #[.int .i64 x.r, .int .i64 x.a, .slice pa x.ps.length pc, .int .i64 x.d]] w fun e w' => ∃ u, e = .returned (.tuple #[u, .int .i64 (gaN c g x)]) ∧ OwnR 30 3 4 w' w.heap.size w'.heap.size u ((gaG c g x).map Vx.fd) ∧ Below w.heap.size w w' := by
  have hb0 : Below w.heap.size w (w.alloc (.cells #[.int .i64 x.r, .int .i64 x.a, .slice pa x.ps.length pc, .int .i64 x.d] 30)) := (Below.refl _ _).alloc (Nat.le_refl _) _
  have s0 := Str.new w 30 #[.int .i64 x.r, .int .i64 x.a, .slice pa x.ps.length pc, .int .i64 x.d]
  have k0 := s0.cell 0 (v := .int .i64 x.r) rfl
  have k1 := s0.cell 1 (v := .int .i64 x.a) rfl
  have k2 := s0.cell 2 (v := .slice pa x.ps.length pc) rfl
  have k3 := s0.cell 3 (v := .int .i64 x.d) rfl
  have hsz0 : (w.alloc (.cells #[.int .i64 x.r, .int .i64 x.a, .slice pa x.ps.length pc, .int .i64 x.d] 30)).heap.size = w.heap.size + 1 := by simp
  have Hs := Lib.hid (hs.under hi hb0); clear hs
  have Hi := Lib.hid (hi.below hb0); clear hi
  have Hc := Lib.hid (hc.below hb0); clear hc
  have Hg := Lib.hid (hg.under hb0); clear hg
  have Hb := Lib.hid hb0; clear hb0
  have Hs0 := Lib.hid s0; clear s0
  have HV := Lib.hid (fun W h h' => spec_GraphValid ac capc c g v fp W hn (by omega) hps h h')
  have hno := ga_no (c := c) (g := g) (x := x)
  have hyes := ga_yes (c := c) (g := g) (x := x)
  cases hgb : graphB c g with
  | false =>
    rw [hgb] at HV
    obtain ⟨hz1, hz2⟩ := hno (by unfold gaB; rw [hgb]; rfl)
    have Hz1 := Lib.hid hz1
    have Hz2 := Lib.hid hz2
    clear hz1 hz2 hno hyes
    go_enter Try.func17, Try.ntmps17
    go_wp2_with fail
    generalize w.alloc (.cells #[.int .i64 x.r, .int .i64 x.a, .slice pa x.ps.length pc, .int .i64 x.d] 30) = W0 at *
    refine (HV.out W0 Hc.out Hg.out).mono ?_
    rintro e w1 ⟨rfl, hb1⟩
    have Hb1 := Lib.hid (below_step Hb.out Hb.out.size hb1)
    clear hb1
    go_wp2
    go_ret2
    exact ⟨_, by rw [Hz1.out]; rfl, by rw [Hz2.out]; exact ownR_none _ _ Hb1.out.size, Hb1.out.alloc Hb1.out.size _⟩
  | true =>
    rw [hgb] at HV
    have hv : validB c = true := by unfold graphB at hgb; simp only [Bool.and_eq_true] at hgb; exact hgb.1
    have HX := Lib.hid (fun W h h' => spec_l11Vertex ac capc c x.r x.a x.d pa pc x.ps W hv hbp h h')
    cases hxb : vtxB c x with
    | false =>
      rw [show vtxB c ⟨x.r, x.a, x.ps, x.d⟩ = false from hxb] at HX
      obtain ⟨hz1, hz2⟩ := hno (by unfold gaB; rw [hgb, hxb]; rfl)
      have Hz1 := Lib.hid hz1
      have Hz2 := Lib.hid hz2
      clear hz1 hz2 hno hyes
      go_enter Try.func17, Try.ntmps17
      go_wp2_with fail
      generalize w.alloc (.cells #[.int .i64 x.r, .int .i64 x.a, .slice pa x.ps.length pc, .int .i64 x.d] 30) = W0 at *
      refine (HV.out W0 Hc.out Hg.out).mono ?_
      rintro e w1 ⟨rfl, hb1⟩
      have Hb1 := Lib.hid (below_step Hb.out Hb.out.size hb1)
      have s1 := (hb1.block _ Hs0.out.lt).trans Hs0.out
      have k0 := Str.cell s1 0 (v := .int .i64 x.r) rfl
      have k1 := Str.cell s1 1 (v := .int .i64 x.a) rfl
      have k2 := Str.cell s1 2 (v := .slice pa x.ps.length pc) rfl
      have k3 := Str.cell s1 3 (v := .int .i64 x.d) rfl
      have HX1 := Lib.hid (HX.out w1 (Hc.out.below hb1) (Hi.out.below hb1))
      clear hb1 s1
      go_wp2_with fail
      refine HX1.out.mono ?_
      rintro e w2 ⟨rfl, hb2⟩
      have Hb2 := Lib.hid (below_step Hb1.out Hb1.out.size hb2)
      clear hb2
      go_wp2
      go_ret2
      exact ⟨_, by rw [Hz1.out]; rfl, by rw [Hz2.out]; exact ownR_none _ _ Hb2.out.size, Hb2.out.alloc Hb2.out.size _⟩
    | true =>
      rw [show vtxB c ⟨x.r, x.a, x.ps, x.d⟩ = true from hxb] at HX
      obtain ⟨hz1, hz2⟩ := hyes (by unfold gaB; rw [hgb, hxb]; rfl)
      have Hz1 := Lib.hid hz1
      have Hz2 := Lib.hid hz2
      have hrr := vtx_round hxb
      have HA := Lib.hid (fun W h1 h2 h3 => spec_l11Add g v fp x pa pc W hbig hps hbp hrr.1 (by omega) h1 h2 h3)
      clear hz1 hz2 hno hyes
      go_enter Try.func17, Try.ntmps17
      go_wp2_with fail
      generalize w.alloc (.cells #[.int .i64 x.r, .int .i64 x.a, .slice pa x.ps.length pc, .int .i64 x.d] 30) = W0 at *
      refine (HV.out W0 Hc.out Hg.out).mono ?_
      rintro e w1 ⟨rfl, hb1⟩
      have Hb1 := Lib.hid (below_step Hb.out Hb.out.size hb1)
      have s1 : Str w1 w.heap.size 30 #[.int .i64 x.r, .int .i64 x.a, .slice pa x.ps.length pc, .int .i64 x.d] := (hb1.block _ Hs0.out.lt).trans Hs0.out
      have k0 := Str.cell s1 0 (v := .int .i64 x.r) rfl
      have k1 := Str.cell s1 1 (v := .int .i64 x.a) rfl
      have k2 := Str.cell s1 2 (v := .slice pa x.ps.length pc) rfl
      have k3 := Str.cell s1 3 (v := .int .i64 x.d) rfl
      have HX1 := Lib.hid (HX.out w1 (Hc.out.below hb1) (Hi.out.below hb1))
      have Hs1 := Lib.hid (Hs.out.under Hi.out hb1)
      have Hi1 := Lib.hid (Hi.out.below hb1)
      have Hg1 := Lib.hid (Hg.out.under hb1)
      have Hst1 := Lib.hid s1
      clear hb1 s1
      go_wp2_with fail
      refine HX1.out.mono ?_
      rintro e w2 ⟨rfl, hb2⟩
      have Hb2 := Lib.hid (below_step Hb1.out Hb1.out.size hb2)
      have s1 : Str w2 w.heap.size 30 #[.int .i64 x.r, .int .i64 x.a, .slice pa x.ps.length pc, .int .i64 x.d] := (hb2.block _ Hst1.out.lt).trans Hst1.out
      have k0 := Str.cell s1 0 (v := .int .i64 x.r) rfl
      have k1 := Str.cell s1 1 (v := .int .i64 x.a) rfl
      have k2 := Str.cell s1 2 (v := .slice pa x.ps.length pc) rfl
      have k3 := Str.cell s1 3 (v := .int .i64 x.d) rfl
      have HA2 := Lib.hid (HA.out w2 (Hg1.out.under hb2) (Hs1.out.under Hi1.out hb2) (Hi1.out.below hb2))
      clear hb2 s1
      go_wp2_with fail
      refine HA2.out.mono ?_
      rintro e w3 ⟨u, rfl, ho, hb3⟩
      have Ho := Lib.hid (ho.from Hb2.out.size)
      have Hb3 := Lib.hid (below_step Hb2.out Hb2.out.size hb3)
      clear ho hb3
      go_wp2
      go_ret2
      exact ⟨_, by rw [Hz1.out]; rfl, by rw [Hz2.out]; exact Ho.out, Hb3.out⟩

end Go.Proofs.Yteglefchkecfjab

/- Lists of truth values in memory of their own; general steps, nothing here speaks of the program. -/
namespace Go.Proofs.Yteglefchkecfjab
open Go.RowKit

/-- The slice value v owns the truth values bs in memory made from block B on. -/
def OwnB (E : TypeId) (w : World) (B : Nat) (v : Value) (bs : List Bool) : Prop := w.ownsRow B E 1 v bs.length (bs.map Value.bool)
section
variable {E : TypeId} {w w' : World} {B : Nat} {v : Value} {bs : List Bool}
theorem OwnB.kept {row : Option Nat} (h : OwnB E w B v bs) (hg : w.grownBy w' row) (hne : v.ownBlock = none ∨ v.ownBlock ≠ row) : OwnB E w' B v bs := World.ownsRow.kept h hg hne
theorem OwnB.below (h : OwnB E w B v bs) (hg : Below w.heap.size w w') : OwnB E w' B v bs := h.kept (below_grown hg) (by cases hv : v.ownBlock <;> simp)
theorem OwnB.lt (h : OwnB E w B v bs) : ∀ k, v.ownBlock = some k → B ≤ k ∧ k < w.heap.size := World.ownsRow.lt h
theorem OwnB.mono {B' : Nat} (h : OwnB E w B v bs) (hB : B' ≤ B) : OwnB E w B' v bs := by
  refine ⟨h.1, ?_⟩
  rcases h.2 with h0 | ⟨g, cap, cur, e, hb, rest⟩
  · exact .inl h0
  · exact .inr ⟨g, cap, cur, e, by omega, rest⟩
theorem OwnB.slice (h : OwnB E w B v bs) : ∃ a cap, v = .slice a bs.length cap ∧ bs.length ≤ maxLen := by
  rcases h.2 with ⟨rfl, h0⟩ | ⟨g, cap, cur, rfl, hb, hg, hn, hm, hs, ht⟩
  · exact ⟨none, 0, by rw [h0], by rw [h0]; simp⟩
  · exact ⟨_, cap, rfl, by omega⟩
theorem OwnB.row (h : OwnB E w B v bs) (hx : 0 < bs.length) : ∃ g cap, v = .slice (some ⟨g, 0, none⟩) bs.length cap ∧ B ≤ g ∧ g < w.heap.size ∧ bs.length ≤ cap ∧
    (∀ j (h : j < bs.length), w.cell? ⟨g, j, none⟩ = some (.bool bs[j])) ∧ ∀ j, w.frozen? ⟨g, j, none⟩ = false := by
  rcases h.2 with ⟨rfl, h0⟩ | ⟨g, cap, cur, rfl, hb, hg, hn, hm, hs, ht⟩
  · omega
  · refine ⟨g, cap, rfl, hb, (Array.getElem?_eq_some_iff.1 hg).1, hn, fun j hj => ?_, fun j => frozen_of_row w g j cur E hg⟩
    have hc := World.ownsRow.cells (w := w) (base := B) (e := E) (size := 1) (v := .slice (some ⟨g, 0, none⟩) bs.length cap) (n := bs.length) (xs := bs.map Value.bool) h (g := g) rfl j (.bool bs[j]) (by simp [hj])
    rwa [addr_add] at hc
theorem OwnB.store {g cap n : Nat} (h : OwnB E w B (.slice (some ⟨g, 0, none⟩) n cap) bs) (hn : n = bs.length) (j : Nat) (z : Bool) :
    OwnB E (w.setCell ⟨g, j, none⟩ (.bool z)) B (.slice (some ⟨g, 0, none⟩) n cap) (bs.set j z) ∧ w.grownBy (w.setCell ⟨g, j, none⟩ (.bool z)) (some g) := by
  subst hn
  have := World.ownsRow.stored (w := w) (base := B) (e := E) (size := 1) (g := g) (n := bs.length) (cap := cap) h j (.bool z)
  refine ⟨?_, this.2⟩
  unfold OwnB
  rw [List.map_set, List.length_set]
  exact this.1
theorem OwnB.apart {E' : TypeId} {B' : Nat} {u : Value} {xs : List Int} (h' : OwnB E w B v bs) (h : Own E' w B' u xs) (hE : E ≠ E') : v.ownBlock = none ∨ v.ownBlock ≠ u.ownBlock := by
  rcases h'.2 with ⟨rfl, _⟩ | ⟨g, cap, cur, rfl, _, hg, _⟩
  · exact .inl rfl
  · rcases h.2 with ⟨rfl, _⟩ | ⟨g', cap', cur', rfl, _, hg', _⟩
    · exact .inr (fun e => by cases e)
    · refine .inr fun e => hE ?_
      have e' : g = g' := by cases e; rfl
      subst e'
      rw [hg] at hg'
      cases hg'
      rfl
/-- New memory holds no truth. -/
theorem ownB_new (E : TypeId) (w : World) (n : Nat) (hm : n ≤ maxLen) : OwnB E (w.alloc (.cells (madeCells #[.bool false] n) E)) w.heap.size (.slice (some ⟨w.heap.size, 0, none⟩) n n) (List.replicate n false) := by
  have e : (madeCells #[Value.bool false] n).toList = (List.replicate n false).map Value.bool := by
    refine List.ext_getElem (by simp [madeCells]) fun i h1 h2 => ?_
    simp [madeCells, Nat.mod_one]
  have hs : (madeCells #[Value.bool false] n).size = n := by simp [madeCells]
  refine ⟨by simp, .inr ⟨w.heap.size, n, _, by simp, Nat.le_refl _, heap_alloc_new w _, by simp, hm, by rw [hs, Nat.mul_one], ?_⟩⟩
  rw [e]
  exact List.take_of_length_le (by simp)
end

end Go.Proofs.Yteglefchkecfjab
