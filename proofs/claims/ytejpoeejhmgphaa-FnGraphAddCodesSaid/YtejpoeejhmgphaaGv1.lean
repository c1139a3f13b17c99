/- Graphs of vertices: what they are as lists, and the reference's tests of vertices and graphs, each by a walk of its text; conditions: lists are shorter than 2^40, and where the text asks it, the committee is valid. -/
import Derived.Test.YtejpoeejhmgphaaRows
import Derived.Test.YtejpoeejhmgphaaBase
import Derived.Test.YtejpoeejhmgphaaApp
import Derived.Test.YtejpoeejhmgphaaDt
import Derived.Test.YtejpoeejhmgphaaOwR
import Derived.Test.YtejpoeejhmgphaaRow
import Derived.Test.YtejpoeejhmgphaaHeld
import Derived.Test.YtejpoeejhmgphaaRVertex
import Derived.Test.YtejpoeejhmgphaaC1
import Derived.Test.YtejpoeejhmgphaaC2
import Derived.Deep.QuietTactic
import Derived.BigQuiet
namespace Go.Proofs.Ytejpoeejhmgphaa
open Go.RowKit

/-- A vertex: round, author, parents, digest. -/
structure Vx where
  r : Int
  a : Int
  ps : List Int
  d : Int
deriving DecidableEq
def Vx.fd (v : Vx) : List Fd := [.i v.r, .i v.a, .l v.ps, .i v.d]
def vx0 : Vx := ⟨0, 0, [], 0⟩
def quorumZ (c : List Int) : Int := 2 * totalZ c / 3 + 1
def rngB (r : Int) : Bool := decide (0 ≤ r ∧ r ≤ 30)
def autB (n : Nat) (a : Int) : Bool := decide (0 ≤ a ∧ a ≤ (n : Int) - 1)
def quoB (c : List Int) (v : Vx) : Bool := if v.r = 0 then decide (v.ps.length = 0) else decide (quorumZ c ≤ weightZ c v.ps)
/-- The vertex is valid for a committee that is valid. -/
def vtxB (c : List Int) (v : Vx) : Bool := rngB v.r && (autB c.length v.a && (membersB c.length v.ps && (digB v.d && quoB c v)))
def sameRA (r a : Int) (v : Vx) : Bool := decide (v.r = r ∧ v.a = a)
/-- The index of the vertex with this round and author, or -1. -/
def findZ (g : List Vx) (r a : Int) : Int := match g.findIdx? (sameRA r a) with | some k => k | none => -1
def hasP (g : List Vx) (r : Int) (ps : List Int) (k : Nat) : Bool := decide (0 ≤ findZ g (r - 1) (ps.getD k 0))
def parB (g : List Vx) (v : Vx) : Bool := allB (hasP g v.r v.ps) v.ps.length
def befB (a b : Vx) : Bool := decide (a.r < b.r ∨ a.r = b.r ∧ a.a < b.a)
def okV (c : List Int) (g : List Vx) (i : Nat) : Bool := vtxB c (g.getD i vx0) && ((i == 0 || befB (g.getD (i - 1) vx0) (g.getD i vx0)) && parB g (g.getD i vx0))
def graphB (c : List Int) (g : List Vx) : Bool := validB c && allB (okV c g) g.length

theorem getV {g : List Vx} {k : Nat} (h : k < g.length) : g.getD k vx0 = g[k] := by simp [List.getD, List.getElem?_eq_getElem h]
theorem findZ_yes {g : List Vx} {r a : Int} {k : Nat} (hk : k < g.length) (h : Upto (fun j => !sameRA r a (g.getD j vx0)) k) (hs : sameRA r a g[k] = true) : findZ g r a = k := by
  unfold findZ
  rw [List.findIdx?_eq_some_iff_getElem.2 ⟨hk, hs, fun j hj => by
    have := h j hj
    simp only [getV (show j < g.length by omega)] at this
    simpa using this⟩]
theorem findZ_no {g : List Vx} {r a : Int} {n : Nat} (h : Upto (fun j => !sameRA r a (g.getD j vx0)) n) (hn : g.length ≤ n) : findZ g r a = -1 := by
  unfold findZ
  rw [List.findIdx?_eq_none_iff.2 fun v hv => by
    obtain ⟨k, hk, rfl⟩ := List.mem_iff_getElem.1 hv
    have := h k (by omega)
    simp only [getV hk] at this
    simpa using this]
theorem findZ_cases (g : List Vx) (r a : Int) : (findZ g r a = -1 ∧ ∀ v ∈ g, sameRA r a v = false) ∨ ∃ k, ∃ h : k < g.length, findZ g r a = k ∧ sameRA r a g[k] = true ∧ ∀ j (hj : j < k), sameRA r a (g[j]'(by omega)) = false := by
  unfold findZ
  cases h : g.findIdx? (sameRA r a) with
  | none => exact .inl ⟨rfl, fun v hv => by simpa using List.findIdx?_eq_none_iff.1 h v hv⟩
  | some k =>
    obtain ⟨hk, hs, hb⟩ := List.findIdx?_eq_some_iff_getElem.1 h
    exact .inr ⟨k, hk, rfl, hs, fun j hj => by simpa using hb j hj⟩

/-- A graph in memory. -/
def Gr (w : World) (g : List Vx) (v : Value) (fp : List Nat) : Prop := Rd w (rowsD (g.map Vx.fd)) v fp
theorem Gr.under {w w' : World} {g : List Vx} {v : Value} {fp : List Nat} (h : Gr w g v fp) (hb : Below w.heap.size w w') : Gr w' g v fp := Rd.under h hb
theorem Gr.slice {w : World} {g : List Vx} {v : Value} {fp : List Nat} (h : Gr w g v fp) : ∃ a cap, v = .slice a g.length cap := by
  obtain ⟨a, cap, rfl⟩ := Rd.slice h
  exact ⟨a, cap, by simp⟩
theorem Gr.at {w : World} {g : List Vx} {a : Option Addr} {n cap : Nat} {fp : List Nat} (h : Gr w g (.slice a n cap) fp) (hne : 0 < g.length) : ∃ b off, a = some ⟨b, off, none⟩ ∧ b < w.heap.size ∧ ∀ k (hk : k < g.length),
    w.cell? ⟨b, off + k * 4, none⟩ = some (.int .i64 g[k].r) ∧ w.cell? ⟨b, off + k * 4 + 1, none⟩ = some (.int .i64 g[k].a) ∧ (∃ pa pc, w.cell? ⟨b, off + k * 4 + 2, none⟩ = some (.slice pa g[k].ps.length pc) ∧ IntsAt w pa g[k].ps ∧ SrcAt w pa pc g[k].ps) ∧ w.cell? ⟨b, off + k * 4 + 3, none⟩ = some (.int .i64 g[k].d) := by
  obtain ⟨b, off, rfl, hb, hc⟩ := rows_at (es := g.map Vx.fd) (m := 4) h (by simpa using hne) (fun e he => by obtain ⟨x, _, rfl⟩ := List.mem_map.1 he; rfl)
  refine ⟨b, off, rfl, hb, fun k hk => ?_⟩
  have hk' : k < (g.map Vx.fd).length := by simpa using hk
  have he : (g.map Vx.fd)[k] = g[k].fd := by simp
  obtain ⟨c0, _, h0, r0⟩ := hc k hk' 0 (by rw [he]; simp [Vx.fd])
  obtain ⟨c1, _, h1, r1⟩ := hc k hk' 1 (by rw [he]; simp [Vx.fd])
  obtain ⟨c2, _, h2, r2⟩ := hc k hk' 2 (by rw [he]; simp [Vx.fd])
  obtain ⟨c3, _, h3, r3⟩ := hc k hk' 3 (by rw [he]; simp [Vx.fd])
  obtain rfl := rd_i r0 (x := g[k].r) (by simp only [he]; rfl)
  obtain rfl := rd_i r1 (x := g[k].a) (by simp only [he]; rfl)
  obtain ⟨pa, pc, rfl, hi, hs⟩ := rd_ls r2 (xs := g[k].ps) (by simp only [he]; rfl)
  obtain rfl := rd_i r3 (x := g[k].d) (by simp only [he]; rfl)
  exact ⟨h0, h1, ⟨pa, pc, h2, hi, hs⟩, h3⟩

set_option maxHeartbeats 1000000 in
theorem spec_l11Vertex (ac : Option Addr) (capc : Nat) (c : List Int) (r a d : Int) (pa : Option Addr) (pc : Nat) (ps : List Int) (w : World) (hv : validB c = true) (hbig : ps.length ≤ 1099511627776) (hc : IntsAt w ac c) (hp : IntsAt w pa ps) :
    Calls Try.prog 35 #[.slice ac c.length capc, .agg #[.int .i64 r, .int .i64 a, .slice pa ps.length pc, .int .i64 d]] w fun e w' => e = .returned (.bool (vtxB c ⟨r, a, ps, d⟩)) ∧ Below w.heap.size w w' := by
  obtain ⟨hn1, hn7⟩ := validB_len hv
  have hb0 : Below w.heap.size w (w.alloc (.cells #[.int .i64 r, .int .i64 a, .slice pa ps.length pc, .int .i64 d] 30)) := (Below.refl _ _).alloc (Nat.le_refl _) _
  have s0 := Str.new w 30 #[.int .i64 r, .int .i64 a, .slice pa ps.length pc, .int .i64 d]
  have hc0 := hc.below hb0
  have hp0 := hp.below hb0
  have k0 := s0.cell 0 (v := .int .i64 r) rfl
  have k1 := s0.cell 1 (v := .int .i64 a) rfl
  have k2 := s0.cell 2 (v := .slice pa ps.length pc) rfl
  have k3 := s0.cell 3 (v := .int .i64 d) rfl
  have H1 := Lib.hid (fun W => spec_l6In r 0 30 W)
  have H2 := Lib.hid (fun W => spec_l6In a 0 ((c.length : Int) - 1) W)
  have H3 := Lib.hid (fun W (h : IntsAt W pa ps) => spec_l1Members ac capc c.length pa pc ps W (by omega) hbig h)
  have H4 := Lib.hid (fun W => spec_l2Digest d W)
  have H5 := Lib.hid (fun W (hm : membersB c.length ps = true) (h : IntsAt W ac c) (h' : IntsAt W pa ps) => spec_l1Weight ac capc c pa pc ps W hv hm hbig h h')
  have H6 := Lib.hid (fun W (h : IntsAt W ac c) => spec_l1Quorum ac capc c W hv h)
  have hw1 : IntKind.i64.wrap ((c.length : Int) - 1) = c.length - 1 := IntWalk.i64_in _ (by omega)
  have HC := Lib.hid hc0; have HP := Lib.hid hp0; have Hb0 := Lib.hid hb0
  clear hc0 hp0 hb0 s0 hc hp
  have Hres := Lib.hid (show vtxB c ⟨r, a, ps, d⟩ = (rngB r && (autB c.length a && (membersB c.length ps && (digB d && quoB c ⟨r, a, ps, d⟩)))) from rfl)
  go_enter Try.func35, Try.ntmps35
  go_wp2_with fail
  generalize w.alloc (.cells #[.int .i64 r, .int .i64 a, .slice pa ps.length pc, .int .i64 d] 30) = W0 at *
  refine (H1.out W0).mono ?_
  rintro e w1 ⟨rfl, rfl⟩
  rw [show decide (0 ≤ r ∧ r ≤ 30) = rngB r from rfl]
  cases h1 : rngB r with
  | false =>
    go_wp2
    go_ret
    exact ⟨ret_bool (by rw [Hres.out, h1]; rfl), Hb0.out⟩
  | true =>
  go_wp2_with fail
  refine (H2.out W0).mono ?_
  rintro e w1 ⟨rfl, rfl⟩
  rw [show decide (0 ≤ a ∧ a ≤ (c.length : Int) - 1) = autB c.length a from rfl]
  cases h2 : autB c.length a with
  | false =>
    go_wp2
    go_ret
    exact ⟨ret_bool (by rw [Hres.out, h1, h2]; rfl), Hb0.out⟩
  | true =>
  go_wp2_with fail
  refine (H3.out W0 HP.out).mono ?_
  rintro e w1 ⟨rfl, hd1⟩
  have Hb1 := Lib.hid (below_step Hb0.out Hb0.out.size (hd1.below W0.heap.size))
  have HC1 := Lib.hid (HC.out.below (hd1.below W0.heap.size))
  have HP1 := Lib.hid (HP.out.below (hd1.below W0.heap.size))
  have k0 := (hd1.cell _).trans k0
  have k2 := (hd1.cell _).trans k2
  have k3 := (hd1.cell _).trans k3
  clear hd1
  cases h3 : membersB c.length ps with
  | false =>
    go_wp2
    go_ret
    exact ⟨ret_bool (by rw [Hres.out, h1, h2, h3]; rfl), Hb1.out⟩
  | true =>
  go_wp2_with fail
  refine (H4.out w1).mono ?_
  rintro e w2 ⟨rfl, rfl⟩
  cases h4 : digB d with
  | false =>
    go_wp2
    go_ret
    exact ⟨ret_bool (by rw [Hres.out, h1, h2, h3, h4]; rfl), Hb1.out⟩
  | true =>
  have hres : vtxB c ⟨r, a, ps, d⟩ = quoB c ⟨r, a, ps, d⟩ := by rw [Hres.out, h1, h2, h3, h4]; rfl
  have Hr := Lib.hid hres; clear hres
  by_cases hr0 : r = 0
  · have hq : quoB c ⟨r, a, ps, d⟩ = decide (ps.length = 0) := if_pos hr0
    have Hq := Lib.hid hq; clear hq
    subst hr0
    go_wp2
    go_ret
    exact ⟨ret_bool (by rw [Hr.out, Hq.out, Bool.eq_iff_iff, beq_iff_eq, decide_eq_true_iff]; omega), Hb1.out⟩
  · have hq : quoB c ⟨r, a, ps, d⟩ = decide (quorumZ c ≤ weightZ c ps) := if_neg hr0
    have Hq := Lib.hid hq; clear hq
    have hr0' : (r == 0) = false := by simpa using hr0
    go_wp2_with fail
    refine (H5.out w1 h3 HC1.out HP1.out).mono ?_
    rintro e w2 ⟨rfl, rfl⟩
    go_wp2_with fail
    refine (H6.out w1 HC1.out).mono ?_
    rintro e w2 ⟨rfl, rfl⟩
    go_wp2
    go_ret
    exact ⟨ret_bool (by rw [Hr.out, Hq.out]; rfl), Hb1.out⟩

theorem spec_l11Find (g : List Vx) (v : Value) (fp : List Nat) (r a : Int) (w : World) (hbig : g.length ≤ 1099511627776) (hr : Gr w g v fp) :
    Calls Try.prog 33 #[v, .int .i64 r, .int .i64 a] w fun e w' => e = .returned (.int .i64 (findZ g r a)) ∧ w = w' := by
  obtain ⟨va, vc, rfl⟩ := hr.slice
  have Hr := Lib.hid hr; clear hr
  go_enter Try.func33, Try.ntmps33
  go_wp2
  go_loopw [7] (fun i wr => ∃ k : Nat, k ≤ g.length ∧ i = .int .i64 k ∧ Upto (fun j => !sameRA r a (g.getD j vx0)) k ∧ w = wr) (fun i _ => g.length - (intOf i).toNat)
  case atStart => exact ⟨0, by omega, rfl, upto_zero _, rfl⟩
  case round =>
    obtain ⟨k, hk, rfl, hup, rfl⟩ := hrel
    by_cases hlt : k < g.length
    · obtain ⟨b, off, rfl, hb, hat⟩ := Hr.out.at (by omega)
      obtain ⟨c0, c1, _, _⟩ := hat k hlt
      clear hat
      have hgk := getV hlt
      by_cases hs : sameRA r a g[k] = true
      · have hz := findZ_yes hlt hup hs
        unfold sameRA at hs
        obtain ⟨hs1, hs2⟩ := of_decide_eq_true hs
        have Hz := Lib.hid hz; clear hz hs
        have e1 : (g[k].r == r) = true := by simpa using hs1
        have e2 : (g[k].a == a) = true := by simpa using hs2
        clear hs1 hs2
        go_wp2
        go_ret
        exact ⟨by rw [Hz.out]; rfl, rfl⟩
      · have hup' := upto_step hup (k := k) (by simp only [hgk]; simpa using hs)
        have Hup := Lib.hid hup'; clear hup'
        by_cases hs1 : g[k].r = r
        · have hs2 : ¬ g[k].a = a := fun e => hs (decide_eq_true ⟨hs1, e⟩)
          have e2 : (g[k].a == a) = false := by simpa using hs2
          have e1 : (g[k].r == r) = true := by simpa using hs1
          go_wp2
          go_roundw
          case rel => exact ⟨k + 1, by omega, by go_num, Hup.out, trivial⟩
          case measure => simp [intOf]; omega
        · have e1 : (g[k].r == r) = false := by simpa using hs1
          go_wp2
          go_roundw
          case rel => exact ⟨k + 1, by omega, by go_num, Hup.out, trivial⟩
          case measure => simp [intOf]; omega
    · have hz := findZ_no hup (by omega)
      go_wp2
      go_ret
      exact ⟨by rw [hz]; rfl, rfl⟩

end Go.Proofs.Ytejpoeejhmgphaa
