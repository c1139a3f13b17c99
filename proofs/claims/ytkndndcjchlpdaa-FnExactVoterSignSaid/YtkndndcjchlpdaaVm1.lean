/- A map from places (round and author) to digests, as a list of votes with different places: what it holds, and what a store, a look-up, len, a range and a deletion do; general steps over the kit's laws on maps. -/
import Derived.Test.YtkndndcjchlpdaaRows
import Derived.Test.YtkndndcjchlpdaaVt5
import Derived.Maps.RangeWalk
import Derived.Maps.Ext
import Derived.DeepKeys5
namespace Go.Proofs.Ytkndndcjchlpdaa
open Go.RowKit

def inI (n : Int) : Prop := -9223372036854775808 ≤ n ∧ n ≤ 9223372036854775807
theorem inI_wf {n : Int} (h : inI n) : (Lit.int .i64 n).wf = true := WalkArith.wf_i64 h
def plK (r a : Int) : Lit := .string (keyBytes [.int .i64 r, .int .i64 a])
def VtI (v : Vt) : Prop := inI v.r ∧ inI v.a ∧ inI v.d
def SamePl (u v : Vt) : Prop := u.r = v.r ∧ u.a = v.a
def ApartV (g : List Vt) : Prop := g.Pairwise fun u v => ¬ SamePl u v

theorem pl_laid : laidOutB Try.prog = true := by kernel_rfl
theorem pl_law : Maps.Keyed Try.prog 75 := Maps.Keyed.of_law (deep_law_gate pl_laid (by decide +kernel) (by decide +kernel) (by kernel_rfl) (by rw [Try.underlying75]))
theorem pl_fuel : ∃ n, Try.prog.types.size + 1 = n + 2 := by
  have h : 1 ≤ Try.prog.types.size := by decide +kernel
  exact ⟨Try.prog.types.size - 1, by omega⟩
theorem pl_lits (n : Nat) {r a : Int} (h1 : (Lit.int .i64 r).wf = true) (h2 : (Lit.int .i64 a).wf = true) : Try.prog.keyLits (n + 2) 75 [.int .i64 r, .int .i64 a] = some [.int .i64 r, .int .i64 a] := by
  have hc : Try.prog.cellsOf 75 = 2 := by kernel_rfl
  have hi : Try.prog.cellsOf 3 = 1 := by kernel_rfl
  simp [Program.keyLits, Try.underlying75, Try.underlying3, hc, hi, h1, h2]
theorem pl_key {r a : Int} (hr : inI r) (ha : inI a) : keyOf Try.prog 75 (.agg #[.int .i64 r, .int .i64 a]) = some (plK r a) := by
  have h1 := inI_wf hr
  have h2 := inI_wf ha
  have hk : Try.prog.keyType 75 = true := by kernel_rfl
  have hc : Try.prog.cellsOf 75 = 2 := by kernel_rfl
  have hf : (Value.agg #[.int .i64 r, .int .i64 a]).formed Try.prog 75 = true := by simp [Value.formed, Try.underlying75, hc]
  obtain ⟨n, hn⟩ := pl_fuel
  unfold keyOf
  rw [Try.underlying75]
  simp only [hk, hf, Bool.and_self, if_true, hn]
  rw [show (Value.agg #[.int .i64 r, .int .i64 a]).cells.toList = [.int .i64 r, .int .i64 a] from rfl, pl_lits n h1 h2]
  rfl
set_option maxRecDepth 8000 in
theorem int_lits (n : Nat) {c : Value} {ls : List Lit} (h : Try.prog.keyLits (n + 1) 3 [c] = some ls) : ∃ x : Int, inI x ∧ c = .int .i64 x ∧ ls = [.int .i64 x] := by
  unfold Program.keyLits at h
  rw [Try.underlying3] at h
  cases c <;> simp at h
  obtain ⟨⟨h0, h1⟩, h2⟩ := h
  subst h0
  exact ⟨_, wf_i64 h1, rfl, h2.symm⟩
set_option maxRecDepth 8000 in
theorem pl_lits_inv (n : Nat) {c0 c1 : Value} {ls : List Lit} (h : Try.prog.keyLits (n + 2) 75 [c0, c1] = some ls) : ∃ r a : Int, inI r ∧ inI a ∧ c0 = .int .i64 r ∧ c1 = .int .i64 a ∧ ls = [.int .i64 r, .int .i64 a] := by
  have hc : Try.prog.cellsOf 75 = 2 := by kernel_rfl
  have hi : Try.prog.cellsOf 3 = 1 := by kernel_rfl
  unfold Program.keyLits at h
  rw [Try.underlying75] at h
  simp only [hc, List.length_cons, List.length_nil, List.mapM_cons, List.mapM_nil, hi] at h
  split at h
  case isFalse => cases h
  simp only [List.drop_zero, List.drop_succ_cons, List.take_succ_cons, List.take_zero, Option.bind_eq_bind, Option.pure_def] at h
  obtain ⟨x, hx, rfl⟩ := Option.map_eq_some_iff.1 h
  obtain ⟨l0, h0, hx⟩ := Option.bind_eq_some_iff.1 hx
  obtain ⟨l1, h1, hx⟩ := Option.bind_eq_some_iff.1 hx
  obtain ⟨r, hr, rfl, rfl⟩ := int_lits n h0
  obtain ⟨l2, h2, hx2⟩ := Option.bind_eq_some_iff.1 h1
  obtain ⟨a, ha, rfl, rfl⟩ := int_lits n h2
  cases hx2
  cases hx
  exact ⟨r, a, hr, ha, rfl, rfl, rfl⟩
set_option maxRecDepth 8000 in
theorem pl_inv {key : Value} {kl : Lit} (h : keyOf Try.prog 75 key = some kl) : ∃ r a : Int, inI r ∧ inI a ∧ key = .agg #[.int .i64 r, .int .i64 a] ∧ kl = plK r a := by
  have hc : Try.prog.cellsOf 75 = 2 := by kernel_rfl
  obtain ⟨n, hn⟩ := pl_fuel
  have hk : Try.prog.keyType 75 = true := by kernel_rfl
  unfold keyOf at h
  rw [Try.underlying75] at h
  simp only [hk, Bool.true_and, hn] at h
  by_cases hf : key.formed Try.prog 75 = true
  case neg => rw [if_neg hf] at h; cases h
  rw [if_pos hf] at h
  cases key with
  | agg cs =>
    simp only [Value.formed, Try.underlying75, hc, beq_iff_eq] at hf
    obtain ⟨l⟩ := cs
    match l, hf with
    | [c0, c1], _ =>
      rw [show (Value.agg ⟨[c0, c1]⟩).cells.toList = [c0, c1] from rfl] at h
      obtain ⟨ls, h1, h2⟩ := Option.map_eq_some_iff.1 h
      obtain ⟨r, a, hr, ha, rfl, rfl, rfl⟩ := pl_lits_inv n h1
      exact ⟨r, a, hr, ha, rfl, h2.symm⟩
  | _ => simp [Value.formed, Try.underlying75] at hf
theorem pl_inj {r a r' a' : Int} (hr : inI r) (ha : inI a) (hr' : inI r') (ha' : inI a') (h : plK r a = plK r' a') : r = r' ∧ a = a' := by
  have h1 := pl_key hr ha
  have h2 := pl_key hr' ha'
  rw [← h] at h2
  have := pl_law.inj h1 h2
  simpa using this

/-- Block b is a map of these votes' digests by their places. -/
def MapV (w : World) (b : Nat) (g : List Vt) : Prop :=
  (∀ v ∈ g, VtI v) ∧ ApartV g ∧ ∃ D : DataW Unit, w.ownsMap Try.prog 75 (plainElem Try.prog 3) b g.length D ∧ Maps.size D = g.length ∧
    (∀ r a, inI r → inI a → (Maps.has D (plK r a) = true ↔ ∃ v ∈ g, v.r = r ∧ v.a = a)) ∧ ∀ v ∈ g, ∀ zd, D.atKey (plK v.r v.a) zd = .lit (.int .i64 v.d)
theorem mapV_tm : Try.prog.underlying 71 = some (.map 75 3) := Try.underlying71
theorem mapV_int : Try.prog.underlying 3 = some (.int .i64) := Try.underlying3
theorem mapV_zero (w : World) : (zeroValue 3).run Try.prog w = .ok (.int .i64 0) w := by kernel_rfl
theorem MapV.lt {w : World} {b : Nat} {g : List Vt} (h : MapV w b g) : b < w.heap.size := by
  obtain ⟨_, _, D, h, _⟩ := h
  exact h.lt
theorem MapV.kept {w w' : World} {b : Nat} {g : List Vt} {row : Option Nat} (h : MapV w b g) (hg : w.grownBy w' row) (hne : some b ≠ row) : MapV w' b g := by
  obtain ⟨h1, h2, D, h, h3⟩ := h
  exact ⟨h1, h2, D, h.kept hg hne, h3⟩
theorem MapV.drew {w : World} {b : Nat} {g : List Vt} (h : MapV w b g) : MapV w.drew b g := h
theorem MapV.new (w : World) : MapV (w.alloc (.map #[] 0)) w.heap.size [] :=
  ⟨by simp, List.Pairwise.nil, .map [], World.ownsMap_made _ _ _ _, rfl, fun r a _ _ => by simp [Maps.has], by simp⟩
theorem ownsMap_tight {H : Type} {P : Program} {k : TypeId} {R : Value → Option (DataW H × List MemPlace)} {w : World} {b n m : Nat} {D : DataW H} (h : w.ownsMap P k R b n D) (hm : Maps.size D ≤ m) : w.ownsMap P k R b m D := by
  obtain ⟨es, clock, hb, F, hs, rfl⟩ := h
  exact ⟨es, clock, hb, F, by simpa [Maps.size, length_sorted] using hm, rfl⟩
theorem MapV.tidy {w : World} {b : Nat} {g : List Vt} {D : DataW Unit} (h : w.ownsMap Try.prog 75 (plainElem Try.prog 3) b g.length D) : Maps.Tidy D := h.tidy pl_law
/-- A vote for a new place is stored. -/
theorem MapV.store {w : World} {b : Nat} {g : List Vt} (h : MapV w b g) {v : Vt} (hv : VtI v) (hn : ∀ u ∈ g, ¬ SamePl u v) (hlen : g.length ≤ 1099511627776) :
    ∃ w', (Instr.mapUpdate 71 (.map (some b)) (.agg #[.int .i64 v.r, .int .i64 v.a]) (.int .i64 v.d)).run Try.prog w = .ok () w' ∧ MapV w' b (v :: g) ∧ w.grownBy w' (some b) := by
  obtain ⟨h1, h2, D, h, hs, hh, ha⟩ := h
  have hk : WideAt.IsKeyLit (plK v.r v.a) := pl_law.key (pl_key hv.1 hv.2.1)
  have htd := h.tidy pl_law
  obtain ⟨w', hrun, ho, hg⟩ := h.update pl_law mapV_tm (by unfold maxLen; omega) (pl_key hv.1 hv.2.1) (plainElem_int mapV_int (inI_wf hv.2.2))
  have hno : Maps.has D (plK v.r v.a) = false := by
    cases e : Maps.has D (plK v.r v.a) with
    | false => rfl
    | true =>
      obtain ⟨u, hu, e1, e2⟩ := (hh _ _ hv.1 hv.2.1).1 e
      exact absurd ⟨e1, e2⟩ (hn u hu)
  have hne : ∀ r a, inI r → inI a → ¬ (v.r = r ∧ v.a = a) → plK r a ≠ plK v.r v.a := fun r a hr ha' hx e => hx (pl_inj hv.1 hv.2.1 hr ha' e.symm)
  refine ⟨w', hrun, ⟨?_, ?_, _, ho, ?_, ?_, ?_⟩, hg⟩
  · intro u hu
    rcases List.mem_cons.1 hu with e | hu
    · rw [e]; exact hv
    · exact h1 u hu
  · exact List.pairwise_cons.2 ⟨fun u hu e => hn u hu ⟨e.1.symm, e.2.symm⟩, h2⟩
  · rw [Maps.size_put htd, hno, hs]; simp
  · intro r a hr ha'
    by_cases e : v.r = r ∧ v.a = a
    · obtain ⟨rfl, rfl⟩ := e
      rw [Maps.has_put_same htd.isMap hk]
      exact ⟨fun _ => ⟨v, List.mem_cons_self, rfl, rfl⟩, fun _ => rfl⟩
    · rw [Maps.has_put_other (hne r a hr ha' e), hh r a hr ha']
      exact ⟨fun ⟨u, hu, h⟩ => ⟨u, List.mem_cons_of_mem _ hu, h⟩, fun ⟨u, hu, h⟩ => by
        rcases List.mem_cons.1 hu with e' | hu
        · rw [e'] at h; exact absurd h e
        · exact ⟨u, hu, h⟩⟩
  · intro u hu zd
    by_cases e : v.r = u.r ∧ v.a = u.a
    · have hvu : u = v := by
        rcases List.mem_cons.1 hu with e' | hu
        · exact e'
        · exact absurd ⟨e.1.symm, e.2.symm⟩ (hn u hu)
      rw [hvu, Maps.atKey_put_same htd.isMap hk]
    · have hu' : u ∈ g := by
        rcases List.mem_cons.1 hu with e' | hu
        · rw [e'] at e; exact absurd ⟨rfl, rfl⟩ e
        · exact hu
      rw [Maps.atKey_put_other (hne u.r u.a (h1 u hu').1 (h1 u hu').2.1 e)]
      exact ha u hu' zd
set_option maxRecDepth 8000 in
/-- A place is looked up. -/
theorem MapV.look {w : World} {b : Nat} {g : List Vt} (h : MapV w b g) {r a : Int} (hr : inI r) (ha : inI a) :
    ∃ (d : Int) (ok : Bool), (Instr.lookup 71 (.map (some b)) (.agg #[.int .i64 r, .int .i64 a]) true).run Try.prog w = .ok (.tuple #[.int .i64 d, .bool ok]) w ∧ (ok = true ↔ ∃ v ∈ g, v.r = r ∧ v.a = a) ∧ ∀ v ∈ g, v.r = r → v.a = a → d = v.d := by
  obtain ⟨h1, h2, D, h, hs, hh, hat⟩ := h
  obtain ⟨x, ps, hrun, hx⟩ := h.look_ok pl_law mapV_tm (mapV_zero w) (zd := .lit (.int .i64 0)) (zp := []) (plainElem_int mapV_int (by decide)) (pl_key hr ha)
  obtain ⟨d, rfl, hd, hw⟩ := plainElem_int_inv mapV_int hx
  refine ⟨d, _, hrun, hh r a hr ha, fun v hv e1 e2 => ?_⟩
  subst e1 e2
  have := hat v hv (.lit (.int .i64 0))
  have h9 := congrArg Prod.fst hd
  simp only at h9
  rw [this] at h9
  injection h9 with h9
  injection h9 with h8 h9
  exact h9.symm
theorem MapV.len {w : World} {b : Nat} {g : List Vt} (h : MapV w b g) (ty : TypeId) : (Builtin.len_ #[71] ty #[.map (some b)]).run Try.prog w = .ok (.int .i64 g.length) w := by
  obtain ⟨h1, h2, D, h, hs, hh, hat⟩ := h
  rw [← hs]
  exact h.len mapV_tm ty

end Go.Proofs.Ytkndndcjchlpdaa
