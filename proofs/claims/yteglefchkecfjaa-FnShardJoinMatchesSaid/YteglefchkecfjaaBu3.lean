/- Texts that the laws of this folder share, one behind another; no conditions. -/
import Derived.Test.YteglefchkecfjaaBu2
import Derived.Test.YteglefchkecfjaaRows
import Derived.Test.YteglefchkecfjaaBu0
import Derived.Deep.QuietTactic
import Derived.BigQuiet

/- What impl's repair of a shard is, by a walk of its text; conditions: the lists are short, the numbers are ints. -/
namespace Go.Proofs.Yteglefchkecfjaa
open Go.RowKit

def repB (size need : Int) (L : List Sh) (x : Int) : Bool := joinB size need L && decide (1 ≤ x ∧ x ≤ 8)
/-- The shard with a number, of the data that the shards of a list join to. -/
def repS (size need : Int) (L : List Sh) (x : Int) : Sh := if repB size need L x then (x, shardV (joinD size need L) need.toNat x) else (0, [])
theorem rep_no {size need : Int} {L : List Sh} {x : Int} (h : repB size need L x = false) : repS size need L x = (0, []) := by unfold repS; rw [if_neg (by simp [h])]
theorem rep_yes {size need : Int} {L : List Sh} {x : Int} (h : repB size need L x = true) : repS size need L x = (x, shardV (joinD size need L) need.toNat x) := by unfold repS; rw [if_pos h]
theorem join_data {size need : Int} {L : List Sh} (h : joinB size need L = true) : dataB (joinD size need L) need = true := by
  have hD : joinD size need L = dataI size.toNat need.toNat L := by unfold joinD; rw [if_pos h]
  rw [hD]
  unfold joinB joinOk lenB at h
  simp only [Bool.and_eq_true, decide_eq_true_eq, List.all_eq_true] at h
  obtain ⟨⟨⟨hs, hn⟩, ⟨hl, _⟩, _⟩, ha⟩ := h
  have h0 : 0 < L.length := by omega
  have := ha _ (List.getElem_mem h0)
  unfold matB at this
  simp only [Bool.and_eq_true] at this
  exact this.1.1

end Go.Proofs.Yteglefchkecfjaa

/- The draw for joining shards, by a walk of its text, and what the law of a repaired shard that is known asks of the reference's answers. -/
namespace Go.Proofs.Yteglefchkecfjaa
open Go.RowKit

/-- P26: a shard of a list that joins is the one that is repaired. -/
theorem known_law {size need : Int} {L : List Sh} (h : joinB size need L = true) : 0 < L.length ∧ ∀ k (hk : k < L.length), repB size need L L[k].1 = true ∧ repS size need L L[k].1 = L[k] := by
  have h2 := h
  unfold joinB at h2
  rw [Bool.and_eq_true, List.all_eq_true] at h2
  obtain ⟨hs, hn, hl, _⟩ := joinOk_iff h2.1
  refine ⟨by omega, fun k hk => ?_⟩
  have hm := h2.2 _ (List.getElem_mem hk)
  unfold matB at hm
  simp only [Bool.and_eq_true, decide_eq_true_eq] at hm
  have hr : repB size need L L[k].1 = true := by unfold repB; rw [h, decide_eq_true hm.1.2]; rfl
  refine ⟨hr, ?_⟩
  rw [rep_yes hr]
  have hD : joinD size need L = dataI size.toNat need.toNat L := by unfold joinD; rw [if_pos h]
  rw [hD, hm.2]

theorem spec_DrawShardJoin (a : Option Addr) (cap : Nat) (zs : List Int) (w : World) (h : CodeAt w a cap zs) :
    Calls Try.prog 12 #[.slice a zs.length cap] w fun e w' => ∃ (size need : Int) (v : Value) (L : List Sh) (fp : List Nat), e = .returned (.tuple #[.int .i64 size, .int .i64 need, v]) ∧ Rd w' (.l (L.map shardD)) v fp ∧ L.length ≤ 8 ∧ (∀ s ∈ L, s.2.length ≤ 20) ∧ (-100 ≤ size ∧ size ≤ 100) ∧ (-100 ≤ need ∧ need ≤ 100) ∧ Below w.heap.size w w' := by
  go_enter Try.func12, Try.ntmps12
  go_wp2_with fail
  refine (open_any a cap zs _ h).mono ?_
  rintro e w1 ⟨R, rfl, hR1, hR2, hr1, hb1⟩
  have Hr1 := Lib.hid hr1; clear hr1
  have hRl := Hr1.out.lt
  have Hb1 := Lib.hid hb1
  have hs1 := hb1.size
  clear hb1
  go_wp2_with fail
  refine (drawShards R 0 w1 (by omega) Hr1.out hRl).mono ?_
  rintro e w2 ⟨size, need, v, L, fp, rfl, hr, hL, hS, hz1, hz2, hg⟩
  have Hr := Lib.hid hr
  have HS := Lib.hid hS
  have Hg := Lib.hid (Hb1.out.trans (below_of_row' hg (by omega) (by omega)))
  have hL' := hL
  have Hz1 := Lib.hid hz1
  have Hz2 := Lib.hid hz2
  clear hr hS hg hz1 hz2
  go_wp2
  go_ret3
  exact ⟨size, need, v, L, fp, rfl, Hr.out, hL', HS.out, Hz1.out, Hz2.out, Hg.out⟩

end Go.Proofs.Yteglefchkecfjaa

/- What the exact laws keep at hand: lists of numbers in blocks of their own within bounds, rows that came in as arguments; general steps, nothing here speaks of the program. -/
namespace Go.Proofs.Yteglefchkecfjaa
open Go.RowKit

/-- A list of numbers in a block of its own, which lies from lo to before hi. -/
structure OwnI (E : TypeId) (w : World) (lo hi : Nat) (v : Value) (xs : List Int) : Prop where
  own : Own E w lo v xs
  lt : ∀ g, v.ownBlock = some g → g < hi
section
variable {E : TypeId} {w w' : World} {lo hi lo' hi' : Nat} {v : Value} {xs ys : List Int}
theorem OwnI.of (h : Own E w lo v xs) : OwnI E w lo w.heap.size v xs := ⟨h, fun g e => (h.lt g e).2⟩
theorem OwnI.below (h : OwnI E w lo hi v xs) (hb : Below w.heap.size w w') : OwnI E w' lo hi v xs := ⟨h.own.below hb, h.lt⟩
theorem OwnI.btw (h : OwnI E w lo hi v xs) (hb : Btw lo' hi' w w') (hd : hi ≤ lo' ∨ hi' ≤ lo) : OwnI E w' lo hi v xs :=
  ⟨hb.own h.own fun g e => by have := h.own.lt g e; have := h.lt g e; omega, h.lt⟩
theorem OwnI.mark (h : OwnI E w lo hi v xs) (ho : Own E w' lo v ys) : OwnI E w' lo hi v ys := ⟨ho, h.lt⟩
theorem OwnI.marks (h : OwnI E w lo hi v xs) (hg : w.grownBy w' v.ownBlock) : Btw lo hi w w' := .grown hg fun g e => ⟨(h.own.lt g e).1, h.lt g e⟩
theorem OwnI.at {a : Option Addr} {n c : Nat} (h : OwnI E w lo hi (.slice a n c) xs) : IntsAt w a xs := h.own.at
theorem OwnI.ints (h : OwnI E w lo hi v xs) : ∃ a cap, v = .slice a xs.length cap ∧ IntsAt w a xs ∧ xs.length ≤ maxLen := h.own.ints
theorem OwnI.cap {a : Option Addr} {n c : Nat} (h : OwnI E w lo hi (.slice a n c) xs) : xs.length ≤ c := h.own.cap
theorem Str.btw {B : Nat} {t : TypeId} {vs : Array Value} (h : Str w B t vs) (hb : Btw lo hi w w') (hd : B < lo ∨ hi ≤ B) : Str w' B t vs := (hb.block B h.lt (by omega)).trans h
theorem Btw.alloc (w : World) (o : Obj) : Btw lo hi w (w.alloc o) := .grown (World.grownBy_alloc w o none) (by simp)
end

theorem OwnR.from {E Ei : TypeId} {sz : Nat} {w : World} {B B' hi : Nat} {v : Value} {es : List (List Fd)} (h : OwnR E Ei sz w B hi v es) (hB : B' ≤ B) : OwnR E Ei sz w B' hi v es := by
  obtain ⟨cs, h1, h2, h3, h4, h5, h6⟩ := h.row
  refine ⟨h.szs, cs, ⟨h1.1, ?_⟩, fun k j hk hj => ?_, h3, h4, fun p c g a b => ⟨Nat.le_trans hB (h5 p c g a b).1, (h5 p c g a b).2⟩, h6⟩
  · rcases h1.2 with h | ⟨g, cap, cur, e, hb, hrest⟩
    · exact .inl h
    · exact .inr ⟨g, cap, cur, e, Nat.le_trans hB hb, hrest⟩
  obtain ⟨c, hc, hf⟩ := h2 k j hk hj
  refine ⟨c, hc, ?_⟩
  revert hf
  generalize (es[k])[j] = f
  intro hf
  cases f with
  | l xs => exact Own.mono (show Own Ei w B c xs from hf) hB
  | i n => exact hf
  | b n => exact hf
  | s n => exact hf

/-! rows that came in -/
def fitE (e : List Fd) : Prop := (∀ x, Fd.i x ∈ e → -9223372036854775808 ≤ x ∧ x ≤ 9223372036854775807) ∧ ∀ xs, Fd.l xs ∈ e → xs.length ≤ maxLen ∧ ∀ x ∈ xs, -9223372036854775808 ≤ x ∧ x ≤ 9223372036854775807
theorem rows_all {P : List Fd → Prop} : ∀ l : List (List Dt), (∀ e ∈ l, ∃ f : List Fd, e = f.map Fd.dt ∧ P f) → ∃ es : List (List Fd), l = es.map (fun e => e.map Fd.dt) ∧ ∀ e ∈ es, P e
  | [], _ => ⟨[], rfl, by simp⟩
  | e :: l, h => by
    obtain ⟨f, rfl, hf⟩ := h e (by simp)
    obtain ⟨es, rfl, hes⟩ := rows_all l fun e he => h e (List.mem_cons_of_mem _ he)
    refine ⟨f :: es, rfl, fun e he => ?_⟩
    rcases List.mem_cons.1 he with rfl | he
    · exact hf
    · exact hes e he
theorem rows_of {Gs : List (Dt → Prop)} {d : Dt} (h : RowsG Gs d) {P : List Fd → Prop} (hP : ∀ e : List Dt, e.length = Gs.length → (∀ j (h : j < e.length) (h' : j < Gs.length), Gs[j] e[j]) → ∃ f : List Fd, e = f.map Fd.dt ∧ P f) :
    ∃ es, d = rowsD es ∧ es.length ≤ maxLen ∧ ∀ e ∈ es, P e := by
  obtain ⟨l, rfl, hl, he⟩ := h
  obtain ⟨es, rfl, hes⟩ := rows_all l fun e h => hP e (he e h).1 (he e h).2
  exact ⟨es, rfl, by simpa using hl, hes⟩

end Go.Proofs.Yteglefchkecfjaa

/- The exact laws' functions on values and lists of Shard: sameness, copies, sizes, marks, each by a walk of its text; conditions: the lists are no longer than the laws' bound. -/
namespace Go.Proofs.Yteglefchkecfjaa
open Go.RowKit

def shardP (e : List Fd) : Prop := ∃ (x0 : Int) (x1 : List Int), e = [.i x0, .l x1]
theorem shardP_len {es : List (List Fd)} (h : ∀ e ∈ es, shardP e) : ∀ e ∈ es, e.length = 2 := by
  intro e he
  obtain ⟨_, _, rfl⟩ := h e he
  rfl

theorem shard_inf : (Try.prog.info? 32).map (fun i => (i.zero, i.size, i.bytes)) = some (some (.agg #[.int .i64 0, .slice none 0 0]), 2, 32) := by kernel_rfl
theorem shard_new {B hi : Nat} {w : World} (x0 : Int) {a1 : Option Addr} {c1 : Nat} {x1 : List Int} (h : Own 3 w hi (.slice a1 x1.length c1) x1) (hB : B ≤ hi) :
    (∀ j (hj : j < [Fd.i x0, .l x1].length), ∃ c, [Value.int .i64 x0, Value.slice a1 x1.length c1][j]? = some c ∧ FdOk 3 w B c ([Fd.i x0, .l x1])[j]) ∧ (∀ (p q : Nat) c d, [Value.int .i64 x0, Value.slice a1 x1.length c1][p]? = some c → [Value.int .i64 x0, Value.slice a1 x1.length c1][q]? = some d → p ≠ q → Apart c d) ∧ ∀ c ∈ [Value.int .i64 x0, Value.slice a1 x1.length c1], ∀ g, c.ownBlock = some g → hi ≤ g := by
  refine ⟨fun j hj => ?_, fun p q c d hp hq hne g hc hd => ?_, fun c hc g hg => ?_⟩
  · match j, hj with
    | 0, _ => exact ⟨_, rfl, rfl⟩
    | 1, _ => exact ⟨_, rfl, h.mono hB⟩
  · have no : ∀ (p : Nat) c, p ≠ 1 → [Value.int .i64 x0, Value.slice a1 x1.length c1][p]? = some c → c.ownBlock = none := by
      intro p c hp hc
      match p, hc with
      | 0, hc => cases hc; rfl
      | 1, hc => exact absurd rfl hp
      | p + 2, hc => simp at hc
    by_cases e : p = 1
    · have := no q d (fun h => hne (e.trans h.symm)) hq
      rw [this] at hd; cases hd
    · have := no p c e hp
      rw [this] at hc; cases hc
  · simp only [List.mem_cons, List.not_mem_nil, or_false] at hc
    rcases hc with rfl | rfl
    · cases hg
    · exact (h.lt g hg).1

theorem laws_szIntSShard (a : Option Addr) (cap : Nat) (xs : List Int) (left : Nat) (w : World) (hl : left ≤ 1048576) (hbig : xs.length ≤ 9223372036854775807) :
    Calls Try.prog 75 #[.slice a xs.length cap, .int .i64 (left : Int)] w fun e w' => e = .returned (.int .i64 (if xs.length ≤ left then ((left - xs.length : Nat) : Int) else -1)) ∧ w = w' := by
  by_cases h : xs.length ≤ left
  · have h' : ¬ ((left : Int) - (xs.length : Int) < 0) := by omega
    rw [if_pos h]
    go_enter Try.func75, Try.ntmps75
    go_wp2
    go_ret
    exact ⟨ret_int (by omega), rfl⟩
  · have h' : (left : Int) - (xs.length : Int) < 0 := by omega
    rw [if_neg h]
    go_enter Try.func75, Try.ntmps75
    go_wp2
    go_ret
    exact ⟨rfl, rfl⟩

theorem shard_info : (Try.prog.info? 32).map (fun i => (i.zero, i.size, i.bytes)) = some (some (.agg #[.int .i64 0, .slice none 0 0]), 2, 32) := by kernel_rfl

end Go.Proofs.Yteglefchkecfjaa

/- Rows of shards as rows of fields, and how long the answers of ShardJoin and ShardRepair are; no conditions. -/
namespace Go.Proofs.Yteglefchkecfjaa
open Go.RowKit

theorem rows_shards : ∀ {es : List (List Fd)}, (∀ e ∈ es, shardP e) → ∃ L : List (Int × List Int), es = L.map shardF
  | [], _ => ⟨[], rfl⟩
  | e :: es, h => by
    obtain ⟨x, xs, rfl⟩ := h e (by simp)
    obtain ⟨L, rfl⟩ := rows_shards fun e he => h e (List.mem_cons_of_mem _ he)
    exact ⟨(x, xs) :: L, rfl⟩
theorem rowsD_shards (L : List (Int × List Int)) : rowsD (L.map shardF) = .l (L.map shardD) := by
  unfold rowsD
  rw [List.map_map]; rfl
theorem joinD_len (size need : Int) (L : List Sh) : (joinD size need L).length ≤ 12 := by
  cases h : joinB size need L with
  | false => unfold joinD; rw [if_neg (by simp [h])]; simp
  | true =>
    have := join_data h
    unfold dataB at this
    simp only [Bool.and_eq_true, decide_eq_true_eq] at this
    omega
theorem repS_len (size need : Int) (L : List Sh) (x : Int) : (repS size need L x).2.length ≤ 1048576 := by
  cases h : repB size need L x with
  | false => rw [rep_no h]; simp
  | true =>
    rw [rep_yes h]
    have hd := joinD_len size need L
    have hj : joinB size need L = true := by unfold repB at h; simp only [Bool.and_eq_true] at h; exact h.1
    have hb := join_data hj
    unfold dataB at hb
    simp only [Bool.and_eq_true, decide_eq_true_eq] at hb
    show (shardV _ _ _).length ≤ _
    rw [shardV_len]
    exact Nat.le_trans (cols_le (by omega) hd) (by omega)

end Go.Proofs.Yteglefchkecfjaa
