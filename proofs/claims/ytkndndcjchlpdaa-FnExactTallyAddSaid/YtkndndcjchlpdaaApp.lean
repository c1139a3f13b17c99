/- Appending one slice to another of the call's own, in an open order too: general steps; nothing here speaks of the program. -/
import Derived.Test.YtkndndcjchlpdaaBase
import Derived.Deep.RegionLaw
import Derived.Maps.AppendAt
namespace Go.Proofs.Ytkndndcjchlpdaa
open Go.RowKit

/-- An operation that is carried out: unguarded, or its guard holds. -/
theorem wpList_want {P : Program} {w : World} {ops : Array Oper} {rest : List Oper} {o : Oper} {a : Act} {Q : Exit → Act → World → Prop} (hgd : Region.wanted o (yielded ops a.tmps) = true)
    (h : ∀ K : Act → World → Prop, (∀ a w, wpList P ops Q rest a w → K a w) → o.wp P a w K Q) : wpList P ops Q (o :: rest) a w :=
  wpList_step fun K hK => by rw [if_pos hgd]; exact h K hK

/-- 'append(s, t...)' onto a slice of the call's own, t in memory: what it comes to. -/
theorem run_app {P : Program} {T E : TypeId} (hT : IntT P T E) (ty : TypeId) {w : World} {B : Nat} {v : Value} {xs zs : List Int} (ad : Addr) (n c : Nat) (hn : n = zs.length) (hown : Own E w B v xs) (hz : ∀ j (h : j < zs.length), w.cell? (ad.add j) = some (.int .i64 zs[j]))
    (hlen : xs.length + zs.length ≤ 1099511627776) (hB : B ≤ w.heap.size) :
    ∃ v' w', (Builtin.append_ #[T, T] ty #[v, .slice (some ad) n c]).run P w = .ok v' w' ∧ Own E w' B v' (xs ++ zs) ∧ w.grownBy w' v.ownBlock := by
  subst hn
  obtain ⟨i, hi, hzz, hsz, hby⟩ := info_parts hT.info
  obtain ⟨v', w', hr, h1, h2, _⟩ := run_append_own (P := P) w B T ty E i (.int .i64 0) 1 8 hT.sl hi hzz hsz hby rfl (by decide) v xs.length _ hown ad zs.length c (zs.map (Value.int .i64)) (by simp) (by
    intro j u hu
    by_cases hj : j < zs.length
    · simp [hj] at hu; subst hu; exact hz j hj
    · simp [hj] at hu) (by intro u hu; simp at hu; obtain ⟨_, _, rfl⟩ := hu; rfl) (by unfold maxLen; omega) (by omega) hB
  refine ⟨v', w', hr, ?_, h2⟩
  unfold Own; simpa using h1
/-- .. at the list of a region's operations. -/
theorem wpList_app {P : Program} {T E : TypeId} (hT : IntT P T E) {w : World} {ops : Array Oper} {rest : List Oper} {o : Oper} {a : Act} {Q : Exit → Act → World → Prop} (hgd : Region.wanted o (yielded ops a.tmps) = true) (s x : Operand)
    (ho : o.op = .call { callee := .builtin .append, args := #[s, x], argTypes := #[T, T] }) (B : Nat) (v : Value) (xs zs : List Int) (ad : Addr) (n c : Nat) (hn : n = zs.length) (hs : a.eval s = v) (hown : Own E w B v xs)
    (hx : a.eval x = .slice (some ad) n c) (hz : ∀ j (h : j < zs.length), w.cell? (ad.add j) = some (.int .i64 zs[j]))
    (hlen : xs.length + zs.length ≤ 1099511627776) (hB : B ≤ w.heap.size)
    (h : ∀ v' w', Own E w' B v' (xs ++ zs) → w.grownBy w' v.ownBlock → wpList P ops Q rest (a.put o.dst v') w') : wpList P ops Q (o :: rest) a w := by
  refine wpList_want hgd fun K hK => ?_
  obtain ⟨v', w', hr, h1, h2⟩ := run_app hT o.type ad n c hn hown hz hlen hB
  unfold Oper.wp execOp
  simp only [ho, resolve, invoke, builtin, Sem.run_bind, Sem.run_pure, Result.andThen_ok, List.map_toArray, List.map_cons, List.map_nil, hs, hx, hr]
  exact hK _ _ (h v' w' h1 h2)
/-- .. as one step of a region that draws its order. -/
theorem step_app {P : Program} {T E : TypeId} (hT : IntT P T E) {w : World} {ops : Array Oper} {o : Oper} {a : Act} {K : Act → World → Prop} {Q : Exit → Act → World → Prop} {F : Prop} (hgd : Region.wanted o (yielded ops a.tmps) = true) (s x : Operand)
    (ho : o.op = .call { callee := .builtin .append, args := #[s, x], argTypes := #[T, T] }) (B : Nat) (v : Value) (xs zs : List Int) (ad : Addr) (n c : Nat) (hn : n = zs.length) (hs : a.eval s = v) (hown : Own E w B v xs)
    (hx : a.eval x = .slice (some ad) n c) (hz : ∀ j (h : j < zs.length), w.cell? (ad.add j) = some (.int .i64 zs[j]))
    (hlen : xs.length + zs.length ≤ 1099511627776) (hB : B ≤ w.heap.size)
    (h : ∀ v' w', Own E w' B v' (xs ++ zs) → w.grownBy w' v.ownBlock → K (a.put o.dst v') w') : if Region.wanted o (yielded ops a.tmps) = true then Oper.wp P o a w K Q else F := by
  rw [if_pos hgd]
  obtain ⟨v', w', hr, h1, h2⟩ := run_app hT o.type ad n c hn hown hz hlen hB
  unfold Oper.wp execOp
  simp only [ho, resolve, invoke, builtin, Sem.run_bind, Sem.run_pure, Result.andThen_ok, List.map_toArray, List.map_cons, List.map_nil, hs, hx, hr]
  exact h v' w' h1 h2

theorem cells_one' (w : World) (E : TypeId) (z : Int) : ∀ j (h : j < [z].length), (w.alloc (.cells #[.int .i64 z] E)).drew.cell? ((⟨w.heap.size, 0, none⟩ : Addr).add j) = some (.int .i64 [z][j]) := by
  intro j hj
  have : j = 0 := by simpa using hj
  subst this
  rw [addr_add]
  exact (World.cell?_alloc_at _ _ _ _ rfl).trans rfl

theorem below_app {w w' : World} {B : Nat} {o : Obj} {row : Option Nat} (h : (w.alloc o).drew.grownBy w' row) (hB : B ≤ w.heap.size) (hr : ∀ g, row = some g → B ≤ g) : Below B w w' :=
  ((((Below.refl B w).alloc hB o).drew).grown h (Nat.le_trans hB (by simp)) hr)

/-- The length in a slot. -/
def lenOf : Value → Nat | .slice _ n _ => n | _ => 0

/-- 'append(s, z)', and where the new slice lies. -/
theorem wpList_push_at {P : Program} {T E : TypeId} (hT : IntT P T E) {w : World} {ops : Array Oper} {rest : List Oper} {o : Oper} {a : Act} {Q : Exit → Act → World → Prop} (hgd : Region.wanted o (yielded ops a.tmps) = true) (s x : Operand)
    (ho : o.op = .call { callee := .builtin .append, args := #[s, x], argTypes := #[T, T] }) (B : Nat) (v : Value) (xs : List Int) (z : Int) (hs : a.eval s = v) (hown : Own E w B v xs)
    (hlen : xs.length ≤ 1099511627776) (hx : a.eval x = .slice (some ⟨w.heap.size, 0, none⟩) 1 1) (hB : B ≤ w.heap.size)
    (h : ∀ v' w', Own E w' B v' (xs ++ [z]) → w.grownBy w' v.ownBlock → (v'.ownBlock = v.ownBlock ∨ ∃ g, v'.ownBlock = some g ∧ w.heap.size ≤ g) → wpList P ops Q rest (a.put o.dst v') w') : wpList P ops Q (o :: rest) a (w.alloc (.cells #[.int .i64 z] E)) := by
  refine wpList_want hgd fun K hK => ?_
  obtain ⟨i, hi, hz, hsz, hby⟩ := info_parts hT.info
  obtain ⟨v', w', hr, h1, h2, _, h4⟩ := run_append_own_at (P := P) (w.alloc (.cells #[.int .i64 z] E)) B T o.type E i (.int .i64 0) 1 8 hT.sl hi hz hsz hby rfl (by decide) v xs.length _ (World.ownsRow.alloc hown _) ⟨w.heap.size, 0, none⟩ 1 1 [.int .i64 z] rfl (cells_one _ _ _) (by intro u hu; simp at hu; subst hu; rfl) (by unfold maxLen; omega) (by omega) (by simp; omega)
  unfold Oper.wp execOp
  simp only [ho, resolve, invoke, builtin, Sem.run_bind, Sem.run_pure, Result.andThen_ok, List.map_toArray, List.map_cons, List.map_nil, hs, hx, hr]
  refine hK _ _ (h v' w' ?_ (grownBy_trans (World.grownBy_alloc _ _ _) h2) ?_)
  · unfold Own; simpa using h1
  · rcases h4 with h4 | h4
    · exact .inl h4
    · exact .inr ⟨_, h4, by simp⟩
theorem IntsAt.grown {w w' : World} {a : Option Addr} {xs : List Int} {row : Option Nat} (h : IntsAt w a xs) (hg : w.grownBy w' row) (hne : ∀ b, a = some b → row ≠ some b.block) : IntsAt w' a xs := by
  rcases h with rfl | ⟨b, off, rfl, hlt, hc⟩
  · exact .inl rfl
  · exact .inr ⟨b, off, rfl, Nat.lt_of_lt_of_le hlt hg.size, fun j hj => hg.cell (hc j hj) (fun e => hne _ rfl e.symm)⟩
theorem IntsAt.block {w : World} {a : Option Addr} {xs : List Int} (h : IntsAt w a xs) (hx : 0 < xs.length) : ∃ b, a = some b ∧ b.block < w.heap.size := by
  obtain ⟨b, off, rfl, hlt, _⟩ := h.cell hx
  exact ⟨_, rfl, hlt⟩
/-- The block of an owned slice, as its address says it. -/
theorem ownBlock_slice {a : Option Addr} {n c : Nat} : ∀ b, a = some b → (Value.slice a n c).ownBlock = some b.block := by rintro b rfl; rfl

/-- s[1:], the address as the walk writes it. -/
theorem IntsAt.tail {w : World} {b off c : Nat} {q : Int} {r : List Int} (h : ∀ j (h : j < (q :: r).length), w.cell? ⟨b, off + j, none⟩ = some (.int .i64 (q :: r)[j])) (hb : b < w.heap.size) (hc : r.length + 1 ≤ c) :
    ∃ o2, (if c = 1 then some (⟨b, off, none⟩ : Addr) else some ⟨b, off + 1, none⟩) = some ⟨b, o2, none⟩ ∧ IntsAt w (some ⟨b, o2, none⟩) r := by
  by_cases h1 : c = 1
  · refine ⟨off, by rw [if_pos h1], .inl (List.eq_nil_of_length_eq_zero (by omega))⟩
  · refine ⟨off + 1, by rw [if_neg h1], .inr ⟨b, off + 1, rfl, hb, fun j hj => ?_⟩⟩
    have := h (j + 1) (by simp; omega)
    rw [show off + 1 + j = off + (j + 1) by omega, this]
    simp

/-- A source of an append: nil, or cells in memory that read as zs. -/
def SrcAt (w : World) (a : Option Addr) (c : Nat) (zs : List Int) : Prop :=
  (a = none ∧ zs = [] ∧ c = 0) ∨ ∃ ad, a = some ad ∧ ∀ j (h : j < zs.length), w.cell? (ad.add j) = some (.int .i64 zs[j])
theorem Own.src {E : TypeId} {w : World} {B : Nat} {v : Value} {xs : List Int} (h : Own E w B v xs) : ∃ a cap, v = .slice a xs.length cap ∧ IntsAt w a xs ∧ SrcAt w a cap xs ∧ xs.length ≤ cap := by
  rcases Nat.eq_zero_or_pos xs.length with h0 | h0
  · have hx : xs = [] := List.eq_nil_of_length_eq_zero h0
    subst hx
    rcases h.2 with ⟨rfl, _⟩ | ⟨g, cap, cur, rfl, _, _, _, _⟩
    · exact ⟨none, 0, rfl, .inl rfl, .inl ⟨rfl, rfl, rfl⟩, by simp⟩
    · exact ⟨_, cap, rfl, .inl rfl, .inr ⟨_, rfl, fun j hj => by simp at hj⟩, by simp⟩
  · obtain ⟨g, cap, rfl, hB, hlt, hc, hcells, _⟩ := h.row h0
    exact ⟨_, cap, rfl, .inr ⟨g, 0, rfl, hlt, fun j hj => by rw [Nat.zero_add]; exact hcells j hj⟩, .inr ⟨_, rfl, fun j hj => by rw [addr_add]; exact hcells j hj⟩, hc⟩
theorem SrcAt.grown {w w' : World} {a : Option Addr} {c : Nat} {xs : List Int} {row : Option Nat} (h : SrcAt w a c xs) (hi : IntsAt w a xs) (hg : w.grownBy w' row) (hne : ∀ b, a = some b → row ≠ some b.block) : SrcAt w' a c xs := by
  rcases h with h | ⟨ad, rfl, hc⟩
  · exact .inl h
  · refine .inr ⟨ad, rfl, fun j hj => ?_⟩
    obtain ⟨b, off, e, _, _⟩ := hi.cell (by omega)
    cases e
    have := hc j hj
    rw [addr_add'] at this ⊢
    exact hg.cell this (fun e => hne _ rfl e.symm)
theorem run_appI {P : Program} {T E : TypeId} (hT : IntT P T E) (ty : TypeId) {w : World} {B : Nat} {v : Value} {xs zs : List Int} {a : Option Addr} {c : Nat} (hown : Own E w B v xs) (hz : SrcAt w a c zs)
    (hlen : xs.length + zs.length ≤ 1099511627776) (hB : B ≤ w.heap.size) :
    ∃ v' w', (Builtin.append_ #[T, T] ty #[v, .slice a zs.length c]).run P w = .ok v' w' ∧ Own E w' B v' (xs ++ zs) ∧ w.grownBy w' v.ownBlock := by
  rcases hz with ⟨rfl, rfl, rfl⟩ | ⟨ad, rfl, hc⟩
  · obtain ⟨i, hi, _⟩ := info_parts hT.info
    have := run_append_owned_none (P := P) (w := w) B T ty E i 1 hT.sl hi v xs.length _ hown
    exact ⟨v, w, this, by rw [List.append_nil]; exact hown, ⟨rfl, rfl, rfl, Nat.le_refl _, fun _ _ _ => rfl⟩⟩
  · exact run_app hT ty ad _ c rfl hown hc hlen hB
/-- 'append(s, t...)' at the list of a region's operations, t nil or not. -/
theorem wpList_appI {P : Program} {T E : TypeId} (hT : IntT P T E) {w : World} {ops : Array Oper} {rest : List Oper} {o : Oper} {a : Act} {Q : Exit → Act → World → Prop} (hgd : Region.wanted o (yielded ops a.tmps) = true) (s x : Operand)
    (ho : o.op = .call { callee := .builtin .append, args := #[s, x], argTypes := #[T, T] }) (B : Nat) (v : Value) (xs zs : List Int) (ax : Option Addr) (c : Nat) (hs : a.eval s = v) (hown : Own E w B v xs)
    (hx : a.eval x = .slice ax zs.length c) (hz : SrcAt w ax c zs)
    (hlen : xs.length + zs.length ≤ 1099511627776) (hB : B ≤ w.heap.size)
    (h : ∀ v' w', Own E w' B v' (xs ++ zs) → w.grownBy w' v.ownBlock → wpList P ops Q rest (a.put o.dst v') w') : wpList P ops Q (o :: rest) a w := by
  refine wpList_want hgd fun K hK => ?_
  obtain ⟨v', w', hr, h1, h2⟩ := run_appI hT o.type hown hz hlen hB
  unfold Oper.wp execOp
  simp only [ho, resolve, invoke, builtin, Sem.run_bind, Sem.run_pure, Result.andThen_ok, List.map_toArray, List.map_cons, List.map_nil, hs, hx, hr]
  exact hK _ _ (h v' w' h1 h2)
theorem results_tmp3 {fn : Func} {t u v : Tmp} (h : fn.results = #[.tmp t, .tmp u, .tmp v]) (tmps : Array Value) (P : Program) (w : World) :
    (results fn tmps).run P w = .ok (.tuple #[tmps.getD t undef, tmps.getD u undef, tmps.getD v undef]) w := by simp [results, h]
theorem results_tmp4 {fn : Func} {t u v x : Tmp} (h : fn.results = #[.tmp t, .tmp u, .tmp v, .tmp x]) (tmps : Array Value) (P : Program) (w : World) :
    (results fn tmps).run P w = .ok (.tuple #[tmps.getD t undef, tmps.getD u undef, tmps.getD v undef, tmps.getD x undef]) w := by simp [results, h]
theorem results_tmp5 {fn : Func} {t u v x y : Tmp} (h : fn.results = #[.tmp t, .tmp u, .tmp v, .tmp x, .tmp y]) (tmps : Array Value) (P : Program) (w : World) :
    (results fn tmps).run P w = .ok (.tuple #[tmps.getD t undef, tmps.getD u undef, tmps.getD v undef, tmps.getD x undef, tmps.getD y undef]) w := by simp [results, h]

/-- 'append(s, z)' where the operation may be guarded. -/
theorem wpList_pushG {P : Program} {T E : TypeId} (hT : IntT P T E) {w : World} {ops : Array Oper} {rest : List Oper} {o : Oper} {a : Act} {Q : Exit → Act → World → Prop} (hgd : Region.wanted o (yielded ops a.tmps) = true) (s x : Operand)
    (ho : o.op = .call { callee := .builtin .append, args := #[s, x], argTypes := #[T, T] }) (B : Nat) (v : Value) (xs : List Int) (z : Int) (hs : a.eval s = v) (hown : Own E w B v xs)
    (hlen : xs.length ≤ 1099511627776) (hx : a.eval x = .slice (some ⟨w.heap.size, 0, none⟩) 1 1) (hB : B ≤ w.heap.size)
    (h : ∀ v' w', Own E w' B v' (xs ++ [z]) → w.grownBy w' v.ownBlock → wpList P ops Q rest (a.put o.dst v') w') : wpList P ops Q (o :: rest) a (w.alloc (.cells #[.int .i64 z] E)) :=
  wpList_push_at hT hgd s x ho B v xs z hs hown hlen hx hB (fun v' w' h1 h2 _ => h v' w' h1 h2)

theorem own_succ {E : TypeId} {W : World} {B : Nat} {v : Value} {xs : List Int} {z : Int} (h : Own E W B v (xs ++ [z])) : ∃ g c, v = .slice (some ⟨g, 0, none⟩) (xs.length + 1) c := by
  obtain ⟨g, c, e, _⟩ := h.row (by simp)
  exact ⟨g, c, by rw [e]; simp⟩

end Go.Proofs.Ytkndndcjchlpdaa
