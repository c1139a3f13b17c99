/- Appending one slice to another of the call's own, in an open order too: general steps; nothing here speaks of the program. -/
import Derived.Test.YtogklmkepdljpaaBase
import Derived.Deep.RegionLaw
namespace Go.Proofs.Ytogklmkepdljpaa
open Go.RowKit

/-- 'append(s, t...)' onto a slice of the call's own, t in memory: what it comes to. -/
theorem run_app {P : Program} {T E : TypeId} (hT : IntT P T E) (ty : TypeId) {w : World} {B : Nat} {v : Value} {xs zs : List Int} (ad : Addr) (n c : Nat) (hn : n = zs.length) (hown : Own E w B v xs) (hz : ∀ j (h : j < zs.length), w.cell? (ad.add j) = some (.int .i64 zs[j]))
    (hlen : xs.length + zs.length ≤ 1099511627776) (hB : B ≤ w.heap.size) :
    ∃ v' w', (Builtin.append_ #[T, T] ty #[v, .slice (some ad) n c]).run P w = .ok v' w' ∧ Own E w' B v' (xs ++ zs) ∧ w.grownBy w' v.ownBlock := by
  subst hn
  obtain ⟨i, hi, hzz, hsz, hby⟩ := info_parts hT.info
  obtain ⟨v', w', hr, h1, h2, _⟩ := run_append_own (P := P) w B T ty E i (.int .i64 0) 1 8 hT.sl hi hzz hsz hby rfl (by decide) v xs.length _ hown ad zs.length c (zs.map (Value.int .i64)) (by simp) (by
    intro j u hu
    by_cases hj : j < zs.length
    · simp [hj] at hu; subst hu; exact hz j hj
    · simp [hj] at hu) (by intro u hu; simp at hu; obtain ⟨_, _, rfl⟩ := hu; rfl) (by unfold maxLen; omega) (by omega) hB
  refine ⟨v', w', hr, ?_, h2⟩
  unfold Own; simpa using h1
/-- .. at the list of a region's operations. -/
theorem wpList_app {P : Program} {T E : TypeId} (hT : IntT P T E) {w : World} {ops : Array Oper} {rest : List Oper} {o : Oper} {a : Act} {Q : Exit → Act → World → Prop} (hgd : o.guard = none) (s x : Operand)
    (ho : o.op = .call { callee := .builtin .append, args := #[s, x], argTypes := #[T, T] }) (B : Nat) (v : Value) (xs zs : List Int) (ad : Addr) (n c : Nat) (hn : n = zs.length) (hs : a.eval s = v) (hown : Own E w B v xs)
    (hx : a.eval x = .slice (some ad) n c) (hz : ∀ j (h : j < zs.length), w.cell? (ad.add j) = some (.int .i64 zs[j]))
    (hlen : xs.length + zs.length ≤ 1099511627776) (hB : B ≤ w.heap.size)
    (h : ∀ v' w', Own E w' B v' (xs ++ zs) → w.grownBy w' v.ownBlock → wpList P ops Q rest (a.put o.dst v') w') : wpList P ops Q (o :: rest) a w := by
  refine wpList_plain hgd fun K hK => ?_
  obtain ⟨v', w', hr, h1, h2⟩ := run_app hT o.type ad n c hn hown hz hlen hB
  unfold Oper.wp execOp
  simp only [ho, resolve, invoke, builtin, Sem.run_bind, Sem.run_pure, Result.andThen_ok, List.map_toArray, List.map_cons, List.map_nil, hs, hx, hr]
  exact hK _ _ (h v' w' h1 h2)
/-- .. as one step of a region that draws its order. -/
theorem step_app {P : Program} {T E : TypeId} (hT : IntT P T E) {w : World} {ops : Array Oper} {o : Oper} {a : Act} {K : Act → World → Prop} {Q : Exit → Act → World → Prop} {F : Prop} (hgd : o.guard = none) (s x : Operand)
    (ho : o.op = .call { callee := .builtin .append, args := #[s, x], argTypes := #[T, T] }) (B : Nat) (v : Value) (xs zs : List Int) (ad : Addr) (n c : Nat) (hn : n = zs.length) (hs : a.eval s = v) (hown : Own E w B v xs)
    (hx : a.eval x = .slice (some ad) n c) (hz : ∀ j (h : j < zs.length), w.cell? (ad.add j) = some (.int .i64 zs[j]))
    (hlen : xs.length + zs.length ≤ 1099511627776) (hB : B ≤ w.heap.size)
    (h : ∀ v' w', Own E w' B v' (xs ++ zs) → w.grownBy w' v.ownBlock → K (a.put o.dst v') w') : if Region.wanted o (yielded ops a.tmps) = true then Oper.wp P o a w K Q else F := by
  have hw : Region.wanted o (yielded ops a.tmps) = true := by simp [Region.wanted, hgd]
  rw [if_pos hw]
  obtain ⟨v', w', hr, h1, h2⟩ := run_app hT o.type ad n c hn hown hz hlen hB
  unfold Oper.wp execOp
  simp only [ho, resolve, invoke, builtin, Sem.run_bind, Sem.run_pure, Result.andThen_ok, List.map_toArray, List.map_cons, List.map_nil, hs, hx, hr]
  exact h v' w' h1 h2

end Go.Proofs.Ytogklmkepdljpaa
