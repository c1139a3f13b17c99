/- Law FnShardRepair holds for every input; no conditions of our own. -/
import Derived.Test.YtnaeeemgehgdfabRows
import Derived.Test.YtnaeeemgehgdfabBu0
import Derived.Test.YtnaeeemgehgdfabBu2
import Derived.Test.YtnaeeemgehgdfabBu3
import Derived.Test.YtnaeeemgehgdfabBu1
import Derived.Deep.QuietTactic
import Derived.BigQuiet
namespace Go.Proofs.Ytnaeeemgehgdfab
open Go.ChangeShapes Go.WideShapes Go.ChangeAt Go.RowKit

set_option maxHeartbeats 4000000 in
theorem fnShardRepair_walk (a : Option Addr) (cap : Nat) (zs : List Int) (w : World) (hk : zs.length ≤ cap) (_hm : zs.length ≤ maxLen) (hi : zs = [] ∨ ∃ b off, a = some ⟨b, off, none⟩ ∧ b < w.heap.size ∧ ∀ j (h : j < zs.length), w.cell? ⟨b, off + j, none⟩ = some (.int .u8 zs[j])) (hw : ∀ z ∈ zs, (Lit.int .u8 z).wf = true) :
    Calls Try.prog 3 #[.slice a zs.length cap] w fun e w' => e = .returned (.bool true) ∧ Below w.heap.size w w' := by
  by_cases hl : 1048576 < zs.length
  · go_enter Try.func3, Try.ntmps3
    go_wp2
    go_ret
    exact ⟨rfl, Below.refl _ _⟩
  have hcode := codeAt_of hk (by omega) hi hw
  have Hcode := Lib.hid hcode; clear hcode hi hw
  go_enter Try.func3, Try.ntmps3
  go_wp2_with fail
  refine (spec_DrawShardRepair a cap zs _ Hcode.out).mono ?_
  rintro e1 w1 ⟨size, need, v, L, fp, x, rfl, hr, hL, hS, hb1⟩
  have hin : ∀ s ∈ L, s.2.length ≤ 1048576 := fun s hs => Nat.le_trans (hS s hs) (by omega)
  have hw0 := hb1.size
  have Tl := Lib.hid hr; have Hb := Lib.hid hb1
  clear hr hb1 hS
  obtain ⟨B, hB⟩ : ∃ B, B = repB size need L x := ⟨_, rfl⟩
  obtain ⟨Q, hQ⟩ : ∃ Q, Q = repS size need L x := ⟨_, rfl⟩
  have HI := fun W (h : Rd W (.l (L.map shardD)) v fp) => impl_ShardRepair size need L v x fp W (by omega) hin h
  have HS := fun W (h : Rd W (.l (L.map shardD)) v fp) => spec_ShardRepair size need L v x fp W (by omega) hin h
  rw [← hQ, ← hB] at HI HS
  have HJ := Lib.hid (fun W (h : Rd W (.l (L.map shardD)) v fp) => impl_ShardJoin size need L v fp W (by omega) hin h)
  have Hlaw := Lib.hid (show B = true → joinB size need L = true ∧ Q.1 = x ∧ matB (joinD size need L) need Q = true from fun h => by rw [hQ]; exact repair_law (by rw [← hB]; exact h))
  have hqs : Q.2.length ≤ 12 := by rw [hQ]; exact repS_len size need L x
  have hdl := joinD_short size need L
  clear hB hQ hin
  obtain ⟨q, qs⟩ := Q
  dsimp only at HI HS Hlaw hqs
  have HI := Lib.hid HI; have HS := Lib.hid HS
  generalize joinB size need L = J at *
  generalize joinD size need L = D at *
  go_wp2_with fail
  refine (HI.out _ Tl.out).mono ?_
  rintro e w2 ⟨u, rfl, ho, hb⟩
  have hwb := Hb.out.size
  obtain ⟨ao, co, rfl, _, _⟩ := ho.ints
  have ho' := Lib.hid (ho.mono (show w.heap.size ≤ _ by omega))
  clear ho
  have Tl := Lib.hid (show Rd w2 (.l ((L).map shardD)) (v) fp from Tl.out.under hb)
  have hsw2 := hb.size
  have Hb := Lib.hid (below_step Hb.out Hb.out.size hb)
  have To := Lib.hid (show Own 3 w2 w.heap.size (.slice ao (qs).length co) (qs) from ho'.out)
  clear ho' hb hwb
  have hal : Below w2.heap.size w2 (w2.alloc (.cells #[.int .i64 q, .slice ao qs.length co] 28)) := (Below.refl _ _).alloc (Nat.le_refl _) _
  have Tl := Lib.hid (show Rd (w2.alloc (.cells #[.int .i64 q, .slice ao qs.length co] 28)) (.l ((L).map shardD)) (v) fp from Tl.out.under hal)
  have To := Lib.hid (show Own 3 (w2.alloc (.cells #[.int .i64 q, .slice ao qs.length co] 28)) w.heap.size (.slice ao (qs).length co) (qs) from To.out.below hal)
  have So := Lib.hid (Str.new w2 28 #[.int .i64 q, .slice ao qs.length co])
  have Hb := Lib.hid (below_step Hb.out Hb.out.size hal)
  clear hal
  have co_0 := So.out.cell 0 (v := .int .i64 q) rfl
  have co_1 := So.out.cell 1 (v := .slice ao qs.length co) rfl
  go_wp2_with fail
  generalize (w2.alloc (.cells #[.int .i64 q, .slice ao qs.length co] 28)) = W3 at *
  clear co_0 co_1
  refine (HS.out _ Tl.out).mono ?_
  rintro e w4 ⟨u, rfl, ho, hb⟩
  have hwb := Hb.out.size
  obtain ⟨ak, ck, rfl, _, _⟩ := ho.ints
  have ho' := Lib.hid (ho.mono (show w.heap.size ≤ _ by omega))
  clear ho
  have Tl := Lib.hid (show Rd w4 (.l ((L).map shardD)) (v) fp from Tl.out.under hb)
  have To := Lib.hid (show Own 3 w4 w.heap.size (.slice ao (qs).length co) (qs) from To.out.below hb)
  have So := Lib.hid (show Str w4 (w2.heap.size) 28 #[.int .i64 q, .slice ao qs.length co] from (hb.block _ So.out.lt).trans So.out)
  have hsw4 := hb.size
  have Hb := Lib.hid (below_step Hb.out Hb.out.size hb)
  have Tk := Lib.hid (show Own 3 w4 w.heap.size (.slice ak (qs).length ck) (qs) from ho'.out)
  clear ho' hb hwb
  have hal : Below w4.heap.size w4 (w4.alloc (.cells #[.int .i64 q, .slice ak qs.length ck] 28)) := (Below.refl _ _).alloc (Nat.le_refl _) _
  have Tl := Lib.hid (show Rd (w4.alloc (.cells #[.int .i64 q, .slice ak qs.length ck] 28)) (.l ((L).map shardD)) (v) fp from Tl.out.under hal)
  have To := Lib.hid (show Own 3 (w4.alloc (.cells #[.int .i64 q, .slice ak qs.length ck] 28)) w.heap.size (.slice ao (qs).length co) (qs) from To.out.below hal)
  have Tk := Lib.hid (show Own 3 (w4.alloc (.cells #[.int .i64 q, .slice ak qs.length ck] 28)) w.heap.size (.slice ak (qs).length ck) (qs) from Tk.out.below hal)
  have So := Lib.hid (show Str (w4.alloc (.cells #[.int .i64 q, .slice ak qs.length ck] 28)) (w2.heap.size) 28 #[.int .i64 q, .slice ao qs.length co] from So.out.alloc _)
  have Sk := Lib.hid (Str.new w4 28 #[.int .i64 q, .slice ak qs.length ck])
  have Hb := Lib.hid (below_step Hb.out Hb.out.size hal)
  clear hal
  clear HI HS
  have co_0 := So.out.cell 0 (v := .int .i64 q) rfl
  have co_1 := So.out.cell 1 (v := .slice ao qs.length co) rfl
  have ck_0 := Sk.out.cell 0 (v := .int .i64 q) rfl
  have ck_1 := Sk.out.cell 1 (v := .slice ak qs.length ck) rfl
  go_wp2_with fail
  generalize (w4.alloc (.cells #[.int .i64 q, .slice ak qs.length ck] 28)) = W5 at *
  clear co_0 co_1 ck_0 ck_1
  refine (laws_sameShard' q _ _ _ _ qs _ (by omega) To.out.at Tk.out.at).mono ?_
  rintro e w6 ⟨rfl, hb⟩
  have Tl := Lib.hid (show Rd w6 (.l ((L).map shardD)) (v) fp from Tl.out.under hb)
  have To := Lib.hid (show Own 3 w6 w.heap.size (.slice ao (qs).length co) (qs) from To.out.below hb)
  have Tk := Lib.hid (show Own 3 w6 w.heap.size (.slice ak (qs).length ck) (qs) from Tk.out.below hb)
  have So := Lib.hid (show Str w6 (w2.heap.size) 28 #[.int .i64 q, .slice ao qs.length co] from (hb.block _ So.out.lt).trans So.out)
  have Sk := Lib.hid (show Str w6 (w4.heap.size) 28 #[.int .i64 q, .slice ak qs.length ck] from (hb.block _ Sk.out.lt).trans Sk.out)
  have hsw6 := hb.size
  have Hb := Lib.hid (below_step Hb.out Hb.out.size hb)
  clear hb
  cases B with
  | false =>
    have co_0 := So.out.cell 0 (v := .int .i64 q) rfl
    have co_1 := So.out.cell 1 (v := .slice ao qs.length co) rfl
    have ck_0 := Sk.out.cell 0 (v := .int .i64 q) rfl
    have ck_1 := Sk.out.cell 1 (v := .slice ak qs.length ck) rfl
    go_wp2_with fail
    clear co_0 co_1 ck_0 ck_1
    refine (laws_sameShard' q _ _ _ _ qs _ (by omega) To.out.at Tk.out.at).mono ?_
    rintro e w7 ⟨rfl, hb⟩
    have Tl := Lib.hid (show Rd w7 (.l ((L).map shardD)) (v) fp from Tl.out.under hb)
    have To := Lib.hid (show Own 3 w7 w.heap.size (.slice ao (qs).length co) (qs) from To.out.below hb)
    have Tk := Lib.hid (show Own 3 w7 w.heap.size (.slice ak (qs).length ck) (qs) from Tk.out.below hb)
    have So := Lib.hid (show Str w7 (w2.heap.size) 28 #[.int .i64 q, .slice ao qs.length co] from (hb.block _ So.out.lt).trans So.out)
    have Sk := Lib.hid (show Str w7 (w4.heap.size) 28 #[.int .i64 q, .slice ak qs.length ck] from (hb.block _ Sk.out.lt).trans Sk.out)
    have hsw7 := hb.size
    have Hb := Lib.hid (below_step Hb.out Hb.out.size hb)
    clear hb
    go_wp2
    go_ret
    exact ⟨by first | rfl | exact ret_bool (by simp) | exact ret_bool (by simp; omega), Hb.out⟩
  | true =>
    obtain ⟨l1, l2, l3⟩ := Hlaw.out (by first | rfl | trivial)
    rw [l1] at HJ
    have hqx : (q == x) = true := by rw [beq_iff_eq]; exact l2
    have Hm := Lib.hid l3
    clear l1 l2 l3
    clear Tk
    clear Sk
    have co_0 := So.out.cell 0 (v := .int .i64 q) rfl
    have co_1 := So.out.cell 1 (v := .slice ao qs.length co) rfl
    go_wp2_with fail
    refine (HJ.out _ Tl.out).mono ?_
    rintro e1 w7 ⟨u, rfl, ho, hb⟩
    obtain ⟨ad, cd, rfl, hid, _, hcd⟩ := ho.src
    have Hd := Lib.hid hid
    clear ho hid
    clear co_0 co_1
    have Tl := Lib.hid (show Rd w7 (.l ((L).map shardD)) (v) fp from Tl.out.under hb)
    have To := Lib.hid (show Own 3 w7 w.heap.size (.slice ao (qs).length co) (qs) from To.out.below hb)
    have So := Lib.hid (show Str w7 (w2.heap.size) 28 #[.int .i64 q, .slice ao qs.length co] from (hb.block _ So.out.lt).trans So.out)
    have hsw7 := hb.size
    have Hb := Lib.hid (below_step Hb.out Hb.out.size hb)
    clear hb
    have HM := impl_ShardMatches ad cd D need q ao co qs w7 (by omega) hcd (by omega) Hd.out To.out.at
    rw [Hm.out] at HM
    have HM := Lib.hid HM
    have co_0 := So.out.cell 0 (v := .int .i64 q) rfl
    have co_1 := So.out.cell 1 (v := .slice ao qs.length co) rfl
    go_wp2_with fail
    clear co_0 co_1
    refine (HM.out).mono ?_
    rintro e w8 ⟨rfl, hb⟩
    have Tl := Lib.hid (show Rd w8 (.l ((L).map shardD)) (v) fp from Tl.out.under hb)
    have To := Lib.hid (show Own 3 w8 w.heap.size (.slice ao (qs).length co) (qs) from To.out.below hb)
    have So := Lib.hid (show Str w8 (w2.heap.size) 28 #[.int .i64 q, .slice ao qs.length co] from (hb.block _ So.out.lt).trans So.out)
    have hsw8 := hb.size
    have Hb := Lib.hid (below_step Hb.out Hb.out.size hb)
    clear hb
    go_wp2
    go_ret
    exact ⟨by first | rfl | exact ret_bool (by simp) | exact ret_bool (by simp; omega), Hb.out⟩

theorem fnShardRepair_own : ownKnob Try.prog.godebug = none := by kernel_rfl
theorem fnShardRepair_laidOut : laidOutB Try.prog = true := by kernel_rfl

set_option maxRecDepth 8000 in
theorem fnShardRepair_lifted (os : Os) (started : os.Started) (H : Type) (enc : TypeId × Value → H) :
    ReturnsInHanded {} Try.checked os 3 .any (Rows.fnShardRepairSpec.pre6 enc Try.prog Try.f3 Rows.fnShardRepairRow.domain false) (Rows.fnShardRepairSpec.post enc Try.prog Try.f3 false true false false) := by
  refine law_lifted (C := Try.checked) (tb := 4) fnShardRepair_own fnShardRepair_laidOut started (by kernel_rfl) Try.func3 rfl Try.underlying4 rfl (by rw [Try.params3]; exact of_decide_eq_true (by kernel_rfl)) ?_
    (ChangeSpec.witness6 (enc := enc) (C := Try.checked) false ⟨#[], #[.slice none 0 0], []⟩ 8 (by kernel_rfl) (by kernel_rfl) (by kernel_rfl) (by kernel_rfl)) ?_
  · intro ds hds
    rw [Try.params3] at hds
    match ds, hds with
    | [d0], _ => rfl
  · intro W base args ds p hval0 hA0
    have hval : ∀ (j : Nat) t v, Try.f3.params[j]? = some t → args[j]? = some v → Value.okWide Try.prog W .any base t v := hval0
    have hA : DataW.TrodAll enc Try.prog W 0 (fun _ => true) true Try.f3.params.toList args.toList ds p := hA0
    rw [Try.params3] at hA hval
    obtain ⟨v0, vs0, d0, ds0, p0, q0, hargs0, rfl, rfl, h0, r0⟩ := trodAll_cons hA
    obtain ⟨hnil, rfl, rfl⟩ := trodAll_nil r0
    subst hnil
    obtain rfl : args = #[v0] := by cases args; simp_all
    obtain ⟨a0, cap0, zs0, rfl, hk0, hm0, hi0, hw0⟩ := open_slice_ints Try.underlying22 Try.underlying5 (by kernel_rfl) (hval 0 22 v0 rfl rfl) h0
    exact fnShardRepair_walk a0 cap0 zs0 W hk0 hm0 hi0 hw0

set_option maxRecDepth 8000 in
theorem fnShardRepair_holds : Rows.FnShardRepairSaid :=
  OpenClaim.holds_of_wide 3 Try.f3 rfl rfl rfl rfl rfl rfl rfl ⟨rfl, rfl, rfl, rfl, rfl⟩ rfl rfl rfl rfl rfl (by kernel_rfl) Try.func3 (by kernel_rfl)
    (of_decide_eq_true (by kernel_rfl)) (by unfold Func.isWrapper; first | (rw [if_pos (by decide +kernel)]; kernel_rfl) | (rw [if_neg (by decide +kernel)]; exact ⟨rfl, rfl⟩))
    (fun os started H enc _ => fnShardRepair_lifted os started H enc)

end Go.Proofs.Ytnaeeemgehgdfab
