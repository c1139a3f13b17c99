/- Texts that the laws of this folder share, one behind another; no conditions. -/
import Derived.Test.YteglefchkecfjabBu0
import Derived.Deep.RegionHeld3
import Derived.Test.YteglefchkecfjabRows
import Derived.Test.YteglefchkecfjabBu1
import Derived.Deep.QuietTactic
import Derived.BigQuiet
import Derived.WalkSpells
import Derived.Deep.MidRow
import Derived.Laws.Rows
import Derived.Laws.CopyRow

/- A region that draws its order, operation by operation, where the condition on the world is kept up to a last operation alone (a store into what was loaded): general steps, nothing here speaks of the program. -/
namespace Go.Proofs.Yteglefchkecfjab
open Go.RowKit

/-- Whatever order is picked from here on; S holds behind every operation until number m has come up. -/
def wpAnyL (P : Program) (md : Region.Mode) (ops : Array Oper) (Q : Exit → Act → World → Prop) (m : Nat) (S : World → Prop) : Nat → Array Bool → Act → World → Prop
  | 0, listed, a, w => Region.ready md ops listed = [] ∧ Q .normal a w
  | fuel + 1, listed, a, w =>
    (Region.ready md ops listed = [] → Q .normal a w) ∧
    ∀ i ∈ Region.ready md ops listed, wpOp P ops Q i (fun a' w' => ((listed.setIfInBounds i true).getD m true = false → S w') ∧ wpAnyL P md ops Q m S fuel (listed.setIfInBounds i true) a' w') a w

section
variable {P : Program} {md : Region.Mode} {ops : Array Oper} {Q : Exit → Act → World → Prop} {S : World → Prop} {m : Nat}

theorem any_of_L : ∀ (fuel : Nat) (listed : Array Bool) (a : Act) (w : World), wpAnyL P md ops Q m S fuel listed a w → wpAny P md ops Q fuel listed a w
  | 0, _, _, _, h => h
  | fuel + 1, _, _, _, h => ⟨h.1, fun i hi => wpOp_mono (fun a' w' h' => any_of_L fuel _ a' w' h'.2) (h.2 i hi)⟩

/-- Of two that may come up, neither waits for the other. -/
theorem ready_pair {listed : Array Bool} {i j : Nat} (hi : i ∈ Region.ready md ops listed) (hj : j ∈ Region.ready md ops listed) :
    listed.getD j true = false ∧ ∃ o, ops[j]? = some o ∧ ∀ e ∈ o.after, Region.binds md e = true → e.on ≠ i := by
  obtain ⟨hun, o, ho, hall⟩ := mem_ready.1 hj
  refine ⟨hun, o, ho, fun e he hb heq => ?_⟩
  have h1 := hall e he hb
  have h0 := (mem_ready.1 hi).1
  rw [heq] at h1
  by_cases hlt : i < listed.size <;> simp [hlt] at h0 h1
  rw [h0] at h1; cases h1
/-- Number m waits for number i. -/
def waits (md : Region.Mode) (ops : Array Oper) (m i : Nat) : Bool := (ops[m]?.map fun o => o.after.any fun e => Region.binds md e && e.on == i).getD false
theorem waits_not {listed : Array Bool} {i : Nat} (hw : waits md ops m i = true) (hi : i ∈ Region.ready md ops listed) : m ∉ Region.ready md ops listed := by
  intro hm
  obtain ⟨_, o, ho, hno⟩ := ready_pair hi hm
  unfold waits at hw
  rw [ho, Option.map_some, Option.getD_some, Array.any_eq_true'] at hw
  obtain ⟨e, he, hb⟩ := hw
  rw [Bool.and_eq_true, beq_iff_eq] at hb
  exact hno e he hb.1 hb.2

/-- Whoever may come up ahead of number i leaves its temporaries alone. -/
def FreeAt (md : Region.Mode) (ops : Array Oper) (oi : Oper) (i : Nat) (listed : Array Bool) : Prop :=
  ∀ j oj, ops[j]? = some oj → j ≠ i → listed.getD j true = false → (∀ e ∈ oj.after, Region.binds md e = true → e.on ≠ i) → oi.apart ops oj = true
theorem FreeAt.set {oi : Oper} {i j : Nat} {listed : Array Bool} (h : FreeAt md ops oi i listed) (hj : listed.getD j true = false) : FreeAt md ops oi i (listed.setIfInBounds j true) := by
  intro k ok hk hki hun hno
  refine h k ok hk hki ?_ hno
  rcases Nat.decEq j k with hjk | hjk
  · rwa [getD_set_ne true hjk] at hun
  · exact hjk ▸ hj
theorem firstL {i : Nat} {oi : Oper} {v : Value} (hi : ops[i]? = some oi) (hsel : ∀ (j : Nat) (o : Oper) cs b, ops[j]? = some o → o.op ≠ .select cs b)
    (hQ : ∀ c a w, Q (.panic c) (a.put oi.dst v) w → Q (.panic c) a w) (hw : waits md ops m i = true) (fuel : Nat) :
    ∀ (listed : Array Bool) (a : Act) (w : World), FreeAt md ops oi i listed → listed.getD m true = false → i ∈ Region.ready md ops listed → YieldsIf P ops S oi v a → S w →
      wpAnyL P md ops Q m S fuel (listed.setIfInBounds i true) (a.put oi.dst v) w → wpAnyL P md ops Q m S (fuel + 1) listed a w := by
  have im : ∀ {listed}, i ∈ Region.ready md ops listed → i ≠ m := fun hr e => waits_not hw hr (e ▸ hr)
  induction fuel with
  | zero =>
    intro listed a w _ _ hr hy hS H
    refine ⟨fun h => absurd hr (by rw [h]; simp), fun j hj => ?_⟩
    rcases Nat.decEq j i with hji | rfl
    · exact absurd (ready_mono hj hji) (by rw [H.1]; simp)
    · exact hy.wpOp hi hS ⟨fun _ => hS, H⟩
  | succ fuel ih =>
    intro listed a w hfree hmf hr hy hS H
    refine ⟨fun h => absurd hr (by rw [h]; simp), fun j hj => ?_⟩
    rcases Nat.decEq j i with hji | rfl
    · have hjm : j ≠ m := fun e => waits_not hw hr (e ▸ hj)
      obtain ⟨hjun, oj, hoj, hno⟩ := ready_pair hr hj
      refine wpOp_mono (fun a' w' h3 => ?_) (wpOp_putIf hoj (hfree j oj hoj hji hjun hno) (fun cs b => hsel i oi cs b hi) (fun cs b => hsel j oj cs b hoj) hQ hy (H.2 j (ready_mono hj hji)))
      have hS' : S w' := h3.2.1 (by rw [getD_set_ne true hjm, getD_set_ne true (im hr)]; exact hmf)
      exact ⟨fun _ => hS', ih _ a' w' (hfree.set hjun) (by rw [getD_set_ne true hjm]; exact hmf) (ready_mono hr (Ne.symm hji)) h3.1 hS' (by rw [Array.setIfInBounds_comm _ _ hji]; exact h3.2.2)⟩
    · exact hy.wpOp hi hS ⟨fun _ => hS, H⟩
end

section
variable {P : Program} {md : Region.Mode} {l : List Oper} {Q : Exit → Act → World → Prop} {S : World → Prop} {oi : Oper} {rest : List Oper} {fuel m : Nat} {listed : Array Bool} {a : Act} {w : World}

/-- Take number i first: it is carried out and yields v in every world that meets S. -/
theorem takeL (i : Nat) {v : Value} (hi : l.drop i = oi :: rest) (hs : Region.noSelect l.toArray = true) (hf : Region.free md l.toArray listed i = true) (hr : (Region.ready md l.toArray listed).contains i = true) (hm : waits md l.toArray m i = true) (hm' : listed.getD m true = false)
    (hQ : ∀ c a w, Q (.panic c) (a.put oi.dst v) w → Q (.panic c) a w) (hS : S w) (hw : Region.wanted oi (yielded l.toArray a.tmps) = true)
    (hy : ∀ w, S w → (execOp a.eval oi).run P w = .ok (.value v) w)
    (h : wpAnyL P md l.toArray Q m S fuel (listed.setIfInBounds i true) (a.put oi.dst v) w) : wpAnyL P md l.toArray Q m S (fuel + 1) listed a w :=
  firstL (drop_at hi) (Region.noSelect_spec hs) hQ hm fuel listed a w (Region.free_spec (drop_at hi) hf) hm' (by simpa using hr) (.inl ⟨hw, hy⟩) hS h
/-- Number i is left out by its guard. -/
theorem skipL (i : Nat) (hi : l.drop i = oi :: rest) (hs : Region.noSelect l.toArray = true) (hf : Region.free md l.toArray listed i = true) (hr : (Region.ready md l.toArray listed).contains i = true) (hm : waits md l.toArray m i = true) (hm' : listed.getD m true = false)
    (hQ : ∀ c a w, Q (.panic c) (a.put oi.dst undef) w → Q (.panic c) a w) (hS : S w) (hw : Region.wanted oi (yielded l.toArray a.tmps) = false)
    (h : wpAnyL P md l.toArray Q m S fuel (listed.setIfInBounds i true) (a.put oi.dst undef) w) : wpAnyL P md l.toArray Q m S (fuel + 1) listed a w :=
  firstL (drop_at hi) (Region.noSelect_spec hs) hQ hm fuel listed a w (Region.free_spec (drop_at hi) hf) hm' (by simpa using hr) (.inr ⟨hw, rfl⟩) hS h
/-- Number i alone may come up, and is not the last: it is carried out, and S is shown behind it. -/
theorem callL (i : Nat) (hi : l.drop i = oi :: rest) (hr : Region.ready md l.toArray listed = [i]) (hw : Region.wanted oi (yielded l.toArray a.tmps) = true)
    (h : ∀ K' : Act → World → Prop, Shut (∀ a w, S w → (S w → wpAnyL P md l.toArray Q m S fuel (listed.setIfInBounds i true) a w) → K' a w) → Oper.wp P oi a w K' Q) : wpAnyL P md l.toArray Q m S (fuel + 1) listed a w := by
  refine ⟨fun h0 => absurd (hr ▸ h0) (by simp), fun j hj => ?_⟩
  rw [hr] at hj
  have : j = i := by simpa using hj
  subst this
  exact wpOp_step (drop_at hi) fun K' hK => by rw [if_pos hw]; exact h K' fun a w hS hW => hK a w ⟨fun _ => hS, hW hS⟩
/-- The last one. -/
theorem lastL (hi : l.drop m = oi :: rest) (hr : Region.ready md l.toArray listed = [m]) (hend : Region.ready md l.toArray (listed.setIfInBounds m true) = []) (hm : (listed.setIfInBounds m true).getD m true = true) (hw : Region.wanted oi (yielded l.toArray a.tmps) = true)
    (h : ∀ K' : Act → World → Prop, Shut (∀ a w, Q .normal a w → K' a w) → Oper.wp P oi a w K' Q) : wpAnyL P md l.toArray Q m S (fuel + 1) listed a w := by
  refine ⟨fun h0 => absurd (hr ▸ h0) (by simp), fun j hj => ?_⟩
  rw [hr] at hj
  have : j = m := by simpa using hj
  subst this
  refine wpOp_step (drop_at hi) fun K' hK => by
    rw [if_pos hw]
    refine h K' fun a w hq => hK a w ⟨fun e => absurd (hm.symm.trans e) (by simp), ?_⟩
    cases fuel with
    | zero => exact ⟨hend, hq⟩
    | succ f => exact ⟨fun _ => hq, by rw [hend]; simp⟩
theorem wp_region_L (m : Nat) (S : World → Prop) {id : Nat} {ops : Array Oper} {a : Act} {w : World} (hm : P.follows .mixedOrders = true) (hS : S w.drew)
    (h : S w.drew → wpAnyL P .any ops Q m S ops.size (Array.replicate ops.size false) a w.drew) : (Code.region id ops true).wp P Q a w :=
  wp_region_any hm (any_of_L _ _ _ _ (h hS))
end

end Go.Proofs.Yteglefchkecfjab

/- The reference's height of a graph and the past of a vertex, each by a walk of its text; conditions: lists are shorter than 2^40 (a graph: 2^20), and where the text asks it, the graph is valid. -/
namespace Go.Proofs.Yteglefchkecfjab
open Go.RowKit

/-! the order of a graph -/
theorem bef_trans {a b c : Vx} (h : befB a b = true) (k : befB b c = true) : befB a c = true := by
  have h := of_decide_eq_true h
  have k := of_decide_eq_true k
  exact decide_eq_true (by omega)
theorem graph_sorted {c : List Int} {g : List Vx} (h : graphB c g = true) : g.Pairwise fun a b => befB a b = true := by
  unfold graphB at h
  simp only [Bool.and_eq_true] at h
  have hup := allB_upto h.2
  have next : ∀ i (hi : i + 1 < g.length), befB g[i] g[i + 1] = true := by
    intro i hi
    have := hup (i + 1) hi
    unfold okV at this
    rw [getV hi, Nat.add_sub_cancel, getV (show i < g.length by omega)] at this
    simp only [Bool.and_eq_true, Bool.or_eq_true] at this
    rcases this.2.1 with h | h
    · simp at h
    · exact h
  have step : ∀ d i (hi : i + 1 + d < g.length), befB g[i] g[i + 1 + d] = true := by
    intro d
    induction d with
    | zero => intro i hi; exact next i hi
    | succ d ih => intro i hi; exact bef_trans (ih i (by omega)) (next (i + 1 + d) hi)
  refine List.pairwise_iff_getElem.2 fun i j hi hj hij => ?_
  have := step (j - i - 1) i (by omega)
  simpa [show i + 1 + (j - i - 1) = j by omega] using this
theorem members_pairwise {n : Nat} {ms : List Int} (h : ms.Pairwise (· < ·)) (hb : ∀ m ∈ ms, 0 ≤ m ∧ m < n) : membersB n ms = true := by
  unfold membersB
  refine allB_yes (k := ms.length) (fun j hj => ?_) (Nat.le_refl _)
  have hb := hb ms[j] (List.getElem_mem hj)
  refine okAt_yes hj hb.1 hb.2 ?_
  by_cases h0 : j = 0
  · exact .inl h0
  · refine .inr ?_
    rw [getD_get (by omega)]
    exact List.pairwise_iff_getElem.1 h (j - 1) j (by omega) hj (by omega)
theorem vtx_author {c : List Int} {x : Vx} (h : vtxB c x = true) : 0 ≤ x.a ∧ x.a < c.length := by
  unfold vtxB autB at h; simp only [Bool.and_eq_true, decide_eq_true_eq] at h; omega
theorem auth_members {c : List Int} {g : List Vx} (h : graphB c g = true) (r : Int) : membersB c.length (authZ g r) = true := by
  refine members_pairwise ?_ fun m hm => ?_
  · unfold authZ
    rw [List.pairwise_map]
    refine List.Pairwise.imp_of_mem (R := fun a b => befB a b = true) (fun {a b} ha hb hab => ?_) ((graph_sorted h).filter _)
    have ha := of_decide_eq_true (List.mem_filter.1 ha).2
    have hb := of_decide_eq_true (List.mem_filter.1 hb).2
    have := of_decide_eq_true hab
    omega
  · unfold authZ at hm
    obtain ⟨x, hx, rfl⟩ := List.mem_map.1 hm
    exact vtx_author (graph_vtx h x (List.mem_filter.1 hx).1)

def qAt (c : List Int) (g : List Vx) (r : Int) : Bool := decide (quorumZ c ≤ weightZ c (authZ g r))
/-- The largest round below n with a quorum, or -1. -/
def hgtTo (c : List Int) (g : List Vx) : Nat → Int
  | 0 => -1
  | n + 1 => if qAt c g n = true then n else hgtTo c g n
def hgtZ (c : List Int) (g : List Vx) : Int := hgtTo c g 31
set_option maxHeartbeats 1000000 in
theorem spec_l11Height (ac : Option Addr) (capc : Nat) (c : List Int) (g : List Vx) (v : Value) (fp : List Nat) (w : World) (hv : graphB c g = true) (hbig : g.length ≤ 1048576) (hc : IntsAt w ac c) (hg : Gr w g v fp) :
    Calls Try.prog 71 #[.slice ac c.length capc, v] w fun e w' => e = .returned (.int .i64 (hgtZ c g)) ∧ Below w.heap.size w w' := by
  have hcv : validB c = true := by have h := hv; unfold graphB at h; simp only [Bool.and_eq_true] at h; exact h.1
  have Hm := Lib.hid (fun r => auth_members hv r)
  have HA := Lib.hid (fun r W h => spec_l11Authors g v fp r W (by omega) h)
  have hal := fun r => authZ_len g r
  have HW := Lib.hid (fun r am cap W (h : IntsAt W ac c) h' => spec_l1Weight ac capc c am cap (authZ g r) W hcv (Hm.out r) (Nat.le_trans (hal r) (by omega)) h h')
  have HQ := Lib.hid (fun W h => spec_l1Quorum ac capc c W hcv h)
  have Hc := Lib.hid hc; clear hc
  have Hg := Lib.hid hg; clear hg hal
  go_enter Try.func71, Try.ntmps71
  go_wp2
  go_loopw [5] (fun i wr => ∃ n : Nat, n ≤ 31 ∧ i = .int .i64 ((n : Int) - 1) ∧ hgtTo c g n = hgtZ c g ∧ Below w.heap.size w wr) (fun i _ => (intOf i + 1).toNat)
  case atStart => exact ⟨31, by omega, rfl, rfl, Below.refl _ _⟩
  case round =>
    obtain ⟨n, hn, rfl, hh, hbel⟩ := hrel
    have Hbel := Lib.hid hbel; clear hbel
    have Hh := Lib.hid hh; clear hh
    by_cases h0 : n = 0
    · subst h0
      have hz : hgtZ c g = -1 := Hh.out.symm
      have Hz := Lib.hid hz; clear hz
      go_wp2
      go_ret
      exact ⟨by rw [Hz.out]; rfl, Hbel.out⟩
    · obtain ⟨m, rfl⟩ : ∃ m, n = m + 1 := ⟨n - 1, by omega⟩
      have e1 : ((m + 1 : Nat) : Int) - 1 = m := by omega
      rw [e1]
      have hge : decide ((0 : Int) ≤ (m : Int)) = true := decide_eq_true (by omega)
      have hge' : (0 : Int) ≤ (m : Int) := by omega
      have hw1 : IntKind.i64.wrap ((m : Int) - 1) = m - 1 := IntWalk.i64_in _ (by omega)
      clear e1 h0
      go_wp2_with fail
      refine (HA.out m wr (Hg.out.under Hbel.out)).mono ?_
      rintro e w2 ⟨u, rfl, ho, hb2⟩
      obtain ⟨au, cu, rfl, hi, _⟩ := ho.ints
      have Hi := Lib.hid hi
      have Hb2 := Lib.hid (below_step Hbel.out Hbel.out.size hb2); clear hb2 ho hi
      go_wp2_with fail
      refine (HW.out m au cu w2 (Hc.out.below Hb2.out) Hi.out).mono ?_
      rintro e w3 ⟨rfl, rfl⟩
      go_wp2_with fail
      refine (HQ.out w2 (Hc.out.below Hb2.out)).mono ?_
      rintro e w3 ⟨rfl, rfl⟩
      have hst := Hh.out
      unfold hgtTo at hst
      cases hq : qAt c g m with
      | true =>
        rw [if_pos hq] at hst
        have hd := of_decide_eq_true hq
        unfold quorumZ at hd
        have Hz := Lib.hid hst; clear hst hq
        go_wp2
        go_ret
        exact ⟨by rw [← Hz.out]; rfl, Hb2.out⟩
      | false =>
        rw [if_neg (by simp [hq])] at hst
        have hd := of_decide_eq_false hq
        unfold quorumZ at hd
        have Hz := Lib.hid hst; clear hst hq
        go_wp2
        go_roundw
        case rel => exact ⟨m, by omega, by first | rfl | go_num, Hz.out, Hb2.out⟩
        case measure => simp [intOf]

def ghZ (c : List Int) (g : List Vx) : Int := if graphB c g = true then hgtZ c g else -1
theorem spec_GraphHeight (ac : Option Addr) (capc : Nat) (c : List Int) (g : List Vx) (v : Value) (fp : List Nat) (w : World) (hn : c.length ≤ 1099511627776) (hbig : g.length ≤ 1048576) (hps : ∀ x ∈ g, x.ps.length ≤ 1099511627776) (hc : IntsAt w ac c) (hg : Gr w g v fp) :
    Calls Try.prog 29 #[.slice ac c.length capc, v] w fun e w' => e = .returned (.int .i64 (ghZ c g)) ∧ Below w.heap.size w w' := by
  have hV := spec_GraphValid ac capc c g v fp w hn (by omega) hps hc hg
  cases hb : graphB c g with
  | false =>
    rw [hb] at hV
    have hz : ghZ c g = -1 := by unfold ghZ; rw [hb]; rfl
    have HV := Lib.hid hV; clear hV
    have Hz := Lib.hid hz; clear hz
    go_enter Try.func29, Try.ntmps29
    go_wp2_with fail
    refine HV.out.mono ?_
    rintro e w1 ⟨rfl, hb1⟩
    go_wp2
    go_ret
    exact ⟨by rw [Hz.out]; rfl, hb1⟩
  | true =>
    rw [hb] at hV
    have hz : ghZ c g = hgtZ c g := by unfold ghZ; rw [hb]; rfl
    have HV := Lib.hid hV; clear hV
    have Hz := Lib.hid hz; clear hz
    have HH := Lib.hid (fun W h h' => spec_l11Height ac capc c g v fp W hb hbig h h')
    have Hc := Lib.hid hc; clear hc
    have Hg := Lib.hid hg; clear hg
    go_enter Try.func29, Try.ntmps29
    go_wp2_with fail
    refine HV.out.mono ?_
    rintro e w1 ⟨rfl, hb1⟩
    have Hb1 := Lib.hid hb1; clear hb1
    go_wp2_with fail
    refine (HH.out w1 (Hc.out.below Hb1.out) (Hg.out.under Hb1.out)).mono ?_
    rintro e w2 ⟨rfl, hb2⟩
    have Hb2 := Lib.hid (below_step Hb1.out Hb1.out.size hb2); clear hb2
    go_wp2
    go_ret
    exact ⟨by rw [Hz.out]; rfl, Hb2.out⟩

end Go.Proofs.Yteglefchkecfjab

/- The reference's past of a vertex, each text by a walk; conditions: lists are shorter than 2^40 (a graph: 2^20), and where the text asks it, the graph is valid. -/
namespace Go.Proofs.Yteglefchkecfjab
open Go.RowKit

/-! the past, as the text marks it -/
def putB (g : List Vx) (r : Int) (bs : List Bool) (p : Int) : List Bool := bs.set (findZ g (r - 1) p).toNat true
def fromB (g : List Vx) (bs : List Bool) (x : Vx) (i k : Nat) : List Bool := if bs.getD i false = true then (x.ps.drop k).foldl (putB g x.r) bs else bs
def downB (g : List Vx) : Nat → List Bool → List Bool
  | 0, bs => bs
  | i + 1, bs => downB g i (fromB g bs (g.getD i vx0) i 0)
def pastB (g : List Vx) (at' : Int) : List Bool := if at' < 0 then List.replicate g.length false else downB g (at'.toNat + 1) ((List.replicate g.length false).set at'.toNat true)
theorem fromB_step {g : List Vx} {bs : List Bool} {x : Vx} {i k : Nat} (hk : k < x.ps.length) (hb : bs.getD i false = true) : (putB g x.r bs x.ps[k]).getD i false = true ∧ fromB g (putB g x.r bs x.ps[k]) x i (k + 1) = fromB g bs x i k := by
  have h1 : (putB g x.r bs x.ps[k]).getD i false = true := by
    unfold putB
    rw [List.getD_eq_getElem?_getD, List.getElem?_set]
    rw [List.getD_eq_getElem?_getD] at hb
    split
    · split
      · rfl
      · rename_i h1 h2
        rw [List.getElem?_eq_none (by omega)] at hb
        simp at hb
    · exact hb
  refine ⟨h1, ?_⟩
  unfold fromB
  rw [if_pos h1, if_pos hb, List.drop_eq_getElem_cons hk, List.foldl_cons]
theorem fromB_end {g : List Vx} {bs : List Bool} {x : Vx} {i : Nat} : fromB g bs x i x.ps.length = bs := by
  unfold fromB
  split
  · rw [List.drop_length]; rfl
  · rfl
theorem fromB_off {g : List Vx} {bs : List Bool} {x : Vx} {i k : Nat} (h : bs.getD i false = false) : fromB g bs x i k = bs := by unfold fromB; rw [if_neg (by rw [h]; decide)]
theorem putB_len (g : List Vx) (r : Int) (bs : List Bool) (p : Int) : (putB g r bs p).length = bs.length := by simp [putB]
/-- Each parent of a graph's vertex is found. -/
theorem graph_parents {c : List Int} {g : List Vx} (h : graphB c g = true) (i : Nat) (hi : i < g.length) (k : Nat) (hk : k < g[i].ps.length) : ∃ j : Nat, j < g.length ∧ findZ g (g[i].r - 1) g[i].ps[k] = j := by
  unfold graphB at h
  simp only [Bool.and_eq_true] at h
  have := allB_upto h.2 i hi
  unfold okV at this
  rw [getV hi] at this
  simp only [Bool.and_eq_true] at this
  have := allB_upto this.2.2 k hk
  unfold hasP at this
  rw [getD_get hk] at this
  have := of_decide_eq_true this
  rcases findZ_cases g (g[i].r - 1) g[i].ps[k] with ⟨e, _⟩ | ⟨j, hj, e, _⟩
  · omega
  · exact ⟨j, hj, e⟩

/-- The places of truth below n. -/
def idxTo (bs : List Bool) (n : Nat) : List Int := ((List.range n).filter fun i => bs.getD i false).map Int.ofNat
theorem idxTo_zero (bs : List Bool) : idxTo bs 0 = [] := rfl
theorem idxTo_yes {bs : List Bool} {n : Nat} (h : bs.getD n false = true) : idxTo bs (n + 1) = idxTo bs n ++ [(n : Int)] := by simp only [idxTo, List.range_succ, List.filter_append, List.map_append, List.filter_cons, h]; rfl
theorem idxTo_no {bs : List Bool} {n : Nat} (h : bs.getD n false = false) : idxTo bs (n + 1) = idxTo bs n := by simp only [idxTo, List.range_succ, List.filter_append, List.map_append, List.filter_cons, h]; simp
theorem idxTo_len (bs : List Bool) (n : Nat) : (idxTo bs n).length ≤ n := by
  unfold idxTo
  rw [List.length_map]
  exact Nat.le_trans (List.length_filter_le _ _) (by simp)
def gpZ (c : List Int) (g : List Vx) (r a : Int) : List Int := if graphB c g = true then idxTo (pastB g (findZ g r a)) g.length else []
theorem gpZ_len (c : List Int) (g : List Vx) (r a : Int) : (gpZ c g r a).length ≤ g.length := by
  unfold gpZ
  split
  · exact idxTo_len _ _
  · simp

end Go.Proofs.Yteglefchkecfjab

/- Places of a graph by round and author, and a graph whose vertices are linked by pointers: how it lies in memory, what stays of it when other memory is made or written; no conditions. -/
namespace Go.Proofs.Yteglefchkecfjab
open Go.RowKit

/-- The number of the place of a round and an author. -/
def plN (r a : Int) : Nat := 1 + (r.toNat * 7 + a.toNat)
/-- Before the place (r, a). -/
def plB (r a : Nat) (v : Vx) : Bool := decide (v.r < r ∨ v.r = r ∧ v.a < a)
def inPl (v : Vx) : Prop := 0 ≤ v.r ∧ v.r ≤ 30 ∧ 0 ≤ v.a ∧ v.a ≤ 6
theorem plN_inj {r a r' a' : Int} (hr : 0 ≤ r) (ha : 0 ≤ a) (ha' : a ≤ 6) (hr2 : 0 ≤ r') (ha2 : 0 ≤ a') (ha2' : a' ≤ 6) (h : plN r a = plN r' a') : r = r' ∧ a = a' := by
  unfold plN at h; omega
theorem plN_bd {r a : Int} (h : r ≤ 30) (ha : a ≤ 6) : 1 ≤ plN r a ∧ plN r a < 218 := by unfold plN; omega
/-- What stands before a place. -/
def outZ (g : List Vx) (r a : Nat) : List Vx := g.filter (plB r a)
def Srt (g : List Vx) : Prop := g.Pairwise fun a b => befB a b = true
theorem outZ_zero {g : List Vx} (h : ∀ v ∈ g, inPl v) : outZ g 0 0 = [] := by
  unfold outZ
  rw [List.filter_eq_nil_iff]
  intro v hv
  have := h v hv
  unfold inPl at this
  unfold plB
  simp; omega
theorem outZ_row {g : List Vx} (h : ∀ v ∈ g, inPl v) (r : Nat) : outZ g r 7 = outZ g (r + 1) 0 := by
  unfold outZ
  refine List.filter_congr fun v hv => ?_
  have := h v hv
  unfold inPl at this
  unfold plB
  rw [Bool.eq_iff_iff, decide_eq_true_iff, decide_eq_true_iff]; omega
theorem outZ_end {g : List Vx} (h : ∀ v ∈ g, inPl v) : outZ g 31 0 = g := by
  unfold outZ
  rw [List.filter_eq_self]
  intro v hv
  have := h v hv
  unfold inPl at this
  unfold plB
  simp; omega
theorem outZ_len (g : List Vx) (r a : Nat) : (outZ g r a).length ≤ g.length := List.length_filter_le _ _
theorem befB_iff {x y : Vx} : befB x y = true ↔ (x.r < y.r ∨ x.r = y.r ∧ x.a < y.a) := by unfold befB; exact decide_eq_true_iff
theorem outZ_step {g : List Vx} (h : Srt g) (r a : Nat) : outZ g r (a + 1) = outZ g r a ++ g.filter (sameRA r a) := by
  unfold outZ
  induction g with
  | nil => rfl
  | cons x g ih =>
    have hx := (List.pairwise_cons.1 h).1
    have ih := ih (List.pairwise_cons.1 h).2
    by_cases hp : plB r a x = true
    · have h1 : plB r (a + 1) x = true := by unfold plB at hp ⊢; simp at hp ⊢; omega
      have h2 : sameRA r a x = false := by unfold plB at hp; unfold sameRA; simp at hp ⊢; omega
      rw [List.filter_cons, if_pos h1, List.filter_cons, if_pos hp, List.filter_cons (p := sameRA r a), h2, ih]; rfl
    · have hno : g.filter (plB r a) = [] := by
        rw [List.filter_eq_nil_iff]
        intro v hv
        have hb := befB_iff.1 (hx v hv)
        unfold plB at hp ⊢
        simp at hp ⊢
        omega
      rw [hno, List.nil_append] at ih
      rw [List.filter_cons, List.filter_cons (p := plB r a), if_neg hp, hno, List.nil_append, List.filter_cons (p := sameRA r a), ih]
      have e : plB r (a + 1) x = sameRA r a x := by
        unfold plB sameRA at *
        simp at hp
        rw [Bool.eq_iff_iff, decide_eq_true_iff, decide_eq_true_iff]
        omega
      rw [e]
theorem srt_uni {g : List Vx} (h : Srt g) {x y : Vx} (hx : x ∈ g) (hy : y ∈ g) (hr : x.r = y.r) (ha : x.a = y.a) : x = y := by
  induction g with
  | nil => cases hx
  | cons z g ih =>
    have hz := (List.pairwise_cons.1 h).1
    rcases List.mem_cons.1 hx with rfl | hx'
    · rcases List.mem_cons.1 hy with rfl | hy'
      · rfl
      · have := befB_iff.1 (hz y hy'); omega
    · rcases List.mem_cons.1 hy with rfl | hy'
      · have := befB_iff.1 (hz x hx'); omega
      · exact ih (List.pairwise_cons.1 h).2 hx' hy'
theorem filter_uni {g : List Vx} (h : Srt g) {x : Vx} (hx : x ∈ g) : g.filter (sameRA x.r x.a) = [x] := by
  induction g with
  | nil => cases hx
  | cons z g ih =>
    have hz := (List.pairwise_cons.1 h).1
    have hsame : ∀ v, sameRA x.r x.a v = true ↔ v.r = x.r ∧ v.a = x.a := fun v => by unfold sameRA; exact decide_eq_true_iff
    rcases List.mem_cons.1 hx with rfl | hx'
    · rw [List.filter_cons, if_pos ((hsame _).2 ⟨rfl, rfl⟩)]
      congr 1
      rw [List.filter_eq_nil_iff]
      intro v hv e
      have := (hsame v).1 e
      have := befB_iff.1 (hz v hv); omega
    · rw [List.filter_cons, if_neg, ih (List.pairwise_cons.1 h).2 hx']
      intro e
      have := (hsame z).1 e
      have := befB_iff.1 (hz x hx'); omega
theorem filter_none {g : List Vx} {r a : Int} (h : ∀ v ∈ g, ¬ (v.r = r ∧ v.a = a)) : g.filter (sameRA r a) = [] := by
  rw [List.filter_eq_nil_iff]
  intro v hv e
  exact h v hv (of_decide_eq_true e)
theorem outZ_yes {g : List Vx} (h : Srt g) {r a : Nat} {x : Vx} (hx : x ∈ g) (hr : x.r = r) (ha : x.a = a) : outZ g r (a + 1) = outZ g r a ++ [x] := by
  rw [outZ_step h, ← hr, ← ha, filter_uni h hx]
theorem outZ_no {g : List Vx} (h : Srt g) {r a : Nat} (hn : ∀ v ∈ g, ¬ (v.r = r ∧ v.a = a)) : outZ g r (a + 1) = outZ g r a := by
  rw [outZ_step h, filter_none hn, List.append_nil]

/-! finding by a place -/
theorem findZ_mem {g : List Vx} (h : Srt g) {x : Vx} (hx : x ∈ g) : ∃ k : Nat, ∃ hk : k < g.length, findZ g x.r x.a = k ∧ g[k] = x := by
  rcases findZ_cases g x.r x.a with ⟨_, hno⟩ | ⟨k, hk, e, hs, _⟩
  · have := hno x hx; unfold sameRA at this; simp at this
  · refine ⟨k, hk, e, srt_uni h (List.getElem_mem hk) hx ?_ ?_⟩ <;> (unfold sameRA at hs; simp at hs; omega)
theorem findZ_none {g : List Vx} {r a : Int} (h : ∀ v ∈ g, ¬ (v.r = r ∧ v.a = a)) : findZ g r a = -1 := by
  rcases findZ_cases g r a with ⟨e, _⟩ | ⟨k, hk, _, hs, _⟩
  · exact e
  · exact absurd (of_decide_eq_true hs) (h _ (List.getElem_mem hk))

/-! adding by a place -/
theorem bef_total {x y : Vx} (h : ¬ (x.r = y.r ∧ x.a = y.a)) (hb : befB x y = false) : befB y x = true := by
  unfold befB at hb; simp at hb
  refine befB_iff.2 ?_; omega
theorem ins_mem {g : List Vx} {x y : Vx} : y ∈ insG g x ↔ y ∈ g ∨ y = x := by
  unfold insG
  rw [List.mem_append, List.mem_append, List.mem_singleton]
  constructor
  · rintro ((h | h) | h)
    · exact .inl (List.mem_of_mem_take h)
    · exact .inr h
    · exact .inl (List.mem_of_mem_drop h)
  · rintro (h | h)
    · rw [← List.take_append_drop (insN g x) g, List.mem_append] at h
      rcases h with h | h
      · exact .inl (.inl h)
      · exact .inr h
    · exact .inl (.inr h)
theorem ins_srt {g : List Vx} {x : Vx} (h : Srt g) (hn : ∀ v ∈ g, ¬ (v.r = x.r ∧ v.a = x.a)) : Srt (insG g x) := by
  unfold Srt insG insN at *
  induction g with
  | nil => simp
  | cons z g ih =>
    obtain ⟨hz, hg⟩ := List.pairwise_cons.1 h
    rw [List.findIdx_cons]
    by_cases hb : befB z x = true
    · simp only [hb, Bool.not_true, cond_false, List.take_succ_cons, List.drop_succ_cons, List.cons_append]
      refine List.pairwise_cons.2 ⟨fun v hv => ?_, ih hg (fun v hv => hn v (List.mem_cons_of_mem _ hv))⟩
      rcases (ins_mem (g := g) (x := x)).1 hv with hv | rfl
      · exact hz v hv
      · exact hb
    · have hb' : befB z x = false := by simpa using hb
      simp only [hb', Bool.not_false, cond_true, List.take_zero, List.drop_zero, List.nil_append, List.singleton_append]
      have hxz := bef_total (hn z (by simp)) hb'
      refine List.pairwise_cons.2 ⟨fun v hv => ?_, h⟩
      rcases List.mem_cons.1 hv with rfl | hv
      · exact hxz
      · exact bef_trans hxz (hz v hv)
theorem ins_last {g : List Vx} {x : Vx} (h : ∀ v ∈ g, befB v x = true) : insG g x = g ++ [x] := by
  have : insN g x = g.length := by
    unfold insN
    exact List.findIdx_eq_length.2 fun y hy => by simp [h y hy]
  unfold insG; rw [this]; simp
theorem addG_lenP (g : List Vx) (x : Vx) : (addG g x).length ≤ g.length + 1 := by
  unfold addG
  split
  · unfold insG
    rw [List.length_append, List.length_append, List.length_take, List.length_drop]
    simp; omega
  · omega
theorem addG_memP {g : List Vx} {x y : Vx} (h : y ∈ addG g x) : y ∈ g ∨ y = x := by
  unfold addG at h
  split at h
  · exact ins_mem.1 h
  · exact .inl h
def arrP (n : Nat) (f : Nat → Value) : Array Value := ((List.range n).map f).toArray
theorem arrP_size (n : Nat) (f : Nat → Value) : (arrP n f).size = n := by simp [arrP]
theorem arrP_get {n : Nat} {f : Nat → Value} {j : Nat} (h : j < n) : (arrP n f)[j]? = some (f j) := by simp [arrP, h]
theorem arrP_set {n : Nat} {f : Nat → Value} {k : Nat} {v : Value} : (arrP n f).setIfInBounds k v = arrP n fun i => if i = k then v else f i := by
  apply Array.ext
  · simp [arrP]
  · intro j h1 h2
    have hj : j < n := by simpa [arrP] using h2
    rw [Array.getElem_setIfInBounds (by simpa [arrP] using hj)]
    by_cases e : k = j
    · subst e; simp [arrP]
    · have e' : ¬ j = k := fun h => e h.symm
      simp [arrP, e, e']

def ptrV (q : Nat) : Value := .pointer (some ⟨q, 0, none⟩)
theorem ptrV_one (q : Nat) : (ptrV q).oneCell' = true := rfl
theorem ptrV_none (q : Nat) : ptrV q ≠ .pointer none := by intro h; cases h
/-- A list of pointers of the call's own. -/
def OwnP (E : TypeId) (w : World) (B : Nat) (v : Value) (qs : List Nat) : Prop := w.ownsRow B E 1 v qs.length (qs.map ptrV)
section
variable {E : TypeId} {w w' : World} {B : Nat} {v : Value} {qs : List Nat}
theorem OwnP.nil (E : TypeId) (w : World) (B : Nat) : OwnP E w B (.slice none 0 0) [] := World.ownsRow_nil _ _ _ _
theorem OwnP.kept {row : Option Nat} (h : OwnP E w B v qs) (hg : w.grownBy w' row) (hne : v.ownBlock = none ∨ v.ownBlock ≠ row) : OwnP E w' B v qs := World.ownsRow.kept h hg hne
theorem OwnP.lt (h : OwnP E w B v qs) : ∀ k, v.ownBlock = some k → B ≤ k ∧ k < w.heap.size := World.ownsRow.lt h
theorem OwnP.below (h : OwnP E w B v qs) (hg : Below w.heap.size w w') : OwnP E w' B v qs := h.kept (below_grown hg) (by cases hv : v.ownBlock <;> simp)
theorem OwnP.slice (h : OwnP E w B v qs) : ∃ a cap, v = .slice a qs.length cap ∧ qs.length ≤ maxLen := by
  rcases h.2 with ⟨rfl, h0⟩ | ⟨g, cap, cur, rfl, hb, hg, hn, hm, hs, ht⟩
  · exact ⟨none, 0, by rw [h0], by rw [h0]; simp⟩
  · exact ⟨_, cap, rfl, by omega⟩
theorem OwnP.cell (h : OwnP E w B v qs) (j : Nat) (hj : j < qs.length) : ∃ g cap, v = .slice (some ⟨g, 0, none⟩) qs.length cap ∧ B ≤ g ∧ g < w.heap.size ∧ w.cell? ⟨g, j, none⟩ = some (ptrV qs[j]) := by
  rcases h.2 with ⟨rfl, h0⟩ | ⟨g, cap, cur, rfl, hb, hg, hn, hm, hs, ht⟩
  · omega
  · refine ⟨g, cap, rfl, hb, (Array.getElem?_eq_some_iff.1 hg).1, ?_⟩
    have hc := World.ownsRow.cells (w := w) (base := B) (e := E) (size := 1) (v := .slice (some ⟨g, 0, none⟩) qs.length cap) (n := qs.length) (xs := qs.map ptrV) h (g := g) rfl j (ptrV qs[j]) (by simp [hj])
    rwa [addr_add] at hc
end

theorem cells_ptr (w : World) (E : TypeId) (q : Nat) : ∀ j u, [ptrV q][j]? = some u → (w.alloc (.cells #[ptrV q] E)).cell? ((⟨w.heap.size, 0, none⟩ : Addr).add j) = some u := by
  intro j u hu
  match j, hu with
  | 0, hu =>
    simp at hu; subst hu
    rw [addr_add, World.cell?_alloc_at _ _ _ _ rfl]; rfl

/-- A vertex with pointers to its parents: its numbers and list as they were at first, the pointers of the call's own. -/
structure Nd (w0 w : World) (hi G : Nat) (h : Nat → Value) (q : Nat) (y : Vx) : Prop where
  lo : w0.heap.size ≤ q
  lt : q < hi
  ne : q ≠ G
  ex : ∃ pa pc pv qs, Str w q 131 #[.int .i64 y.r, .int .i64 y.a, .slice pa y.ps.length pc, .int .i64 y.d, pv] ∧ IntsAt w0 pa y.ps ∧ SrcAt w0 pa pc y.ps ∧ OwnP 122 w w0.heap.size pv qs ∧
    (∀ b, pv.ownBlock = some b → b ≠ G ∧ b < hi) ∧ qs.length = y.ps.length ∧ ∀ j (hj : j < qs.length) (hj' : j < y.ps.length), h (plN (y.r - 1) y.ps[j]) = ptrV qs[j]
theorem Nd.kept {w0 w w' : World} {hi G q : Nat} {h : Nat → Value} {y : Vx} {row : Option Nat} (n : Nd w0 w hi G h q y) (hg : w.grownBy w' row) (hrow : ∀ m, row = some m → hi ≤ m ∨ m = G) : Nd w0 w' hi G h q y := by
  obtain ⟨pa, pc, pv, qs, s, i, c, o, ob, l, p⟩ := n.ex
  refine ⟨n.lo, n.lt, n.ne, pa, pc, pv, qs, s.kept hg fun e => ?_, i, c, o.kept hg ?_, ob, l, p⟩
  · have := n.lt; have := n.ne; rcases hrow q e.symm with h | h <;> omega
  · cases hv : pv.ownBlock with
    | none => exact .inl rfl
    | some b =>
      refine .inr fun e => ?_
      have := ob b hv
      rcases hrow b e.symm with h | h <;> omega
/-- A graph: the places of its block point to its vertices. -/
structure Lk (w0 w : World) (hi G : Nat) (mv : Value) (h : Nat → Value) (g : List Vx) : Prop where
  lo : w0.heap.size ≤ G
  lt : G < hi
  le : hi ≤ w.heap.size
  str : Str w G 126 (arrP 218 h)
  mem : h 0 = mv
  has : ∀ y ∈ g, ∃ q, h (plN y.r y.a) = ptrV q ∧ Nd w0 w hi G h q y
  non : ∀ r a : Int, 0 ≤ r → r ≤ 30 → 0 ≤ a → a ≤ 6 → (∀ y ∈ g, ¬ (y.r = r ∧ y.a = a)) → h (plN r a) = .pointer none
theorem Lk.kept {w0 w w' : World} {hi G : Nat} {mv : Value} {h : Nat → Value} {g : List Vx} {row : Option Nat} (l : Lk w0 w hi G mv h g) (hg : w.grownBy w' row) (hrow : ∀ m, row = some m → hi ≤ m) : Lk w0 w' hi G mv h g := by
  refine ⟨l.lo, l.lt, Nat.le_trans l.le hg.size, l.str.kept hg fun e => ?_, l.mem, fun y hy => ?_, l.non⟩
  · have := hrow G e.symm; have := l.lt; omega
  · obtain ⟨q, e, n⟩ := l.has y hy
    exact ⟨q, e, n.kept hg fun m e => .inl (hrow m e)⟩
theorem Lk.under {w0 w w' : World} {hi G : Nat} {mv : Value} {h : Nat → Value} {g : List Vx} (l : Lk w0 w hi G mv h g) (hb : Below w.heap.size w w') : Lk w0 w' hi G mv h g := l.kept (below_grown hb) fun _ e => by cases e
theorem Lk.cell {w0 w : World} {hi G : Nat} {mv : Value} {h : Nat → Value} {g : List Vx} (l : Lk w0 w hi G mv h g) {k : Nat} (hk : k < 218) : w.cell? ⟨G, k, none⟩ = some (h k) := l.str.cell k (arrP_get hk)
theorem Lk.same {w0 w : World} {hi G : Nat} {mv : Value} {h : Nat → Value} {g g' : List Vx} (l : Lk w0 w hi G mv h g) (hs : ∀ y, y ∈ g' ↔ y ∈ g) : Lk w0 w hi G mv h g' :=
  ⟨l.lo, l.lt, l.le, l.str, l.mem, fun y hy => l.has y ((hs y).1 hy), fun r a h1 h2 h3 h4 hn => l.non r a h1 h2 h3 h4 fun y hy => hn y ((hs y).2 hy)⟩
/-- An empty graph. -/
theorem Lk.new {w0 w' : World} {G hi : Nat} {mv : Value} (hs : Str w' G 126 (arrP 218 fun i => if i = 0 then mv else .pointer none)) (hG : w0.heap.size ≤ G) (hhi : G < hi) (hle : hi ≤ w'.heap.size) :
    Lk w0 w' hi G mv (fun i => if i = 0 then mv else .pointer none) [] :=
  ⟨hG, hhi, hle, hs, by simp, (fun y hy => by cases hy), fun r a h1 h2 h3 h4 _ => by rw [if_neg]; unfold plN; omega⟩
/-- A vertex is put into its place. -/
theorem Lk.put {w0 w w1 : World} {hi G q : Nat} {mv : Value} {h : Nat → Value} {g g' : List Vx} {x : Vx} (l : Lk w0 w hi G mv h g) (hg : w.grownBy w1 none) (hx : inPl x) (hno : ∀ y ∈ g, ¬ (y.r = x.r ∧ y.a = x.a))
    (hq : hi ≤ q) {hi2 : Nat} (hq2 : q < hi2) (hh : hi ≤ hi2) (hz : hi2 ≤ w1.heap.size) {pa : Option Addr} {pc : Nat} {pv : Value} {qs : List Nat} (hs : Str w1 q 131 #[.int .i64 x.r, .int .i64 x.a, .slice pa x.ps.length pc, .int .i64 x.d, pv]) (hi' : IntsAt w0 pa x.ps) (hsr : SrcAt w0 pa pc x.ps)
    (ho : OwnP 122 w1 w0.heap.size pv qs) (hob : ∀ b, pv.ownBlock = some b → b ≠ G ∧ b < hi2) (hl : qs.length = x.ps.length) (hp : ∀ j (hj : j < qs.length) (hj' : j < x.ps.length), h (plN (x.r - 1) x.ps[j]) = ptrV qs[j]) (hg' : ∀ y, y ∈ g' ↔ y ∈ g ∨ y = x) :
    Lk w0 (w1.setCell ⟨G, plN x.r x.a, none⟩ (ptrV q)) hi2 G mv (fun i => if i = plN x.r x.a then ptrV q else h i) g' := by
  have hb := plN_bd hx.2.1 hx.2.2.2
  have hnil : h (plN x.r x.a) = .pointer none := l.non x.r x.a hx.1 hx.2.1 hx.2.2.1 hx.2.2.2 hno
  have hsafe : ∀ k p, h k = ptrV p → k ≠ plN x.r x.a := fun k p e e2 => by rw [e2, hnil] at e; cases e
  have hgs := grownBy_set w1 G (plN x.r x.a) (ptrV q)
  have hgG : q ≠ G := by have := l.lt; omega
  refine ⟨l.lo, Nat.lt_of_lt_of_le l.lt hh, by rw [World.size_setCell]; exact hz, ?_, ?_, fun y hy => ?_, fun r a h1 h2 h3 h4 hn => ?_⟩
  · have := (l.str.kept hg (by simp)).set (plN x.r x.a) (ptrV q)
    rwa [arrP_set] at this
  · rw [if_neg (by omega)]; exact l.mem
  · rcases (hg' y).1 hy with hy | rfl
    · obtain ⟨p, e, n⟩ := l.has y hy
      have n1 := (n.kept hg fun m e => by cases e).kept hgs fun m e => by cases e; exact .inr rfl
      refine ⟨p, by rw [if_neg (hsafe _ _ e)]; exact e, n1.lo, Nat.lt_of_lt_of_le n1.lt hh, n1.ne, ?_⟩
      obtain ⟨pa', pc', pv', qs', s, i, c, o, ob, l', p'⟩ := n1.ex
      refine ⟨pa', pc', pv', qs', s, i, c, o, fun b hb => ⟨(ob b hb).1, Nat.lt_of_lt_of_le (ob b hb).2 hh⟩, l', fun j hj hj' => ?_⟩
      have := p' j hj hj'
      rw [if_neg (hsafe _ _ this)]; exact this
    · refine ⟨q, by simp, Nat.le_trans l.lo (Nat.le_trans (Nat.le_of_lt l.lt) hq), hq2, hgG, pa, pc, pv, qs, hs.kept hgs (by simpa using hgG), hi', hsr, ho.kept hgs ?_, hob, hl, fun j hj hj' => ?_⟩
      · cases hv : pv.ownBlock with
        | none => exact .inl rfl
        | some b => refine .inr fun e => (hob b hv).1 ?_; cases e; rfl
      · have := hp j hj hj'
        rw [if_neg (hsafe _ _ this)]; exact this
  · skip
    rw [if_neg, l.non r a h1 h2 h3 h4 fun y hy => hn y ((hg' y).2 (.inl hy))]
    intro e
    obtain ⟨e1, e2⟩ := plN_inj h1 h3 h4 hx.1 hx.2.2.1 hx.2.2.2 e
    exact hn x ((hg' x).2 (.inr rfl)) ⟨e1.symm, e2.symm⟩
end Go.Proofs.Yteglefchkecfjab

/- What impl's functions of digests and hash trees answer, each by a walk of its text: the answers are those of plain functions on lists; conditions: a list that is read has fewer than 2^40 elements and fits its capacity, the numbers are ints. -/
namespace Go.Proofs.Yteglefchkecfjab
open Go.RowKit

theorem impl_isDigest (n : Int) (w : World) : Calls Try.prog 118 #[.int .i64 n] w fun e w' => e = .returned (.bool (digB n)) ∧ w = w' := by
  by_cases h : 0 ≤ n
  · have Hf := Lib.hid (show digB n = decide (n < 991) by unfold digB; rw [Bool.eq_iff_iff]; simp only [decide_eq_true_eq]; omega)
    go_enter Try.func118, Try.ntmps118
    go_wp2
    go_ret
    exact ⟨ret_bool Hf.out.symm, rfl⟩
  · have Hf := Lib.hid (show digB n = false by unfold digB; exact decide_eq_false (by omega))
    go_enter Try.func118, Try.ntmps118
    go_wp2
    go_ret
    exact ⟨ret_bool Hf.out.symm, rfl⟩

end Go.Proofs.Yteglefchkecfjab

/- The library's test whether two lists of ints are the same, and its copy of a list of ints, by walks of their texts; conditions: the lists have fewer than 2^40 elements. -/
namespace Go.Proofs.Yteglefchkecfjab
open Go.RowKit

def EqTo (xs ys : List Int) (k : Nat) : Prop := ∀ j (h : j < xs.length) (h' : j < ys.length), j < k → xs[j] = ys[j]
theorem eqTo_step {xs ys : List Int} {k : Nat} (h : EqTo xs ys k) (hk : k < xs.length) (hk' : k < ys.length) (e : xs[k] = ys[k]) : EqTo xs ys (k + 1) := by
  intro j hj hj' hjk
  by_cases ej : j = k
  · subst ej; exact e
  · exact h j hj hj' (by omega)
theorem eqTo_all {xs ys : List Int} {k : Nat} (h : EqTo xs ys k) (hk : xs.length ≤ k) (hl : xs.length = ys.length) : xs = ys :=
  List.ext_getElem hl fun j h1 h2 => h j h1 h2 (by omega)

theorem lib_Equal (a a' : Option Addr) (c c' : Nat) (xs ys : List Int) (w : World) (hbig : xs.length ≤ 1099511627776) (hbig' : ys.length ≤ 1099511627776) (hc : IntsAt w a xs) (hc' : IntsAt w a' ys) :
    Calls Try.prog 128 #[.slice a xs.length c, .slice a' ys.length c'] w fun e w' => e = .returned (.bool (decide (xs = ys))) ∧ Drawn w w' := by
  by_cases hl : xs.length = ys.length
  · rcases hc.len with h0 | ⟨b, off, rfl, hb, hc⟩
    · have Hf := Lib.hid (show decide (xs = ys) = true from decide_eq_true (List.ext_getElem hl fun j h1 h2 => by omega))
      have hl0 : xs.length = 0 := by omega
      rw [← hl, hl0]
      go_enter Try.func128, Try.ntmps128
      go_wp2
      go_loopw [13] (fun i wr => i = .int .i64 0 ∧ Drawn w wr) (fun _ _ => 0)
      case atStart => exact ⟨rfl, Drawn.refl _⟩
      case round =>
        obtain ⟨rfl, hdr⟩ := hrel
        go_wp2
        go_ret
        exact ⟨ret_bool Hf.out.symm, hdr⟩
    · rcases hc'.len with h0 | ⟨b', off', rfl, hb', hc'⟩
      · have Hf := Lib.hid (show decide (xs = ys) = true from decide_eq_true (List.ext_getElem hl fun j h1 h2 => by omega))
        have hl0 : xs.length = 0 := by omega
        rw [← hl, hl0]
        go_enter Try.func128, Try.ntmps128
        go_wp2
        go_loopw [13] (fun i wr => i = .int .i64 0 ∧ Drawn w wr) (fun _ _ => 0)
        case atStart => exact ⟨rfl, Drawn.refl _⟩
        case round =>
          obtain ⟨rfl, hdr⟩ := hrel
          go_wp2
          go_ret
          exact ⟨ret_bool Hf.out.symm, hdr⟩
      have Hl := Lib.hid hl
      rw [← hl]
      clear hl
      have Hc := Lib.hid hc; clear hc
      have Hc' := Lib.hid hc'; clear hc'
      go_enter Try.func128, Try.ntmps128
      go_wp2
      go_loopw [13] (fun i wr => ∃ k : Nat, k ≤ xs.length ∧ i = .int .i64 k ∧ EqTo xs ys k ∧ Drawn w wr) (fun i _ => xs.length - (intOf i).toNat)
      case atStart => exact ⟨0, by omega, rfl, fun j _ _ h => by omega, Drawn.refl _⟩
      case round =>
        obtain ⟨k, hk, rfl, heq, hdr⟩ := hrel
        have Heq := Lib.hid heq; clear heq
        by_cases hlt : k < xs.length
        · have hlt' : k < ys.length := by have := Hl.out; omega
          have c1 := (hdr.cell _).trans (Hc.out k hlt)
          have c2 := (hdr.cell _).trans (Hc'.out k hlt')
          by_cases he : xs[k] = ys[k]
          · have Hs := Lib.hid (eqTo_step Heq.out hlt hlt' he)
            rw [← he] at c2
            clear he
            generalize xs[k] = x at *
            go_wp2_with fail
            go_quiet (fail)
            go_wp2
            go_roundw
            case rel => exact ⟨k + 1, by omega, by go_num, Hs.out, hdr.drewN _⟩
            case measure => simp [intOf]; omega
          · have Hf := Lib.hid (show decide (xs = ys) = false from decide_eq_false fun e => he (by subst e; rfl))
            have hq : (xs[k] != ys[k]) = true := by simpa using he
            clear he
            generalize xs[k] = x at *
            generalize ys[k] = y at *
            go_wp2_with fail
            go_quiet (fail)
            go_wp2
            go_ret
            exact ⟨ret_bool Hf.out.symm, hdr.drewN _⟩
        · have Hf := Lib.hid (show decide (xs = ys) = true from decide_eq_true (eqTo_all Heq.out (by omega) Hl.out))
          go_wp2
          go_ret
          exact ⟨ret_bool Hf.out.symm, hdr⟩
  · have Hf := Lib.hid (show decide (xs = ys) = false from decide_eq_false fun e => hl (by rw [e]))
    have hq : ((xs.length : Int) != (ys.length : Int)) = true := by simp; omega
    clear hc hc'
    go_enter Try.func128, Try.ntmps128
    go_wp2
    go_ret
    exact ⟨ret_bool Hf.out.symm, Drawn.refl _⟩

theorem lib_Clone (hT : IntT Try.prog 23 3) (pa : Option Addr) (pc : Nat) (ps : List Int) (w : World) (hbp : ps.length ≤ 1099511627776) (hs : SrcAt w pa pc ps) (hi : IntsAt w pa ps) :
    Calls Try.prog 92 #[.slice pa ps.length pc] w fun e w' => ∃ v, e = .returned v ∧ Own 3 w' w.heap.size v ps ∧ Below w.heap.size w w' := by
  have hq : ∀ (w : World) (a : Option Addr) (n c n' c' : Nat), (binOp .eql 23 (.slice a n c) (.slice none n' c')).run Try.prog w = .ok (.bool a.isNone) w := fun w a n c n' c' => Lib.run_eql_slice_nil w _ _ a n c n' c' Try.underlying23
  cases pa with
  | none =>
    have hp0 : ps = [] := by
      rcases hi with h | ⟨b, off, e, _⟩
      · exact h
      · cases e
    subst hp0
    clear hs hi
    go_enter Try.func92, Try.ntmps92
    go_wp2
    go_ret
    exact ⟨_, rfl, Own.nil _ _ _, Below.refl _ _⟩
  | some ad =>
    have hb2 : Below w.heap.size w (w.alloc (.cells #[] 3)) := (Below.refl _ _).alloc (Nat.le_refl _) _
    have ho := own_empty 3 w (Nat.le_refl _)
    have hsrc : SrcAt (w.alloc (.cells #[] 3)) (some ad) pc ps := by
      rcases hs with h | ⟨ad', e, hc⟩
      · exact .inl h
      · cases e
        refine .inr ⟨ad, rfl, fun j hj => ?_⟩
        obtain ⟨b, off, e, hb, _⟩ := hi.cell (by omega)
        cases e
        have := hc j hj
        rw [addr_add'] at this ⊢
        exact (hb2.cell (p := ⟨b, off + j, none⟩) hb).trans this
    have hzs : (w.alloc (.cells #[] 3)).heap.size = w.heap.size + 1 := by simp
    have Ho := Lib.hid ho; clear ho
    have Hsrc := Lib.hid hsrc; clear hsrc
    have Hb2 := Lib.hid hb2; clear hb2 hs hi
    go_enter Try.func92, Try.ntmps92
    go_wp2_with (at_builtin; refine wpList_appI hT rfl _ _ rfl w.heap.size (.slice (some ⟨w.heap.size, 0, none⟩) 0 0) [] ps _ _ rfl Ho.out rfl Hsrc.out (by simp; omega) (by rw [hzs]; omega) ?_; intro v5 w5 hown hg5; (rw [List.nil_append] at hown))
    go_ret
    exact ⟨_, rfl, hown, Hb2.out.grown hg5 (by omega) (fun g e => by cases e; exact Nat.le_refl _)⟩

end Go.Proofs.Yteglefchkecfjab

/- impl's small functions of vertices, each by a walk of its text; conditions: lists are shorter than 2^40, and where the text asks it, the committee is valid. -/
namespace Go.Proofs.Yteglefchkecfjab
open Go.RowKit

theorem impl_isRound (n : Int) (w : World) : Calls Try.prog 117 #[.int .i64 n] w fun e w' => e = .returned (.bool (rngB n)) ∧ w = w' := by
  by_cases h : 0 ≤ n
  · have Hf := Lib.hid (show rngB n = decide (n ≤ 30) by unfold rngB; rw [Bool.eq_iff_iff]; simp only [decide_eq_true_eq]; omega)
    go_enter Try.func117, Try.ntmps117
    go_wp2
    go_ret
    exact ⟨ret_bool Hf.out.symm, rfl⟩
  · have Hf := Lib.hid (show rngB n = false by unfold rngB; exact decide_eq_false (by omega))
    go_enter Try.func117, Try.ntmps117
    go_wp2
    go_ret
    exact ⟨ret_bool Hf.out.symm, rfl⟩

def qmB (c ps : List Int) : Bool := membersB c.length ps && decide (quorumZ c ≤ weightZ c ps)
theorem committee_isQuorum (ac : Option Addr) (capc : Nat) (c : List Int) (pa : Option Addr) (pc : Nat) (ps : List Int) (w : World) (hv : validB c = true) (hbig : ps.length ≤ 1099511627776) (hc : IntsAt w ac c) (hp : IntsAt w pa ps) :
    Calls Try.prog 70 #[.slice ac c.length capc, .slice pa ps.length pc] w fun e w' => e = .returned (.bool (qmB c ps)) ∧ w = w' := by
  obtain ⟨hn1, hn7⟩ := validB_len hv
  have H1 := Lib.hid (committee_hasMembers ac capc c.length pa pc ps w (by omega) hbig hp)
  have H2 := Lib.hid (fun (hm : membersB c.length ps = true) => committee_weight ac capc c pa pc ps w hv hm hbig hc hp)
  have H3 := Lib.hid (committee_quorum ac capc c w hv hc)
  clear hc hp
  have Hq := Lib.hid (show qmB c ps = (membersB c.length ps && decide (quorumZ c ≤ weightZ c ps)) from rfl)
  go_enter Try.func70, Try.ntmps70
  go_wp2_with fail
  refine H1.out.mono ?_
  rintro e w1 ⟨rfl, rfl⟩
  cases hm : membersB c.length ps with
  | false =>
    go_wp2
    go_ret
    exact ⟨ret_bool (by rw [Hq.out, hm]; rfl), rfl⟩
  | true =>
    have H2 := Lib.hid (H2.out hm)
    go_wp2_with fail
    refine H2.out.mono ?_
    rintro e w1 ⟨rfl, rfl⟩
    go_wp2_with fail
    refine H3.out.mono ?_
    rintro e w1 ⟨rfl, rfl⟩
    go_wp2
    go_ret
    exact ⟨ret_bool (by rw [Hq.out, hm]; rfl), rfl⟩

theorem vertex_isBefore (x y : Vx) (pa pa' : Option Addr) (pc pc' : Nat) (w : World) :
    Calls Try.prog 106 #[.agg #[.int .i64 x.r, .int .i64 x.a, .slice pa x.ps.length pc, .int .i64 x.d], .agg #[.int .i64 y.r, .int .i64 y.a, .slice pa' y.ps.length pc', .int .i64 y.d]] w fun e w' => e = .returned (.bool (befB x y)) ∧ Below w.heap.size w w' := by
  have hb : Below w.heap.size w ((w.alloc (.cells #[.int .i64 x.r, .int .i64 x.a, .slice pa x.ps.length pc, .int .i64 x.d] 30)).alloc (.cells #[.int .i64 y.r, .int .i64 y.a, .slice pa' y.ps.length pc', .int .i64 y.d] 30)) := ((Below.refl _ w).alloc (Nat.le_refl _) _).alloc (by simp) _
  by_cases h1 : x.r < y.r
  · have hz : befB x y = true := decide_eq_true (.inl h1)
    go_enter Try.func106, Try.ntmps106
    go_wp2
    go_ret
    exact ⟨by first | rfl | exact ret_bool (by first | rfl | rw [hz]), hb⟩
  · have h1' : decide (x.r < y.r) = false := decide_eq_false h1
    by_cases h2 : x.r = y.r
    · have hz : befB x y = decide (x.a < y.a) := by unfold befB; rw [Bool.eq_iff_iff, decide_eq_true_iff, decide_eq_true_iff]; omega
      have h2' : (x.r == y.r) = true := by simpa using h2
      clear h1 h2
      go_enter Try.func106, Try.ntmps106
      go_wp2
      go_ret
      exact ⟨by first | rfl | exact ret_bool (by first | rfl | rw [hz]), hb⟩
    · have hz : befB x y = false := decide_eq_false (by omega)
      have h2' : (x.r == y.r) = false := by simpa using h2
      go_enter Try.func106, Try.ntmps106
      go_wp2
      go_ret
      exact ⟨by first | rfl | exact ret_bool (by first | rfl | rw [hz]), hb⟩

theorem vtx_no1 {c : List Int} {x : Vx} (h : rngB x.r = false) : vtxB c x = false := by unfold vtxB; rw [h]; rfl
theorem vtx_no2 {c : List Int} {x : Vx} (h : ¬ (0 ≤ x.a ∧ x.a < (c.length : Int))) : vtxB c x = false := by
  unfold vtxB; rw [show autB c.length x.a = false from decide_eq_false (by omega)]; simp
theorem vtx_no3 {c : List Int} {x : Vx} (h : digB x.d = false) : vtxB c x = false := by unfold vtxB; rw [h]; simp
theorem vtx_0 {c : List Int} {x : Vx} (h1 : rngB x.r = true) (h2 : 0 ≤ x.a ∧ x.a < (c.length : Int)) (h3 : digB x.d = true) (h0 : x.r = 0) : vtxB c x = decide (x.ps.length = 0) := by
  unfold vtxB quoB
  rw [h1, h3, show autB c.length x.a = true from decide_eq_true (by omega), if_pos h0]
  by_cases hp : x.ps.length = 0
  · have : x.ps = [] := List.eq_nil_of_length_eq_zero hp
    rw [this]; rfl
  · rw [decide_eq_false hp]; simp
theorem vtx_1 {c : List Int} {x : Vx} (h1 : rngB x.r = true) (h2 : 0 ≤ x.a ∧ x.a < (c.length : Int)) (h3 : digB x.d = true) (h0 : ¬ x.r = 0) : vtxB c x = qmB c x.ps := by
  unfold vtxB quoB qmB
  rw [h1, h3, show autB c.length x.a = true from decide_eq_true (by omega), if_neg h0]
  simp
set_option maxHeartbeats 1000000 in
theorem vertex_fits (ac : Option Addr) (capc : Nat) (c : List Int) (x : Vx) (pa : Option Addr) (pc : Nat) (w : World) (hv : validB c = true) (hbig : x.ps.length ≤ 1099511627776) (hc : IntsAt w ac c) (hp : IntsAt w pa x.ps) :
    Calls Try.prog 111 #[.agg #[.int .i64 x.r, .int .i64 x.a, .slice pa x.ps.length pc, .int .i64 x.d], .slice ac c.length capc] w fun e w' => e = .returned (.bool (vtxB c x)) ∧ Below w.heap.size w w' := by
  obtain ⟨hn1, hn7⟩ := validB_len hv
  have hb0 : Below w.heap.size w (w.alloc (.cells #[.int .i64 x.r, .int .i64 x.a, .slice pa x.ps.length pc, .int .i64 x.d] 30)) := (Below.refl _ _).alloc (Nat.le_refl _) _
  have s0 := Str.new w 30 #[.int .i64 x.r, .int .i64 x.a, .slice pa x.ps.length pc, .int .i64 x.d]
  have k0 := s0.cell 0 (v := .int .i64 x.r) rfl
  have k1 := s0.cell 1 (v := .int .i64 x.a) rfl
  have k2 := s0.cell 2 (v := .slice pa x.ps.length pc) rfl
  have k3 := s0.cell 3 (v := .int .i64 x.d) rfl
  have H4 := Lib.hid (committee_isQuorum ac capc c pa pc x.ps _ hv hbig (hc.below hb0) (hp.below hb0))
  have Hb0 := Lib.hid hb0
  have N1 := Lib.hid (vtx_no1 (c := c) (x := x))
  have N2 := Lib.hid (vtx_no2 (c := c) (x := x))
  have N3 := Lib.hid (vtx_no3 (c := c) (x := x))
  have Y0 := Lib.hid (vtx_0 (c := c) (x := x))
  have Y1 := Lib.hid (vtx_1 (c := c) (x := x))
  clear hb0 s0 hc hp
  go_enter Try.func111, Try.ntmps111
  go_wp2_with fail
  generalize w.alloc (.cells #[.int .i64 x.r, .int .i64 x.a, .slice pa x.ps.length pc, .int .i64 x.d] 30) = W0 at *
  refine (impl_isRound x.r W0).mono ?_
  rintro e w1 ⟨rfl, rfl⟩
  cases h1 : rngB x.r with
  | false =>
    have hz := N1.out h1
    go_wp2
    go_ret
    exact ⟨ret_bool (by rw [hz]), Hb0.out⟩
  | true =>
  by_cases h2 : 0 ≤ x.a
  case neg =>
    have Hz := Lib.hid (N2.out (by omega))
    have h2' : x.a < 0 := by omega
    go_wp2
    go_ret
    exact ⟨ret_bool (by rw [Hz.out]), Hb0.out⟩
  by_cases h3 : x.a < (c.length : Int)
  case neg =>
    have Hz := Lib.hid (N2.out (by omega))
    have h3' : (c.length : Int) ≤ x.a := by omega
    go_wp2
    go_ret
    exact ⟨ret_bool (by rw [Hz.out]), Hb0.out⟩
  have h3' : ¬ (c.length : Int) ≤ x.a := by omega
  go_wp2_with fail
  refine (impl_isDigest x.d W0).mono ?_
  rintro e w1 ⟨rfl, rfl⟩
  cases h4 : digB x.d with
  | false =>
    have Hz := Lib.hid (N3.out h4)
    go_wp2
    go_ret
    exact ⟨ret_bool (by rw [Hz.out]), Hb0.out⟩
  | true =>
  by_cases h0 : x.r = 0
  · have Hz := Lib.hid (Y0.out h1 ⟨h2, h3⟩ h4 h0)
    have h0' : (x.r == 0) = true := by simpa using h0
    clear h0 N1 N2 N3 Y0 Y1
    go_wp2
    go_ret
    exact ⟨ret_bool (by rw [Hz.out, Bool.eq_iff_iff, beq_iff_eq, decide_eq_true_iff]; omega), Hb0.out⟩
  · have Hz := Lib.hid (Y1.out h1 ⟨h2, h3⟩ h4 h0)
    have h0' : (x.r == 0) = false := by simpa using h0
    clear N1 N2 N3 Y0 Y1
    go_wp2_with fail
    refine H4.out.mono ?_
    rintro e w1 ⟨rfl, rfl⟩
    go_wp2
    go_ret
    exact ⟨ret_bool (by rw [Hz.out]), Hb0.out⟩

theorem same_yes {x y : Vx} (h1 : x.r = y.r) (h2 : x.a = y.a) (h4 : x.d = y.d) : sameB x y = decide (x.ps = y.ps) := by
  by_cases h : x.ps = y.ps
  · rw [decide_eq_true h]; exact decide_eq_true (vx_ext h1 h2 h h4)
  · rw [decide_eq_false h]; exact decide_eq_false fun e => h (by rw [e])
set_option maxHeartbeats 1000000 in
theorem impl_sameVertex (x y : Vx) (pa pa' : Option Addr) (pc pc' : Nat) (w : World) (hx : x.ps.length ≤ 1099511627776) (hy : y.ps.length ≤ 1099511627776) (hp : IntsAt w pa x.ps) (hp' : IntsAt w pa' y.ps) :
    Calls Try.prog 112 #[.agg #[.int .i64 x.r, .int .i64 x.a, .slice pa x.ps.length pc, .int .i64 x.d], .agg #[.int .i64 y.r, .int .i64 y.a, .slice pa' y.ps.length pc', .int .i64 y.d]] w fun e w' => e = .returned (.bool (sameB x y)) ∧ Below w.heap.size w w' := by
  have hb : Below w.heap.size w ((w.alloc (.cells #[.int .i64 x.r, .int .i64 x.a, .slice pa x.ps.length pc, .int .i64 x.d] 30)).alloc (.cells #[.int .i64 y.r, .int .i64 y.a, .slice pa' y.ps.length pc', .int .i64 y.d] 30)) := ((Below.refl _ w).alloc (Nat.le_refl _) _).alloc (by simp) _
  have H4 := Lib.hid (lib_Equal pa pa' pc pc' x.ps y.ps _ hx hy (hp.below hb) (hp'.below hb))
  have Hb := Lib.hid hb; clear hb hp hp'
  by_cases h1 : x.r = y.r
  case neg =>
    have Hz := Lib.hid (sameB_no (x := x) (y := y) (fun e => h1 (by rw [e])))
    have e1 : (x.r == y.r) = false := by simpa using h1
    clear h1
    go_enter Try.func112, Try.ntmps112
    go_wp2
    go_ret
    exact ⟨by first | rfl | exact ret_bool (by rw [Hz.out]), Hb.out⟩
  have e1 : (x.r == y.r) = true := by simpa using h1
  by_cases h2 : x.a = y.a
  case neg =>
    have Hz := Lib.hid (sameB_no (x := x) (y := y) (fun e => h2 (by rw [e])))
    have e2 : (x.a == y.a) = false := by simpa using h2
    clear h1 h2
    go_enter Try.func112, Try.ntmps112
    go_wp2
    go_ret
    exact ⟨by first | rfl | exact ret_bool (by rw [Hz.out]), Hb.out⟩
  have e2 : (x.a == y.a) = true := by simpa using h2
  by_cases h4 : x.d = y.d
  case neg =>
    have Hz := Lib.hid (sameB_no (x := x) (y := y) (fun e => h4 (by rw [e])))
    have e4 : (x.d == y.d) = false := by simpa using h4
    clear h1 h2 h4
    go_enter Try.func112, Try.ntmps112
    go_wp2
    go_ret
    exact ⟨by first | rfl | exact ret_bool (by rw [Hz.out]), Hb.out⟩
  have e4 : (x.d == y.d) = true := by simpa using h4
  have Hz := Lib.hid (same_yes h1 h2 h4)
  clear h1 h2 h4
  go_enter Try.func112, Try.ntmps112
  go_wp2_with fail
  refine H4.out.mono ?_
  rintro e w1 ⟨rfl, hd⟩
  have Hb1 := Lib.hid (below_step Hb.out Hb.out.size (hd.below _))
  clear hd
  go_wp2
  go_ret
  exact ⟨ret_bool (by rw [Hz.out]), Hb1.out⟩

set_option maxHeartbeats 1000000 in
theorem impl_copyOfVertex (r a d : Int) (pa : Option Addr) (pc : Nat) (ps : List Int) (w : World) (hbp : ps.length ≤ 1099511627776) (hs : SrcAt w pa pc ps) (hi : IntsAt w pa ps) :
    Calls Try.prog 113 #[.agg #[.int .i64 r, .int .i64 a, .slice pa ps.length pc, .int .i64 d]] w fun e w' => ∃ v, e = .returned (.agg #[.int .i64 r, .int .i64 a, v, .int .i64 d]) ∧ Own 3 w' w.heap.size v ps ∧ Below w.heap.size w w' := by
  have hbW : Below w.heap.size w ((w.alloc (.cells #[.int .i64 r, .int .i64 a, .slice pa ps.length pc, .int .i64 d] 30)).alloc (.cells #[.int .i64 0, .int .i64 0, .slice none 0 0, .int .i64 0] 30)) := ((Below.refl _ w).alloc (Nat.le_refl _) _).alloc (by simp) _
  have s0 := (Str.new w 30 #[.int .i64 r, .int .i64 a, .slice pa ps.length pc, .int .i64 d]).alloc (.cells #[.int .i64 0, .int .i64 0, .slice none 0 0, .int .i64 0] 30)
  have s1 := Str.new (w.alloc (.cells #[.int .i64 r, .int .i64 a, .slice pa ps.length pc, .int .i64 d] 30)) 30 #[.int .i64 0, .int .i64 0, .slice none 0 0, .int .i64 0]
  have hz1 : (w.alloc (.cells #[.int .i64 r, .int .i64 a, .slice pa ps.length pc, .int .i64 d] 30)).heap.size = w.heap.size + 1 := by simp
  rw [hz1] at s1
  have hzW : ((w.alloc (.cells #[.int .i64 r, .int .i64 a, .slice pa ps.length pc, .int .i64 d] 30)).alloc (.cells #[.int .i64 0, .int .i64 0, .slice none 0 0, .int .i64 0] 30)).heap.size = w.heap.size + 2 := by simp
  have k2 := s0.cell 2 (v := .slice pa ps.length pc) rfl
  have HC := Lib.hid (lib_Clone TIg pa pc ps _ hbp (hs.under hi hbW) (hi.below hbW))
  have Hs0 := Lib.hid s0
  have Hs1 := Lib.hid s1
  have HbW := Lib.hid hbW
  have HzW := Lib.hid hzW
  clear s0 s1 hbW hs hi hz1 hzW
  go_enter Try.func113, Try.ntmps113
  go_wp2_with fail
  generalize (w.alloc (.cells #[.int .i64 r, .int .i64 a, .slice pa ps.length pc, .int .i64 d] 30)).alloc (.cells #[.int .i64 0, .int .i64 0, .slice none 0 0, .int .i64 0] 30) = W at *
  refine HC.out.mono ?_
  rintro e w5 ⟨v, rfl, hown, hb5⟩
  have t0 : Str w5 w.heap.size 30 #[.int .i64 r, .int .i64 a, .slice pa ps.length pc, .int .i64 d] := (hb5.block _ Hs0.out.lt).trans Hs0.out
  have t1 : Str w5 (w.heap.size + 1) 30 #[.int .i64 0, .int .i64 0, .slice none 0 0, .int .i64 0] := (hb5.block _ Hs1.out.lt).trans Hs1.out
  have Hlt := Lib.hid hown.lt
  have Hown := Lib.hid hown
  have Hb5 := Lib.hid (below_step HbW.out HbW.out.size hb5)
  obtain ⟨a5, c5, rfl, _, _⟩ := Hown.out.ints
  clear hown hb5 k2
  have k0 := t0.cell 0 (v := .int .i64 r) rfl
  have k1 := t0.cell 1 (v := .int .i64 a) rfl
  have k2 := t0.cell 2 (v := .slice pa ps.length pc) rfl
  have k3 := t0.cell 3 (v := .int .i64 d) rfl
  have f2 := t0.frozen 2
  have j0 := t1.cell 0 (v := .int .i64 0) rfl
  have j1 := t1.cell 1 (v := .int .i64 0) rfl
  have j2 := t1.cell 2 (v := .slice none 0 0) rfl
  have j3 := t1.cell 3 (v := .int .i64 0) rfl
  have g0 := t1.frozen 0
  have g1 := t1.frozen 1
  have g2 := t1.frozen 2
  have g3 := t1.frozen 3
  have hne : w.heap.size + 1 ≠ w.heap.size := by omega
  have u := ((((t1.other hne 2 (.slice a5 ps.length c5)).set 0 (.int .i64 r)).set 1 (.int .i64 a)).set 2 (.slice a5 ps.length c5)).set 3 (.int .i64 d)
  have e0 := u.cell 0 (v := .int .i64 r) rfl
  have e1 := u.cell 1 (v := .int .i64 a) rfl
  have e2 := u.cell 2 (v := .slice a5 ps.length c5) rfl
  have e3 := u.cell 3 (v := .int .i64 d) rfl
  clear u t0 t1
  go_wp2
  refine bodyPost_ret (v := .agg #[.int .i64 r, .int .i64 a, .slice a5 ps.length c5, .int .i64 d]) (by simp [results, Try.f113, go_sem, e0, e1, e2, e3]) rfl ?_
  have n1 : (Value.slice a5 ps.length c5).ownBlock ≠ some (w.heap.size) := fun e => by have := Hlt.out _ e; have := HzW.out; omega
  have n2 : (Value.slice a5 ps.length c5).ownBlock ≠ some (w.heap.size + 1) := fun e => by have := Hlt.out _ e; have := HzW.out; omega
  exact ⟨_, rfl, ((((((Hown.out.mono (by have := HzW.out; omega)).set_other n1 2 _).set_other n2 0 _).set_other n2 1 _).set_other n2 2 _).set_other n2 3 _), (((((Hb5.out.setCell (p := ⟨w.heap.size, 2, none⟩) (by simp only; omega) _).setCell (p := ⟨w.heap.size + 1, 0, none⟩) (by simp only; omega) _).setCell (p := ⟨w.heap.size + 1, 1, none⟩) (by simp only; omega) _).setCell (p := ⟨w.heap.size + 1, 2, none⟩) (by simp only; omega) _).setCell (p := ⟨w.heap.size + 1, 3, none⟩) (by simp only; omega) _)⟩

end Go.Proofs.Yteglefchkecfjab

/- impl's adding of a vertex to a graph of pointers, by a walk of its text; conditions: lists are shorter than 2^40, the committee, the graph and its vertices are valid. -/
namespace Go.Proofs.Yteglefchkecfjab
open Go.RowKit

theorem run_index_z {P : Program} {T E : TypeId} {n s k B o : Nat} {z : Int} (hu : P.underlying T = some (.array n E)) (hs : (P.info? E).map (·.size) = some s) (hz : z = (k : Int)) (hk : k < n) (w : World) :
    (Instr.indexAt T (.pointer (some ⟨B, o, none⟩)) (.int .i64 z)).run P w = .ok (.pointer (some ⟨B, o + k * s, none⟩)) w := by
  subst hz
  have h1 := run_underlying hu w
  cases hq : P.info? E with
  | none => simp [hq] at hs
  | some i =>
    have hz : i.size = s := by simpa [hq] using hs
    simp [Instr.indexAt, asIntOf, Instr.sureAddr, Sem.run_bind, h1, sizeOf, typeInfo, hq, hz, hk, addr_add']

theorem below_rowP {w w' : World} (h : Below w.heap.size w w') (row : Option Nat) : w.grownBy w' row := ⟨h.os, h.tape, h.output, h.size, fun k hk _ => h.block k hk⟩

/-- 'append(s, p)', p a pointer. -/
theorem wpList_pushP {P : Program} {T E : TypeId} (hsl : P.underlying T = some (.slice E)) (hinf : (P.info? E).map (fun i => (i.zero, i.size, i.bytes)) = some (some (.pointer none), 1, 8)) {w : World} {ops : Array Oper} {rest : List Oper} {o : Oper} {a : Act} {Q : Exit → Act → World → Prop} (hgd : o.guard = none) (s x : Operand)
    (ho : o.op = .call { callee := .builtin .append, args := #[s, x], argTypes := #[T, T] }) (B : Nat) (v : Value) (qs : List Nat) (q : Nat) (hs : a.eval s = v) (hown : OwnP E w B v qs)
    (hlen : qs.length ≤ 1099511627776) (hx : a.eval x = .slice (some ⟨w.heap.size, 0, none⟩) 1 1) (hB : B ≤ w.heap.size)
    (h : ∀ v' w', OwnP E w' B v' (qs ++ [q]) → w.grownBy w' v.ownBlock → (∀ g, v'.ownBlock = some g → v.ownBlock = some g ∨ w.heap.size ≤ g) → wpList P ops Q rest (a.put o.dst v') w') : wpList P ops Q (o :: rest) a (w.alloc (.cells #[.pointer (some ⟨q, 0, none⟩)] E)) := by
  refine wpList_want (by unfold Region.wanted; rw [hgd]) fun K hK => ?_
  obtain ⟨i, hi, hz, hsz, hby⟩ := info_parts hinf
  obtain ⟨v', w', hrun, h1, h2, _, h4⟩ := run_append_own_at (P := P) (w.alloc (.cells #[.pointer (some ⟨q, 0, none⟩)] E)) B T o.type E i (.pointer none) 1 8 hsl hi hz hsz hby rfl (by decide) v qs.length _ (World.ownsRow.alloc hown _) ⟨w.heap.size, 0, none⟩ 1 1 [ptrV q] rfl
    (cells_ptr w E q) (by intro u hu; simp at hu; subst hu; rfl) (by unfold maxLen; omega) (by omega) (by simp; omega)
  unfold Oper.wp execOp
  simp only [ho, resolve, invoke, builtin, Sem.run_bind, Sem.run_pure, Result.andThen_ok, List.map_toArray, List.map_cons, List.map_nil, hs, hx, hrun]
  refine hK _ _ (h v' w' ?_ (grownBy_trans (World.grownBy_alloc _ _ _) h2) fun g e => ?_)
  · unfold OwnP; simpa using h1
  · rcases h4 with h4 | h4
    · exact .inl (by rw [← h4]; exact e)
    · rw [h4] at e; cases e; exact .inr (by simp)

/-- The code of an addition to a graph that is valid, and the graph after it. -/
def adN (c : List Int) (g : List Vx) (x : Vx) : Int := if vtxB c x = true then addN g x else 4
def adG (c : List Int) (g : List Vx) (x : Vx) : List Vx := if vtxB c x = true then addG g x else g
def AddPost (w0 w : World) (G : Nat) (mv : Value) (c : List Int) (g : List Vx) (x : Vx) : Ending → World → Prop := fun e w' =>
  e = .returned (.int .i64 (adN c g x)) ∧ w.grownBy w' (some G) ∧ ∃ hi h, Lk w0 w' hi G mv h (adG c g x)
theorem vtx_pl {c : List Int} {x : Vx} (hv : validB c = true) (h : vtxB c x = true) : inPl x := by
  obtain ⟨hn1, hn7⟩ := validB_len hv
  unfold vtxB rngB autB at h
  simp only [Bool.and_eq_true, decide_eq_true_eq] at h
  unfold inPl; omega
theorem vtx_mem {c : List Int} {x : Vx} (h : vtxB c x = true) : membersB c.length x.ps = true := by
  unfold vtxB at h
  simp only [Bool.and_eq_true] at h
  exact h.2.2.1
theorem vtx_r0 {c : List Int} {x : Vx} (h : vtxB c x = true) (h0 : x.r = 0) : x.ps.length = 0 := by
  unfold vtxB quoB at h
  simp only [Bool.and_eq_true, if_pos h0, decide_eq_true_eq] at h
  exact h.2.2.2.2
theorem run_place (G : Nat) (r a : Int) (hr : 0 ≤ r) (hr2 : r ≤ 30) (ha : 0 ≤ a) (ha2 : a ≤ 6) : ∃ o1, (∀ w, (Instr.indexAt 124 (.pointer (some ⟨G, 1, none⟩)) (.int .i64 r)).run Try.prog w = .ok (.pointer (some ⟨G, o1, none⟩)) w) ∧
    ∀ w, (Instr.indexAt 123 (.pointer (some ⟨G, o1, none⟩)) (.int .i64 a)).run Try.prog w = .ok (.pointer (some ⟨G, plN r a, none⟩)) w := by
  refine ⟨1 + r.toNat * 7, fun w => ?_, fun w => ?_⟩
  · exact run_index_z (s := 7) Try.underlying124 (by kernel_rfl) (by omega) (by omega) w
  · have := run_index_z (P := Try.prog) (B := G) (o := 1 + r.toNat * 7) (s := 1) (k := a.toNat) (z := a) Try.underlying123 (by kernel_rfl) (by omega) (by omega) w
    rw [this]
    unfold plN
    rw [Nat.mul_one, Nat.add_assoc]
theorem add_found {c : List Int} {g : List Vx} {x y : Vx} (hs : Srt g) (hx : vtxB c x = true) (hy : y ∈ g) (hr : y.r = x.r) (ha : y.a = x.a) :
    (sameB y x = true → adN c g x = 1 ∧ adG c g x = g) ∧ (sameB y x = false → adN c g x = 2 ∧ adG c g x = g) := by
  obtain ⟨k, hk, e, rfl⟩ := findZ_mem hs hy
  rw [hr, ha] at e
  unfold adN adG
  rw [if_pos hx, if_pos hx]
  exact ⟨fun h => addN_same hk e h, fun h => addN_twice hk e h⟩
theorem add_fresh {c : List Int} {g : List Vx} {x : Vx} (hx : vtxB c x = true) (hn : ∀ y ∈ g, ¬ (y.r = x.r ∧ y.a = x.a)) :
    (parB g x = false → adN c g x = 3 ∧ adG c g x = g) ∧ (parB g x = true → adN c g x = 0 ∧ adG c g x = insG g x) := by
  unfold adN adG
  rw [if_pos hx, if_pos hx]
  exact ⟨fun h => addN_miss (findZ_none hn) h, fun h => addN_done (findZ_none hn) h⟩
theorem ad_not {c : List Int} {g : List Vx} {x : Vx} (hx : vtxB c x = false) : adN c g x = 4 ∧ adG c g x = g := by
  unfold adN adG
  rw [if_neg (by simp [hx]), if_neg (by simp [hx])]
  exact ⟨rfl, rfl⟩
theorem Lk.place {w0 w : World} {hi G : Nat} {mv : Value} {h : Nat → Value} {g : List Vx} {r : Int} {ps : List Int} (l : Lk w0 w hi G mv h g) (hs : Srt g) (k : Nat) (hk : k < ps.length) (h0 : 0 ≤ r - 1) (h1 : r - 1 ≤ 30) (h2 : 0 ≤ ps[k]) (h3 : ps[k] ≤ 6) :
    (∃ q, h (plN (r - 1) ps[k]) = ptrV q ∧ hasP g r ps k = true) ∨ (h (plN (r - 1) ps[k]) = .pointer none ∧ hasP g r ps k = false) := by
  unfold hasP
  rw [getD_get hk]
  by_cases he : ∃ y ∈ g, y.r = r - 1 ∧ y.a = ps[k]
  · obtain ⟨y, hy, er, ea⟩ := he
    obtain ⟨q, hq, _⟩ := l.has y hy
    obtain ⟨j, _, e, _⟩ := findZ_mem hs hy
    rw [er, ea] at hq e
    exact .inl ⟨q, hq, by rw [e]; exact decide_eq_true (by omega)⟩
  · have hn : ∀ y ∈ g, ¬ (y.r = r - 1 ∧ y.a = ps[k]) := fun y hy e => he ⟨y, hy, e⟩
    exact .inr ⟨l.non _ _ h0 h1 h2 h3 hn, by rw [findZ_none hn]; rfl⟩
theorem qs_step {h : Nat → Value} {r : Int} {ps : List Int} {qs : List Nat} {q k : Nat} (hq : ∀ j (_ : j < qs.length) (hj' : j < ps.length), h (plN (r - 1) ps[j]) = ptrV qs[j]) (hl : qs.length = k) (hk : k < ps.length) (he : h (plN (r - 1) ps[k]) = ptrV q) :
    ∀ j (hj : j < (qs ++ [q]).length) (hj' : j < ps.length), h (plN (r - 1) ps[j]) = ptrV (qs ++ [q])[j] := by
  intro j hj hj'
  by_cases e : j < qs.length
  · rw [List.getElem_append_left e]; exact hq j e hj'
  · have : j = k := by rw [List.length_append] at hj; simp at hj; omega
    subst this
    rw [he]
    congr 1
    rw [List.getElem_append_right (by omega)]; simp
set_option maxRecDepth 8000 in
set_option maxHeartbeats 4000000 in
theorem graph_add (w0 w : World) (hi G : Nat) (ac : Option Addr) (capc : Nat) (c : List Int) (h : Nat → Value) (g : List Vx) (x : Vx) (pa : Option Addr) (pc : Nat) (hv : validB c = true) (hbp : x.ps.length ≤ 1099511627776) (hgp : ∀ y ∈ g, y.ps.length ≤ 1099511627776)
    (hs : SrcAt w0 pa pc x.ps) (hip : IntsAt w0 pa x.ps) (hc : IntsAt w0 ac c) (hb : Below w0.heap.size w0 w) (hL : Lk w0 w hi G (.slice ac c.length capc) h g) (hsrt : Srt g) (hgv : ∀ y ∈ g, vtxB c y = true) :
    Calls Try.prog 60 #[.pointer (some ⟨G, 0, none⟩), .agg #[.int .i64 x.r, .int .i64 x.a, .slice pa x.ps.length pc, .int .i64 x.d]] w (AddPost w0 w G (.slice ac c.length capc) c g x) := by
  have hb0 : Below w.heap.size w (w.alloc (.cells #[.int .i64 x.r, .int .i64 x.a, .slice pa x.ps.length pc, .int .i64 x.d] 30)) := (Below.refl _ _).alloc (Nat.le_refl _) _
  have hsz0 : (w.alloc (.cells #[.int .i64 x.r, .int .i64 x.a, .slice pa x.ps.length pc, .int .i64 x.d] 30)).heap.size = w.heap.size + 1 := by simp
  have s0 := Str.new w 30 #[.int .i64 x.r, .int .i64 x.a, .slice pa x.ps.length pc, .int .i64 x.d]
  have k0 := s0.cell 0 (v := .int .i64 x.r) rfl
  have k1 := s0.cell 1 (v := .int .i64 x.a) rfl
  have k2 := s0.cell 2 (v := .slice pa x.ps.length pc) rfl
  have k3 := s0.cell 3 (v := .int .i64 x.d) rfl
  have hL0 := hL.under hb0
  have g0 := hL0.cell (k := 0) (by omega)
  rw [hL.mem] at g0
  have hGw : G < w.heap.size := Nat.lt_of_lt_of_le hL.lt hL.le
  have hbW := below_step hb hb.size hb0
  have HbW := Lib.hid hbW; clear hbW
  have HF := Lib.hid (fun W (h : Below (w.alloc (.cells #[.int .i64 x.r, .int .i64 x.a, .slice pa x.ps.length pc, .int .i64 x.d] 30)).heap.size (w.alloc (.cells #[.int .i64 x.r, .int .i64 x.a, .slice pa x.ps.length pc, .int .i64 x.d] 30)) W) => vertex_fits ac capc c x pa pc W hv hbp (hc.below (below_step HbW.out HbW.out.size h)) (hip.below (below_step HbW.out HbW.out.size h)))
  have HL0 := Lib.hid hL0; clear hL0
  have HL := Lib.hid hL; clear hL
  have Hb := Lib.hid hb; clear hb
  have Hb0 := Lib.hid hb0; clear hb0
  have Hs0 := Lib.hid s0; clear s0
  have Hs := Lib.hid hs; clear hs
  have Hip := Lib.hid hip; clear hip
  have Hgv := Lib.hid hgv; clear hgv
  have Hgp := Lib.hid hgp; clear hgp
  have Hsrt := Lib.hid hsrt; clear hsrt
  have Hv := Lib.hid hv; clear hv hc
  go_enter Try.func60, Try.ntmps60
  go_wp2_with fail
  generalize w.alloc (.cells #[.int .i64 x.r, .int .i64 x.a, .slice pa x.ps.length pc, .int .i64 x.d] 30) = W0 at *
  refine wp_region_held_drew (S := fun w' => Below W0.heap.size W0 w' ∧ w'.cell? ⟨w.heap.size, 0, none⟩ = some (.int .i64 x.r) ∧ w'.cell? ⟨w.heap.size, 1, none⟩ = some (.int .i64 x.a) ∧ w'.cell? ⟨w.heap.size, 2, none⟩ = some (.slice pa x.ps.length pc) ∧ w'.cell? ⟨w.heap.size, 3, none⟩ = some (.int .i64 x.d) ∧ w'.cell? ⟨G, 0, none⟩ = some (.slice ac c.length capc)) (by kernel_rfl) ⟨(Below.refl _ _).drew, k0, k1, k2, k3, g0⟩ (fun hH => ?_)
  refine takeH 0 (v := ?va0) rfl (by kernel_rfl) (by kernel_rfl) (by kernel_rfl) (fun _ _ _ h => h) hH rfl ?ya0 ?ra0
  case ya0 => intro W hSw; go_simp; try with_reducible rfl
  try simp only [Act.put, List.setIfInBounds_toArray, List.set_cons_zero, List.set_cons_succ]
  refine takeH 1 (v := ?va1) rfl (by kernel_rfl) (by kernel_rfl) (by kernel_rfl) (fun _ _ _ h => h) hH rfl ?ya1 ?ra1
  case ya1 => intro W hSw; go_simp; try with_reducible rfl
  try simp only [Act.put, List.setIfInBounds_toArray, List.set_cons_zero, List.set_cons_succ]
  refine takeH 2 (v := ?va2) rfl (by kernel_rfl) (by kernel_rfl) (by kernel_rfl) (fun _ _ _ h => h) hH rfl ?ya2 ?ra2
  case ya2 => intro W hSw; go_simp; try with_reducible rfl
  try simp only [Act.put, List.setIfInBounds_toArray, List.set_cons_zero, List.set_cons_succ]
  refine takeH 3 (v := ?va3) rfl (by kernel_rfl) (by kernel_rfl) (by kernel_rfl) (fun _ _ _ h => h) hH rfl ?ya3 ?ra3
  case ya3 => intro W hSw; go_simp; try with_reducible rfl
  try simp only [Act.put, List.setIfInBounds_toArray, List.set_cons_zero, List.set_cons_succ]
  refine takeH 4 (v := ?va4) rfl (by kernel_rfl) (by kernel_rfl) (by kernel_rfl) (fun _ _ _ h => h) hH rfl ?ya4 ?ra4
  case ya4 => intro W hSw; go_simp; try with_reducible rfl
  try simp only [Act.put, List.setIfInBounds_toArray, List.set_cons_zero, List.set_cons_succ]
  refine callH 5 rfl (by kernel_rfl) rfl (fun K hK => ?_)
  go_simp
  go_at_call 111
  refine (HF.out _ hH.1).mono ?_
  rintro e wx ⟨rfl, hbx⟩
  refine hK.out _ _ ⟨hH.1.trans (hbx.mono hH.1.size), (hbx.cell (p := ⟨w.heap.size, 0, none⟩) (by simp only; have := hH.1.size; omega)).trans hH.2.1, (hbx.cell (p := ⟨w.heap.size, 1, none⟩) (by simp only; have := hH.1.size; omega)).trans hH.2.2.1, (hbx.cell (p := ⟨w.heap.size, 2, none⟩) (by simp only; have := hH.1.size; omega)).trans hH.2.2.2.1, (hbx.cell (p := ⟨w.heap.size, 3, none⟩) (by simp only; have := hH.1.size; omega)).trans hH.2.2.2.2.1, (hbx.cell (p := ⟨G, 0, none⟩) (by simp only; have := hH.1.size; omega)).trans hH.2.2.2.2.2⟩ (fun hH => ?_)
  clear hK K
  try simp only [Act.put, List.setIfInBounds_toArray, List.set_cons_zero, List.set_cons_succ]
  refine takeH 6 (v := ?va6) rfl (by kernel_rfl) (by kernel_rfl) (by kernel_rfl) (fun _ _ _ h => h) hH rfl ?ya6 ?ra6
  case ya6 => intro W hSw; go_simp; try with_reducible rfl
  try simp only [Act.put, List.setIfInBounds_toArray, List.set_cons_zero, List.set_cons_succ]
  refine wpAnyH_done (by kernel_rfl) ?_ _
  try simp only [Act.put]
  obtain ⟨hbw, k0, k1, k2, k3, g0⟩ := hH
  have HL1 := Lib.hid (HL0.out.under hbw)
  have Hb1 := Lib.hid (Hb0.out.trans (hbw.mono (by omega)))
  clear g0
  have HB1 := Lib.hid (below_step Hb.out Hb.out.size Hb1.out)
  have Hs1 := Lib.hid (show Str _ w.heap.size 30 #[.int .i64 x.r, .int .i64 x.a, .slice pa x.ps.length pc, .int .i64 x.d] from (hbw.block _ Hs0.out.lt).trans Hs0.out)
  clear hbw HL0 Hb0 Hs0 HbW
  cases hx : vtxB c x with
  | false =>
    obtain ⟨hz1, hz2⟩ := ad_not (g := g) hx
    have Hz1 := Lib.hid hz1
    have Hz2 := Lib.hid hz2
    clear hz1 hz2
    go_wp2
    go_ret
    exact ⟨by rw [Hz1.out]; rfl, below_rowP Hb1.out _, _, _, by rw [Hz2.out]; exact HL1.out⟩
  | true =>
  have hpl := vtx_pl Hv.out hx
  have hpl' := hpl
  unfold inPl at hpl'
  obtain ⟨hr0, hr1, ha0, ha1⟩ := hpl'
  obtain ⟨o1, ho1, ho2⟩ := run_place G x.r x.a hr0 hr1 ha0 ha1
  have gp := HL1.out.cell (plN_bd hr1 ha1).2
  by_cases hfound : ∃ y ∈ g, y.r = x.r ∧ y.a = x.a
  · obtain ⟨y, hy, er, ea⟩ := hfound
    obtain ⟨q, hq, hn⟩ := HL1.out.has y hy
    rw [er, ea] at hq
    rw [hq] at gp
    unfold ptrV at gp
    obtain ⟨pa', pc', pv, qs, hsq, hiq, _, _⟩ := hn.ex
    obtain ⟨F1, F2⟩ := add_found Hsrt.out hx hy er ea
    have HS0 := Lib.hid (fun W (h1 : IntsAt W pa' y.ps) (h2 : IntsAt W pa x.ps) => impl_sameVertex y x pa' pa pc' pc W (Hgp.out y hy) hbp h1 h2)
    have F1 := Lib.hid F1
    have F2 := Lib.hid F2
    have Hsq := Lib.hid hsq
    have Hiq := Lib.hid hiq
    have Hpl := Lib.hid hpl
    clear hn hq hsq hiq hpl er ea hy
    go_wp2_with fail
    refine wp_region_held_drew (S := fun w' => Below wx.heap.size wx w' ∧ w'.cell? ⟨w.heap.size, 0, none⟩ = some (.int .i64 x.r) ∧ w'.cell? ⟨w.heap.size, 1, none⟩ = some (.int .i64 x.a) ∧ w'.cell? ⟨G, plN x.r x.a, none⟩ = some (.pointer (some ⟨q, 0, none⟩))) (by kernel_rfl) ⟨(Below.refl _ _).drew, k0, k1, gp⟩ (fun hH => ?_)
    refine takeH 0 (v := ?vb0) rfl (by kernel_rfl) (by kernel_rfl) (by kernel_rfl) (fun _ _ _ h => h) hH rfl ?yb0 ?rb0
    case yb0 => intro W hSw; go_simp; try with_reducible rfl
    try simp only [Act.put, List.setIfInBounds_toArray, List.set_cons_zero, List.set_cons_succ]
    refine takeH 1 (v := ?vb1) rfl (by kernel_rfl) (by kernel_rfl) (by kernel_rfl) (fun _ _ _ h => h) hH rfl ?yb1 ?rb1
    case yb1 => intro W hSw; go_simp; try with_reducible rfl
    try simp only [Act.put, List.setIfInBounds_toArray, List.set_cons_zero, List.set_cons_succ]
    refine takeH 2 (v := ?vb2) rfl (by kernel_rfl) (by kernel_rfl) (by kernel_rfl) (fun _ _ _ h => h) hH rfl ?yb2 ?rb2
    case yb2 => intro W hSw; go_simp; try with_reducible rfl
    try simp only [Act.put, List.setIfInBounds_toArray, List.set_cons_zero, List.set_cons_succ]
    refine takeH 3 (v := ?vb3) rfl (by kernel_rfl) (by kernel_rfl) (by kernel_rfl) (fun _ _ _ h => h) hH rfl ?yb3 ?rb3
    case yb3 => intro W hSw; go_simp; try with_reducible rfl
    try simp only [Act.put, List.setIfInBounds_toArray, List.set_cons_zero, List.set_cons_succ]
    refine takeH 4 (v := ?vb4) rfl (by kernel_rfl) (by kernel_rfl) (by kernel_rfl) (fun _ _ _ h => h) hH rfl ?yb4 ?rb4
    case yb4 => intro W hSw; go_simp; try with_reducible rfl
    try simp only [Act.put, List.setIfInBounds_toArray, List.set_cons_zero, List.set_cons_succ]
    refine takeH 5 (v := ?vb5) rfl (by kernel_rfl) (by kernel_rfl) (by kernel_rfl) (fun _ _ _ h => h) hH rfl ?yb5 ?rb5
    case yb5 => intro W hSw; go_simp; try with_reducible rfl
    try simp only [Act.put, List.setIfInBounds_toArray, List.set_cons_zero, List.set_cons_succ]
    refine takeH 6 (v := ?vb6) rfl (by kernel_rfl) (by kernel_rfl) (by kernel_rfl) (fun _ _ _ h => h) hH rfl ?yb6 ?rb6
    case yb6 => intro W hSw; go_simp; try with_reducible rfl
    try simp only [Act.put, List.setIfInBounds_toArray, List.set_cons_zero, List.set_cons_succ]
    refine takeH 7 (v := ?vb7) rfl (by kernel_rfl) (by kernel_rfl) (by kernel_rfl) (fun _ _ _ h => h) hH rfl ?yb7 ?rb7
    case yb7 => intro W hSw; go_simp; try with_reducible rfl
    try simp only [Act.put, List.setIfInBounds_toArray, List.set_cons_zero, List.set_cons_succ]
    refine takeH 8 (v := ?vb8) rfl (by kernel_rfl) (by kernel_rfl) (by kernel_rfl) (fun _ _ _ h => h) hH rfl ?yb8 ?rb8
    case yb8 => intro W hSw; go_simp; try with_reducible rfl
    try simp only [Act.put, List.setIfInBounds_toArray, List.set_cons_zero, List.set_cons_succ]
    refine takeH 9 (v := ?vb9) rfl (by kernel_rfl) (by kernel_rfl) (by kernel_rfl) (fun _ _ _ h => h) hH rfl ?yb9 ?rb9
    case yb9 => intro W hSw; go_simp; try with_reducible rfl
    try simp only [Act.put, List.setIfInBounds_toArray, List.set_cons_zero, List.set_cons_succ]
    refine takeH 10 (v := ?vb10) rfl (by kernel_rfl) (by kernel_rfl) (by kernel_rfl) (fun _ _ _ h => h) hH rfl ?yb10 ?rb10
    case yb10 => intro W hSw; go_simp; try with_reducible rfl
    try simp only [Act.put, List.setIfInBounds_toArray, List.set_cons_zero, List.set_cons_succ]
    refine wpAnyH_done (by kernel_rfl) ?_ _
    try simp only [Act.put]
    obtain ⟨hbw, k0, k1, gp⟩ := hH
    generalize hW3 : wx.drew = W3 at *
    clear hW3
    have HL3 := Lib.hid (HL1.out.under hbw)
    have HB3 := Lib.hid (below_step HB1.out HB1.out.size hbw)
    have Hb3 := Lib.hid (below_step Hb1.out Hb1.out.size hbw)
    have k2 := (hbw.cell (p := ⟨w.heap.size, 2, none⟩) Hs1.out.lt).trans k2
    have k3 := (hbw.cell (p := ⟨w.heap.size, 3, none⟩) Hs1.out.lt).trans k3
    have hq3 := (hbw.block _ Hsq.out.lt).trans Hsq.out
    have hlt3 := Str.lt (W := W3) hq3
    have hwlt : w.heap.size < W3.heap.size := Nat.lt_of_lt_of_le Hs1.out.lt hbw.size
    have j0 := Str.cell hq3 0 (v := .int .i64 y.r) rfl
    have j1 := Str.cell hq3 1 (v := .int .i64 y.a) rfl
    have j2 := Str.cell hq3 2 (v := .slice pa' y.ps.length pc') rfl
    have j3 := Str.cell hq3 3 (v := .int .i64 y.d) rfl
    have HS := Lib.hid (fun W (h : Below W3.heap.size W3 W) => HS0.out W (Hiq.out.below (below_step HB3.out HB3.out.size h)) (Hip.out.below (below_step HB3.out HB3.out.size h)))
    clear hq3 hbw gp HS0 HL1 HB1 Hb1 Hs1
    go_wp2_with fail
    refine wp_region_held_drew (S := fun w' => Below W3.heap.size W3 w' ∧ w'.cell? ⟨q, 0, none⟩ = some (.int .i64 y.r) ∧ w'.cell? ⟨q, 1, none⟩ = some (.int .i64 y.a) ∧ w'.cell? ⟨q, 2, none⟩ = some (.slice pa' y.ps.length pc') ∧ w'.cell? ⟨q, 3, none⟩ = some (.int .i64 y.d) ∧ w'.cell? ⟨w.heap.size, 0, none⟩ = some (.int .i64 x.r) ∧ w'.cell? ⟨w.heap.size, 1, none⟩ = some (.int .i64 x.a) ∧ w'.cell? ⟨w.heap.size, 2, none⟩ = some (.slice pa x.ps.length pc) ∧ w'.cell? ⟨w.heap.size, 3, none⟩ = some (.int .i64 x.d)) (by kernel_rfl) ⟨(Below.refl _ _).drew, j0, j1, j2, j3, k0, k1, k2, k3⟩ (fun hH => ?_)
    refine takeH 0 (v := ?vd0) rfl (by kernel_rfl) (by kernel_rfl) (by kernel_rfl) (fun _ _ _ h => h) hH rfl ?yd0 ?rd0
    case yd0 => intro W hSw; go_simp; try with_reducible rfl
    try simp only [Act.put, List.setIfInBounds_toArray, List.set_cons_zero, List.set_cons_succ]
    refine takeH 1 (v := ?vd1) rfl (by kernel_rfl) (by kernel_rfl) (by kernel_rfl) (fun _ _ _ h => h) hH rfl ?yd1 ?rd1
    case yd1 => intro W hSw; go_simp; try with_reducible rfl
    try simp only [Act.put, List.setIfInBounds_toArray, List.set_cons_zero, List.set_cons_succ]
    refine takeH 2 (v := ?vd2) rfl (by kernel_rfl) (by kernel_rfl) (by kernel_rfl) (fun _ _ _ h => h) hH rfl ?yd2 ?rd2
    case yd2 => intro W hSw; go_simp; try with_reducible rfl
    try simp only [Act.put, List.setIfInBounds_toArray, List.set_cons_zero, List.set_cons_succ]
    refine takeH 3 (v := ?vd3) rfl (by kernel_rfl) (by kernel_rfl) (by kernel_rfl) (fun _ _ _ h => h) hH rfl ?yd3 ?rd3
    case yd3 => intro W hSw; go_simp; try with_reducible rfl
    try simp only [Act.put, List.setIfInBounds_toArray, List.set_cons_zero, List.set_cons_succ]
    refine takeH 4 (v := ?vd4) rfl (by kernel_rfl) (by kernel_rfl) (by kernel_rfl) (fun _ _ _ h => h) hH rfl ?yd4 ?rd4
    case yd4 => intro W hSw; go_simp; try with_reducible rfl
    try simp only [Act.put, List.setIfInBounds_toArray, List.set_cons_zero, List.set_cons_succ]
    refine callH 5 rfl (by kernel_rfl) rfl (fun K hK => ?_)
    go_simp
    go_at_call 112
    refine (HS.out _ hH.1).mono ?_
    rintro e wy ⟨rfl, hbx⟩
    refine hK.out _ _ ⟨hH.1.trans (hbx.mono hH.1.size), (hbx.cell (p := ⟨q, 0, none⟩) (by simp only; have := hH.1.size; omega)).trans hH.2.1, (hbx.cell (p := ⟨q, 1, none⟩) (by simp only; have := hH.1.size; omega)).trans hH.2.2.1, (hbx.cell (p := ⟨q, 2, none⟩) (by simp only; have := hH.1.size; omega)).trans hH.2.2.2.1, (hbx.cell (p := ⟨q, 3, none⟩) (by simp only; have := hH.1.size; omega)).trans hH.2.2.2.2.1, (hbx.cell (p := ⟨w.heap.size, 0, none⟩) (by simp only; have := hH.1.size; omega)).trans hH.2.2.2.2.2.1, (hbx.cell (p := ⟨w.heap.size, 1, none⟩) (by simp only; have := hH.1.size; omega)).trans hH.2.2.2.2.2.2.1, (hbx.cell (p := ⟨w.heap.size, 2, none⟩) (by simp only; have := hH.1.size; omega)).trans hH.2.2.2.2.2.2.2.1, (hbx.cell (p := ⟨w.heap.size, 3, none⟩) (by simp only; have := hH.1.size; omega)).trans hH.2.2.2.2.2.2.2.2⟩ (fun hH => ?_)
    clear hK K
    try simp only [Act.put, List.setIfInBounds_toArray, List.set_cons_zero, List.set_cons_succ]
    refine wpAnyH_done (by kernel_rfl) ?_ _
    try simp only [Act.put]
    obtain ⟨hbw, _⟩ := hH
    have Hb5 := Lib.hid (below_step Hb3.out Hb3.out.size hbw)
    have HL5 := Lib.hid (HL3.out.under hbw)
    clear hbw
    cases hsb : sameB y x with
    | true =>
      obtain ⟨hz1, hz2⟩ := F1.out hsb
      have Hz1 := Lib.hid hz1
      have Hz2 := Lib.hid hz2
      clear hz1 hz2 F1 F2 HS
      go_wp2
      go_ret
      exact ⟨by rw [Hz1.out]; rfl, below_rowP Hb5.out _, _, _, by rw [Hz2.out]; exact HL5.out⟩
    | false =>
      obtain ⟨hz1, hz2⟩ := F2.out hsb
      have Hz1 := Lib.hid hz1
      have Hz2 := Lib.hid hz2
      clear hz1 hz2 F1 F2 HS
      go_wp2
      go_ret
      exact ⟨by rw [Hz1.out]; rfl, below_rowP Hb5.out _, _, _, by rw [Hz2.out]; exact HL5.out⟩
  · have hno : ∀ y ∈ g, ¬ (y.r = x.r ∧ y.a = x.a) := fun y hy e => hfound ⟨y, hy, e⟩
    clear hfound
    rw [HL1.out.non x.r x.a hr0 hr1 ha0 ha1 hno] at gp
    obtain ⟨F1, F2⟩ := add_fresh hx hno
    have F1 := Lib.hid F1
    have F2 := Lib.hid F2
    have Hpl := Lib.hid hpl; clear hpl
    have Hno := Lib.hid hno; clear hno
    go_wp2_with fail
    refine wp_region_held_drew (S := fun w' => Below wx.heap.size wx w' ∧ w'.cell? ⟨w.heap.size, 0, none⟩ = some (.int .i64 x.r) ∧ w'.cell? ⟨w.heap.size, 1, none⟩ = some (.int .i64 x.a) ∧ w'.cell? ⟨G, plN x.r x.a, none⟩ = some (.pointer none)) (by kernel_rfl) ⟨(Below.refl _ _).drew, k0, k1, gp⟩ (fun hH => ?_)
    refine takeH 0 (v := ?ve0) rfl (by kernel_rfl) (by kernel_rfl) (by kernel_rfl) (fun _ _ _ h => h) hH rfl ?ye0 ?re0
    case ye0 => intro W hSw; go_simp; try with_reducible rfl
    try simp only [Act.put, List.setIfInBounds_toArray, List.set_cons_zero, List.set_cons_succ]
    refine takeH 1 (v := ?ve1) rfl (by kernel_rfl) (by kernel_rfl) (by kernel_rfl) (fun _ _ _ h => h) hH rfl ?ye1 ?re1
    case ye1 => intro W hSw; go_simp; try with_reducible rfl
    try simp only [Act.put, List.setIfInBounds_toArray, List.set_cons_zero, List.set_cons_succ]
    refine takeH 2 (v := ?ve2) rfl (by kernel_rfl) (by kernel_rfl) (by kernel_rfl) (fun _ _ _ h => h) hH rfl ?ye2 ?re2
    case ye2 => intro W hSw; go_simp; try with_reducible rfl
    try simp only [Act.put, List.setIfInBounds_toArray, List.set_cons_zero, List.set_cons_succ]
    refine takeH 3 (v := ?ve3) rfl (by kernel_rfl) (by kernel_rfl) (by kernel_rfl) (fun _ _ _ h => h) hH rfl ?ye3 ?re3
    case ye3 => intro W hSw; go_simp; try with_reducible rfl
    try simp only [Act.put, List.setIfInBounds_toArray, List.set_cons_zero, List.set_cons_succ]
    refine takeH 4 (v := ?ve4) rfl (by kernel_rfl) (by kernel_rfl) (by kernel_rfl) (fun _ _ _ h => h) hH rfl ?ye4 ?re4
    case ye4 => intro W hSw; go_simp; try with_reducible rfl
    try simp only [Act.put, List.setIfInBounds_toArray, List.set_cons_zero, List.set_cons_succ]
    refine takeH 5 (v := ?ve5) rfl (by kernel_rfl) (by kernel_rfl) (by kernel_rfl) (fun _ _ _ h => h) hH rfl ?ye5 ?re5
    case ye5 => intro W hSw; go_simp; try with_reducible rfl
    try simp only [Act.put, List.setIfInBounds_toArray, List.set_cons_zero, List.set_cons_succ]
    refine takeH 6 (v := ?ve6) rfl (by kernel_rfl) (by kernel_rfl) (by kernel_rfl) (fun _ _ _ h => h) hH rfl ?ye6 ?re6
    case ye6 => intro W hSw; go_simp; try with_reducible rfl
    try simp only [Act.put, List.setIfInBounds_toArray, List.set_cons_zero, List.set_cons_succ]
    refine takeH 7 (v := ?ve7) rfl (by kernel_rfl) (by kernel_rfl) (by kernel_rfl) (fun _ _ _ h => h) hH rfl ?ye7 ?re7
    case ye7 => intro W hSw; go_simp; try with_reducible rfl
    try simp only [Act.put, List.setIfInBounds_toArray, List.set_cons_zero, List.set_cons_succ]
    refine takeH 8 (v := ?ve8) rfl (by kernel_rfl) (by kernel_rfl) (by kernel_rfl) (fun _ _ _ h => h) hH rfl ?ye8 ?re8
    case ye8 => intro W hSw; go_simp; try with_reducible rfl
    try simp only [Act.put, List.setIfInBounds_toArray, List.set_cons_zero, List.set_cons_succ]
    refine takeH 9 (v := ?ve9) rfl (by kernel_rfl) (by kernel_rfl) (by kernel_rfl) (fun _ _ _ h => h) hH rfl ?ye9 ?re9
    case ye9 => intro W hSw; go_simp; try with_reducible rfl
    try simp only [Act.put, List.setIfInBounds_toArray, List.set_cons_zero, List.set_cons_succ]
    refine takeH 10 (v := ?ve10) rfl (by kernel_rfl) (by kernel_rfl) (by kernel_rfl) (fun _ _ _ h => h) hH rfl ?ye10 ?re10
    case ye10 => intro W hSw; go_simp; try with_reducible rfl
    try simp only [Act.put, List.setIfInBounds_toArray, List.set_cons_zero, List.set_cons_succ]
    refine wpAnyH_done (by kernel_rfl) ?_ _
    try simp only [Act.put]
    obtain ⟨hbw, k0, k1, gp⟩ := hH
    generalize hW3 : wx.drew = W3 at *
    clear hW3
    have HL3 := Lib.hid (HL1.out.under hbw)
    have HB3 := Lib.hid (below_step HB1.out HB1.out.size hbw)
    have Hb3 := Lib.hid (below_step Hb1.out Hb1.out.size hbw)
    have k2 := (hbw.cell (p := ⟨w.heap.size, 2, none⟩) Hs1.out.lt).trans k2
    have k3 := (hbw.cell (p := ⟨w.heap.size, 3, none⟩) Hs1.out.lt).trans k3
    have sB : Str W3 w.heap.size 30 #[.int .i64 x.r, .int .i64 x.a, .slice pa x.ps.length pc, .int .i64 x.d] := (hbw.block _ Hs1.out.lt).trans Hs1.out
    have hwlt : w.heap.size < W3.heap.size := sB.lt
    have hhi : hi ≤ W3.heap.size := HL3.out.le
    have hbA : Below W3.heap.size W3 (W3.alloc (.cells #[.int .i64 x.r, .int .i64 x.a, .slice pa x.ps.length pc, .int .i64 x.d, .slice none 0 0] 131)) := (Below.refl _ _).alloc (Nat.le_refl _) _
    have sN := Str.new W3 131 #[.int .i64 x.r, .int .i64 x.a, .slice pa x.ps.length pc, .int .i64 x.d, .slice none 0 0]
    have k2A := (sB.alloc (.cells #[.int .i64 x.r, .int .i64 x.a, .slice pa x.ps.length pc, .int .i64 x.d, .slice none 0 0] 131)).cell 2 (v := .slice pa x.ps.length pc) rfl
    have HbA := Lib.hid hbA
    have HsN := Lib.hid sN
    have HsB := Lib.hid sB
    have HmB := Lib.hid (fun k hk => membersB_at (vtx_mem hx) k hk)
    have Hr0 := Lib.hid (fun h0 => vtx_r0 hx h0)
    have HL3' := Lib.hid (fun W (hW : Below W3.heap.size W3 W) => (HL3.out.under hW))
    clear hbA sN sB hbw gp HL1 HB1 Hb1 Hs1 HF
    go_wp2_with fail
    simp only [Bool.not_true]
    go_loopw [41] (fun i wr => ∃ (k : Nat) (qs : List Nat) (pv : Value), k ≤ x.ps.length ∧ i = .int .i64 k ∧ qs.length = k ∧ (∀ j (hj : j < qs.length) (hj' : j < x.ps.length), h (plN (x.r - 1) x.ps[j]) = ptrV qs[j]) ∧ Upto (hasP g x.r x.ps) k ∧ OwnP 122 wr w0.heap.size pv qs ∧ (∀ b, pv.ownBlock = some b → W3.heap.size < b) ∧ Str wr W3.heap.size 131 #[.int .i64 x.r, .int .i64 x.a, .slice pa x.ps.length pc, .int .i64 x.d, pv] ∧ Below W3.heap.size W3 wr) (fun i _ => x.ps.length - (intOf i).toNat)
    case atStart => exact ⟨0, [], _, by omega, rfl, rfl, (fun j hj => by simp at hj), upto_zero _, OwnP.nil _ _ _, (fun b e => by cases e), HsN.out, HbA.out⟩
    case round =>
      obtain ⟨k, qs, pv, hk, rfl, hql, hqs, hup, hown, hpb, sQ, hbel⟩ := hrel
      have HsQ := Lib.hid sQ
      have Hown := Lib.hid hown
      have Hqs := Lib.hid hqs
      have Hup := Lib.hid hup
      have Hbel := Lib.hid hbel
      have Hpb := Lib.hid hpb
      have Hql := Lib.hid hql
      have sB : Str wr w.heap.size 30 #[.int .i64 x.r, .int .i64 x.a, .slice pa x.ps.length pc, .int .i64 x.d] := (hbel.block _ HsB.out.lt).trans HsB.out
      have k0 := sB.cell 0 (v := .int .i64 x.r) rfl
      have k1 := sB.cell 1 (v := .int .i64 x.a) rfl
      have HLr := Lib.hid (HL3'.out wr hbel)
      have hwr : W3.heap.size ≤ wr.heap.size := Hbel.out.size
      clear sQ hown hqs hup hpb hbel sB
      by_cases hlt : k < x.ps.length
      · obtain ⟨b, off, rfl, hbb, hat⟩ := (Hip.out.below (below_step HB3.out HB3.out.size Hbel.out)).cell (by omega)
        have hcp := hat k hlt
        have hm := HmB.out k hlt
        have hn7 := (validB_len Hv.out).2
        have hrn : 1 ≤ x.r := by
          by_cases e : x.r = 0
          · have := Hr0.out e; omega
          · omega
        obtain ⟨o2, hq1, hq2⟩ := run_place G (x.r - 1) x.ps[k] (by omega) (by omega) hm.1 (by omega)
        have gp := HLr.out.cell (plN_bd (r := x.r - 1) (a := x.ps[k]) (by omega) (by omega)).2
        have hw1 : IntKind.i64.wrap (x.r - 1) = x.r - 1 := IntWalk.i64_in _ (by omega)
        have hpl := HLr.out.place Hsrt.out (r := x.r) (ps := x.ps) k hlt (by omega) (by omega) hm.1 (by omega)
        have hst := fun q (he : h (plN (x.r - 1) x.ps[k]) = ptrV q) => qs_step Hqs.out hql hlt he
        have Hst := Lib.hid hst
        clear hat hst hm hn7 Hqs ho1 ho2
        rcases hpl with ⟨q, he, hh⟩ | ⟨he, hh⟩
        · have HstQ := Lib.hid (Hst.out q he)
          clear Hst
          rw [he] at gp
          unfold ptrV at gp
          have Hh := Lib.hid (upto_step Hup.out hh)
          clear he hh Hup
          generalize x.ps[k] = p at *
          go_wp2_with fail
          refine wp_region_held_drew (S := fun w' => Below wr.heap.size wr w' ∧ w'.cell? ⟨w.heap.size, 0, none⟩ = some (.int .i64 x.r) ∧ w'.cell? ⟨G, plN (x.r - 1) p, none⟩ = some (.pointer (some ⟨q, 0, none⟩))) (by kernel_rfl) ⟨(Below.refl _ _).drew, k0, gp⟩ (fun hH => ?_)
          refine takeH 0 (v := ?vf0) rfl (by kernel_rfl) (by kernel_rfl) (by kernel_rfl) (fun _ _ _ h => h) hH rfl ?yf0 ?rf0
          case yf0 => intro W hSw; go_simp; try with_reducible rfl
          try simp only [Act.put, List.setIfInBounds_toArray, List.set_cons_zero, List.set_cons_succ]
          refine takeH 1 (v := ?vf1) rfl (by kernel_rfl) (by kernel_rfl) (by kernel_rfl) (fun _ _ _ h => h) hH rfl ?yf1 ?rf1
          case yf1 => intro W hSw; go_simp; try with_reducible rfl
          try simp only [Act.put, List.setIfInBounds_toArray, List.set_cons_zero, List.set_cons_succ]
          refine takeH 2 (v := ?vf2) rfl (by kernel_rfl) (by kernel_rfl) (by kernel_rfl) (fun _ _ _ h => h) hH rfl ?yf2 ?rf2
          case yf2 => intro W hSw; go_simp; try with_reducible rfl
          try simp only [Act.put, List.setIfInBounds_toArray, List.set_cons_zero, List.set_cons_succ]
          refine takeH 3 (v := ?vf3) rfl (by kernel_rfl) (by kernel_rfl) (by kernel_rfl) (fun _ _ _ h => h) hH rfl ?yf3 ?rf3
          case yf3 => intro W hSw; go_simp; try with_reducible rfl
          try simp only [Act.put, List.setIfInBounds_toArray, List.set_cons_zero, List.set_cons_succ]
          refine takeH 4 (v := ?vf4) rfl (by kernel_rfl) (by kernel_rfl) (by kernel_rfl) (fun _ _ _ h => h) hH rfl ?yf4 ?rf4
          case yf4 => intro W hSw; go_simp; try with_reducible rfl
          try simp only [Act.put, List.setIfInBounds_toArray, List.set_cons_zero, List.set_cons_succ]
          refine takeH 5 (v := ?vf5) rfl (by kernel_rfl) (by kernel_rfl) (by kernel_rfl) (fun _ _ _ h => h) hH rfl ?yf5 ?rf5
          case yf5 => intro W hSw; go_simp; try with_reducible rfl
          try simp only [Act.put, List.setIfInBounds_toArray, List.set_cons_zero, List.set_cons_succ]
          refine takeH 6 (v := ?vf6) rfl (by kernel_rfl) (by kernel_rfl) (by kernel_rfl) (fun _ _ _ h => h) hH rfl ?yf6 ?rf6
          case yf6 => intro W hSw; go_simp; try with_reducible rfl
          try simp only [Act.put, List.setIfInBounds_toArray, List.set_cons_zero, List.set_cons_succ]
          refine takeH 7 (v := ?vf7) rfl (by kernel_rfl) (by kernel_rfl) (by kernel_rfl) (fun _ _ _ h => h) hH rfl ?yf7 ?rf7
          case yf7 => intro W hSw; go_simp; try with_reducible rfl
          try simp only [Act.put, List.setIfInBounds_toArray, List.set_cons_zero, List.set_cons_succ]
          refine takeH 8 (v := ?vf8) rfl (by kernel_rfl) (by kernel_rfl) (by kernel_rfl) (fun _ _ _ h => h) hH rfl ?yf8 ?rf8
          case yf8 => intro W hSw; go_simp; try with_reducible rfl
          try simp only [Act.put, List.setIfInBounds_toArray, List.set_cons_zero, List.set_cons_succ]
          refine takeH 9 (v := ?vf9) rfl (by kernel_rfl) (by kernel_rfl) (by kernel_rfl) (fun _ _ _ h => h) hH rfl ?yf9 ?rf9
          case yf9 => intro W hSw; go_simp; try with_reducible rfl
          try simp only [Act.put, List.setIfInBounds_toArray, List.set_cons_zero, List.set_cons_succ]
          refine takeH 10 (v := ?vf10) rfl (by kernel_rfl) (by kernel_rfl) (by kernel_rfl) (fun _ _ _ h => h) hH rfl ?yf10 ?rf10
          case yf10 => intro W hSw; go_simp; try with_reducible rfl
          try simp only [Act.put, List.setIfInBounds_toArray, List.set_cons_zero, List.set_cons_succ]
          refine wpAnyH_done (by kernel_rfl) ?_ _
          try simp only [Act.put]
          obtain ⟨hbw, _, _⟩ := hH
          have hz5 : wr.heap.size ≤ wr.drew.heap.size := Nat.le_refl _
          have s5 : Str wr.drew W3.heap.size 131 #[.int .i64 x.r, .int .i64 x.a, .slice (some ⟨b, off, none⟩) x.ps.length pc, .int .i64 x.d, pv] := HsQ.out
          have own5 : OwnP 122 wr.drew w0.heap.size pv qs := Hown.out
          have Hb5 := Lib.hid Hbel.out.drew
          generalize wr.drew = W5 at *
          have j4 := s5.cell 4 (v := pv) rfl
          have hQ5 := s5.lt
          have Hs5 := Lib.hid s5
          have Hown5 := Lib.hid own5
          have hB5 : w0.heap.size ≤ W5.heap.size := by have := HB3.out.size; omega
          have hW5 : W3.heap.size ≤ W5.heap.size := by omega
          have hql' : qs.length ≤ 1099511627776 := by omega
          clear s5 own5 hbw gp k0 k1
          go_wp2_with (at_builtin; refine wpList_pushP Try.underlying129 (by kernel_rfl) rfl (.tmp 61) (.tmp 63) rfl w0.heap.size pv qs q rfl Hown5.out hql' rfl hB5 ?_; intro v8 w8 hown8 hg8 hloc8; (obtain ⟨a8, n8, c8, rfl⟩ : ∃ a n c, v8 = Value.slice a n c := (by obtain ⟨a, c, e, _⟩ := hown8.slice; exact ⟨a, _, c, e⟩)); (have t8 := Hs5.out.kept hg8 (fun e => by have := Hpb.out _ e.symm; omega)); (have j4 := t8.cell 4 (v := pv) rfl); (have f4 := t8.frozen 4); (have Ht8 := Lib.hid t8); (have Hown8 := Lib.hid hown8); (have Hloc8 := Lib.hid hloc8); (have Hb8 := Lib.hid (Hb5.out.grown hg8 hW5 (fun g e => by have := Hpb.out g e; omega))); (clear t8 hown8 hloc8 hg8))
          go_roundw
          case rel =>
            have hv8 : ∀ b, (Value.slice a8 n8 c8).ownBlock = some b → W3.heap.size < b := fun b e => by
              rcases Hloc8.out b e with h | h
              · exact Hpb.out b h
              · omega
            refine ⟨k + 1, qs ++ [q], .slice a8 n8 c8, by omega, by go_num, by rw [List.length_append, hql]; rfl, HstQ.out, Hh.out, Hown8.out.kept (grownBy_set _ _ _ _) (.inr fun e => ?_), hv8, Ht8.out.set 4 _, Hb8.out.setCell (p := ⟨W3.heap.size, 4, none⟩) (Nat.le_refl _) _⟩
            have := hv8 _ e; omega
          case measure => simp [intOf]; omega
        · rw [he] at gp
          have Hz := Lib.hid (F1.out (allB_no hlt hh))
          clear he hh Hst
          generalize x.ps[k] = p at *
          go_wp2_with fail
          refine wp_region_held_drew (S := fun w' => Below wr.heap.size wr w' ∧ w'.cell? ⟨w.heap.size, 0, none⟩ = some (.int .i64 x.r) ∧ w'.cell? ⟨G, plN (x.r - 1) p, none⟩ = some (.pointer none)) (by kernel_rfl) ⟨(Below.refl _ _).drew, k0, gp⟩ (fun hH => ?_)
          refine takeH 0 (v := ?vg0) rfl (by kernel_rfl) (by kernel_rfl) (by kernel_rfl) (fun _ _ _ h => h) hH rfl ?yg0 ?rg0
          case yg0 => intro W hSw; go_simp; try with_reducible rfl
          try simp only [Act.put, List.setIfInBounds_toArray, List.set_cons_zero, List.set_cons_succ]
          refine takeH 1 (v := ?vg1) rfl (by kernel_rfl) (by kernel_rfl) (by kernel_rfl) (fun _ _ _ h => h) hH rfl ?yg1 ?rg1
          case yg1 => intro W hSw; go_simp; try with_reducible rfl
          try simp only [Act.put, List.setIfInBounds_toArray, List.set_cons_zero, List.set_cons_succ]
          refine takeH 2 (v := ?vg2) rfl (by kernel_rfl) (by kernel_rfl) (by kernel_rfl) (fun _ _ _ h => h) hH rfl ?yg2 ?rg2
          case yg2 => intro W hSw; go_simp; try with_reducible rfl
          try simp only [Act.put, List.setIfInBounds_toArray, List.set_cons_zero, List.set_cons_succ]
          refine takeH 3 (v := ?vg3) rfl (by kernel_rfl) (by kernel_rfl) (by kernel_rfl) (fun _ _ _ h => h) hH rfl ?yg3 ?rg3
          case yg3 => intro W hSw; go_simp; try with_reducible rfl
          try simp only [Act.put, List.setIfInBounds_toArray, List.set_cons_zero, List.set_cons_succ]
          refine takeH 4 (v := ?vg4) rfl (by kernel_rfl) (by kernel_rfl) (by kernel_rfl) (fun _ _ _ h => h) hH rfl ?yg4 ?rg4
          case yg4 => intro W hSw; go_simp; try with_reducible rfl
          try simp only [Act.put, List.setIfInBounds_toArray, List.set_cons_zero, List.set_cons_succ]
          refine takeH 5 (v := ?vg5) rfl (by kernel_rfl) (by kernel_rfl) (by kernel_rfl) (fun _ _ _ h => h) hH rfl ?yg5 ?rg5
          case yg5 => intro W hSw; go_simp; try with_reducible rfl
          try simp only [Act.put, List.setIfInBounds_toArray, List.set_cons_zero, List.set_cons_succ]
          refine takeH 6 (v := ?vg6) rfl (by kernel_rfl) (by kernel_rfl) (by kernel_rfl) (fun _ _ _ h => h) hH rfl ?yg6 ?rg6
          case yg6 => intro W hSw; go_simp; try with_reducible rfl
          try simp only [Act.put, List.setIfInBounds_toArray, List.set_cons_zero, List.set_cons_succ]
          refine takeH 7 (v := ?vg7) rfl (by kernel_rfl) (by kernel_rfl) (by kernel_rfl) (fun _ _ _ h => h) hH rfl ?yg7 ?rg7
          case yg7 => intro W hSw; go_simp; try with_reducible rfl
          try simp only [Act.put, List.setIfInBounds_toArray, List.set_cons_zero, List.set_cons_succ]
          refine takeH 8 (v := ?vg8) rfl (by kernel_rfl) (by kernel_rfl) (by kernel_rfl) (fun _ _ _ h => h) hH rfl ?yg8 ?rg8
          case yg8 => intro W hSw; go_simp; try with_reducible rfl
          try simp only [Act.put, List.setIfInBounds_toArray, List.set_cons_zero, List.set_cons_succ]
          refine takeH 9 (v := ?vg9) rfl (by kernel_rfl) (by kernel_rfl) (by kernel_rfl) (fun _ _ _ h => h) hH rfl ?yg9 ?rg9
          case yg9 => intro W hSw; go_simp; try with_reducible rfl
          try simp only [Act.put, List.setIfInBounds_toArray, List.set_cons_zero, List.set_cons_succ]
          refine takeH 10 (v := ?vg10) rfl (by kernel_rfl) (by kernel_rfl) (by kernel_rfl) (fun _ _ _ h => h) hH rfl ?yg10 ?rg10
          case yg10 => intro W hSw; go_simp; try with_reducible rfl
          try simp only [Act.put, List.setIfInBounds_toArray, List.set_cons_zero, List.set_cons_succ]
          refine wpAnyH_done (by kernel_rfl) ?_ _
          try simp only [Act.put]
          obtain ⟨hbw, _, _⟩ := hH
          have HL5 := Lib.hid (HLr.out.under hbw)
          have Hb5 := Lib.hid (Hb3.out.trans ((Hbel.out.trans (hbw.mono hwr)).mono (by have := Hb3.out.size; omega)))
          generalize wr.drew = W5 at *
          clear hbw gp k0 k1
          go_wp2
          go_ret
          exact ⟨by rw [Hz.out.1]; rfl, below_rowP Hb5.out _, _, _, by rw [Hz.out.2]; exact HL5.out⟩
      · have Hz := Lib.hid (F2.out (allB_yes Hup.out (by omega)))
        have hq := HLr.out.cell (plN_bd hr1 ha1).2
        have gf : wr.drew.frozen? ⟨G, plN x.r x.a, none⟩ = false := HLr.out.str.frozen _
        have gq : wr.drew.cell? ⟨G, plN x.r x.a, none⟩ = some (h (plN x.r x.a)) := hq
        have hqn : h (plN x.r x.a) = .pointer none := HL3.out.non x.r x.a hr0 hr1 ha0 ha1 Hno.out
        rw [hqn] at gq
        have Hb5 := Lib.hid Hbel.out.drew
        have s5 : Str wr.drew W3.heap.size 131 #[.int .i64 x.r, .int .i64 x.a, .slice pa x.ps.length pc, .int .i64 x.d, pv] := HsQ.out
        have own5 : OwnP 122 wr.drew w0.heap.size pv qs := Hown.out
        have hob : ∀ b, pv.ownBlock = some b → b ≠ G ∧ b < wr.heap.size := fun b e => ⟨by have := Hpb.out b e; have := HL3.out.lt; omega, (own5.lt b e).2⟩
        have HP := Lib.hid (HL3.out.put (below_grown Hb5.out) Hpl.out Hno.out hhi (hi2 := wr.heap.size) s5.lt (by omega) (Nat.le_refl _) s5 Hip.out Hs.out own5 hob (by omega) Hqs.out (g' := insG g x) (fun y => ins_mem))
        have HG := Lib.hid (grownBy_trans (below_rowP (Hb3.out.trans (Hb5.out.mono (by have := Hb3.out.size; omega))) (some G)) (grownBy_set wr.drew G (plN x.r x.a) (ptrV W3.heap.size)))
        clear hq hqn s5 own5 hob Hb5
        go_wp2_with fail
        refine wp_region_L 10 (fun w' => w'.cell? ⟨w.heap.size, 0, none⟩ = some (.int .i64 x.r) ∧ w'.cell? ⟨w.heap.size, 1, none⟩ = some (.int .i64 x.a)) (by kernel_rfl) ⟨k0, k1⟩ (fun hH => ?_)
        refine takeL 0 (v := ?vh0) rfl (by kernel_rfl) (by kernel_rfl) (by kernel_rfl) (by kernel_rfl) (by kernel_rfl) (fun _ _ _ h => h) hH rfl ?yh0 ?rh0
        case yh0 => intro w hSw; go_simp; try with_reducible rfl
        try simp only [Act.put, List.setIfInBounds_toArray, List.set_cons_zero, List.set_cons_succ]
        refine takeL 1 (v := ?vh1) rfl (by kernel_rfl) (by kernel_rfl) (by kernel_rfl) (by kernel_rfl) (by kernel_rfl) (fun _ _ _ h => h) hH rfl ?yh1 ?rh1
        case yh1 => intro w hSw; go_simp; try with_reducible rfl
        try simp only [Act.put, List.setIfInBounds_toArray, List.set_cons_zero, List.set_cons_succ]
        refine takeL 2 (v := ?vh2) rfl (by kernel_rfl) (by kernel_rfl) (by kernel_rfl) (by kernel_rfl) (by kernel_rfl) (fun _ _ _ h => h) hH rfl ?yh2 ?rh2
        case yh2 => intro w hSw; go_simp; try with_reducible rfl
        try simp only [Act.put, List.setIfInBounds_toArray, List.set_cons_zero, List.set_cons_succ]
        refine takeL 3 (v := ?vh3) rfl (by kernel_rfl) (by kernel_rfl) (by kernel_rfl) (by kernel_rfl) (by kernel_rfl) (fun _ _ _ h => h) hH rfl ?yh3 ?rh3
        case yh3 => intro w hSw; go_simp; try with_reducible rfl
        try simp only [Act.put, List.setIfInBounds_toArray, List.set_cons_zero, List.set_cons_succ]
        refine takeL 4 (v := ?vh4) rfl (by kernel_rfl) (by kernel_rfl) (by kernel_rfl) (by kernel_rfl) (by kernel_rfl) (fun _ _ _ h => h) hH rfl ?yh4 ?rh4
        case yh4 => intro w hSw; go_simp; try with_reducible rfl
        try simp only [Act.put, List.setIfInBounds_toArray, List.set_cons_zero, List.set_cons_succ]
        refine takeL 5 (v := ?vh5) rfl (by kernel_rfl) (by kernel_rfl) (by kernel_rfl) (by kernel_rfl) (by kernel_rfl) (fun _ _ _ h => h) hH rfl ?yh5 ?rh5
        case yh5 => intro w hSw; go_simp; try with_reducible rfl
        try simp only [Act.put, List.setIfInBounds_toArray, List.set_cons_zero, List.set_cons_succ]
        refine callL 6 rfl (by kernel_rfl) rfl (fun K hK => ?_)
        go_simp
        refine hK.out _ _ hH (fun hH => ?_)
        clear hK K
        try simp only [Act.put, List.setIfInBounds_toArray, List.set_cons_zero, List.set_cons_succ]
        refine callL 7 rfl (by kernel_rfl) rfl (fun K hK => ?_)
        go_simp
        refine hK.out _ _ hH (fun hH => ?_)
        clear hK K
        try simp only [Act.put, List.setIfInBounds_toArray, List.set_cons_zero, List.set_cons_succ]
        refine callL 8 rfl (by kernel_rfl) rfl (fun K hK => ?_)
        go_simp
        refine hK.out _ _ hH (fun hH => ?_)
        clear hK K
        try simp only [Act.put, List.setIfInBounds_toArray, List.set_cons_zero, List.set_cons_succ]
        refine callL 9 rfl (by kernel_rfl) rfl (fun K hK => ?_)
        go_simp
        refine hK.out _ _ hH (fun hH => ?_)
        clear hK K
        try simp only [Act.put, List.setIfInBounds_toArray, List.set_cons_zero, List.set_cons_succ]
        refine lastL rfl (by kernel_rfl) (by kernel_rfl) (by kernel_rfl) rfl (fun K hK => ?_)
        go_simp
        refine hK.out _ _ ?_
        clear hK K
        try simp only [Act.put, List.setIfInBounds_toArray, List.set_cons_zero, List.set_cons_succ]
        go_wp2
        go_ret
        exact ⟨by rw [Hz.out.1]; rfl, HG.out, _, _, by rw [Hz.out.2]; exact HP.out⟩

end Go.Proofs.Yteglefchkecfjab

/- impl's list of a graph of pointers, by a walk of its text; conditions: lists are shorter than 2^40 (a graph: 2^20), the graph's vertices lie in order and in range. -/
namespace Go.Proofs.Yteglefchkecfjab
open Go.RowKit

theorem arrP_extract (n : Nat) (f : Nat → Value) (o k : Nat) (h : o + k ≤ n) : (arrP n f).extract o (o + k) = arrP k fun a => f (o + a) := by
  apply Array.ext
  · simp [arrP]; omega
  · intro j h1 h2
    simp [arrP]
theorem arrP_one {n : Nat} {f : Nat → Value} (h : ∀ i, i < n → (f i).oneCell' = true) : (arrP n f).all (·.oneCell') = true := by
  rw [Array.all_eq_true_iff_forall_mem]
  intro v hv
  simp only [arrP, List.mem_toArray, List.mem_map, List.mem_range] at hv
  obtain ⟨i, hi, rfl⟩ := hv
  exact h i hi
theorem run_index_row {P : Program} {T E : TypeId} {n k s : Nat} {d : TypeDesc} {cs : Array Value} (hu : P.underlying T = some (.array n E)) (hE : P.underlying E = some d) (hd : (match d with | .struct _ | .array _ _ => true | _ => false) = true)
    (hs : (P.info? E).map (·.size) = some s) (hk : k < n) (w : World) : (Instr.index T (.agg cs) (.int .i64 k)).run P w = .ok (.agg (cs.extract (k * s) (k * s + s))) w := by
  have h1 := run_underlying hu w
  have h2 : (isAgg E).run P w = .ok true w := by
    unfold isAgg; rw [Sem.run_bind, run_underlying hE w]; cases d <;> simp_all
  cases hq : P.info? E with
  | none => simp [hq] at hs
  | some i =>
    have hz : i.size = s := by simpa [hq] using hs
    simp [Instr.index, asIntOf, Sem.run_bind, h1, part, h2, sizeOf, typeInfo, hq, hz, hk]
theorem run_index_one {P : Program} {T E : TypeId} {n k : Nat} {d : TypeDesc} {cs : Array Value} {v : Value} (hu : P.underlying T = some (.array n E)) (hE : P.underlying E = some d) (hd : (match d with | .struct _ | .array _ _ => true | _ => false) = false)
    (hs : (P.info? E).map (·.size) = some 1) (hk : k < n) (hc : cs[k]? = some v) (w : World) : (Instr.index T (.agg cs) (.int .i64 k)).run P w = .ok v w := by
  have h1 := run_underlying hu w
  have h2 : (isAgg E).run P w = .ok false w := by
    unfold isAgg; rw [Sem.run_bind, run_underlying hE w]; cases d <;> simp_all
  cases hq : P.info? E with
  | none => simp [hq] at hs
  | some i =>
    have hz : i.size = 1 := by simpa [hq] using hs
    simp [Instr.index, asIntOf, Sem.run_bind, h1, part, h2, sizeOf, typeInfo, hq, hz, hk, hc]
theorem setRow_strP {W : World} {B : Nat} {t : TypeId} {vs : Array Value} (h : Str W B t vs) (cs : Array Value) : Str (W.setRow B cs) B t cs := setRow_heap W B vs cs t (0, 0) h
theorem grownBy_setRowP (W : World) (B : Nat) (cs : Array Value) : W.grownBy (W.setRow B cs) (some B) := ⟨rfl, rfl, rfl, by simp [World.setRow], fun k _ hk => setRow_other W B k cs (fun e => hk (by rw [e]))⟩

theorem Lk.cases {w0 w : World} {hi G : Nat} {mv : Value} {h : Nat → Value} {g : List Vx} (l : Lk w0 w hi G mv h g) (r a : Nat) (hr : r < 31) (ha : a < 7) :
    (∃ y ∈ g, y.r = r ∧ y.a = a ∧ ∃ q, h (1 + (r * 7 + a)) = ptrV q ∧ Nd w0 w hi G h q y) ∨ (h (1 + (r * 7 + a)) = .pointer none ∧ ∀ y ∈ g, ¬ (y.r = (r : Int) ∧ y.a = (a : Int))) := by
  have hp : plN (r : Int) (a : Int) = 1 + (r * 7 + a) := by unfold plN; simp
  by_cases he : ∃ y ∈ g, y.r = r ∧ y.a = a
  · obtain ⟨y, hy, er, ea⟩ := he
    obtain ⟨q, hq, hn⟩ := l.has y hy
    rw [er, ea, hp] at hq
    exact .inl ⟨y, hy, er, ea, q, hq, hn⟩
  · have hn : ∀ y ∈ g, ¬ (y.r = (r : Int) ∧ y.a = (a : Int)) := fun y hy e => he ⟨y, hy, e⟩
    have := l.non r a (by omega) (by omega) (by omega) (by omega) hn
    rw [hp] at this
    exact .inr ⟨this, hn⟩
theorem Lk.one {w0 w : World} {hi G : Nat} {mv : Value} {h : Nat → Value} {g : List Vx} (l : Lk w0 w hi G mv h g) (i : Nat) (hi : i < 217) : (h (1 + i)).oneCell' = true := by
  have e : i = i / 7 * 7 + i % 7 := by omega
  rcases l.cases (i / 7) (i % 7) (by omega) (by omega) with ⟨_, _, _, _, q, hq, _⟩ | ⟨hq, _⟩
  · rw [← e] at hq; rw [hq]; rfl
  · rw [← e] at hq; rw [hq]; rfl

set_option maxRecDepth 8000 in
set_option maxHeartbeats 4000000 in
theorem graph_list (w0 w : World) (hi G : Nat) (mv : Value) (h : Nat → Value) (g : List Vx) (hb : Below w0.heap.size w0 w) (hL : Lk w0 w hi G mv h g) (hsrt : Srt g) (hin : ∀ y ∈ g, inPl y) (hgp : ∀ y ∈ g, y.ps.length ≤ 1099511627776) (hbig : g.length ≤ 1048577) :
    Calls Try.prog 61 #[.pointer (some ⟨G, 0, none⟩)] w fun e w' => ∃ u, e = .returned u ∧ OwnR 30 3 4 w' w.heap.size w'.heap.size u (g.map Vx.fd) ∧ Below w.heap.size w w' := by
  have hb0 : Below w.heap.size w (w.alloc (.cells #[] 30)) := (Below.refl _ _).alloc (Nat.le_refl _) _
  have hv0 : OwnR 30 3 4 (w.alloc (.cells #[] 30)) w.heap.size (w.alloc (.cells #[] 30)).heap.size (.slice (some ⟨w.heap.size, 0, none⟩) 0 0) [] := .nil (World.ownsRow_made w #[] 0 (Nat.le_refl _) (by simp) (by simp)) (fun g e => by cases e; simp)
  have hrange : (w.alloc (.cells #[] 30)).rangeAt G 1 (arrP 217 fun i => h (1 + i)).toList := by
    have h1 := World.rangeAt_of_block (hL.under hb0).str 1 217
    rwa [arrP_extract 218 h 1 217 (by omega)] at h1
  have HL := Lib.hid (fun W (hW : Below w.heap.size w W) => hL.under hW)
  have H1 := Lib.hid hL.one
  have Hv0 := Lib.hid hv0; clear hv0
  have Hz := Lib.hid (outZ_zero hin)
  have Hrow := Lib.hid (outZ_row hin)
  have Hend := Lib.hid (outZ_end hin)
  have Hyes := Lib.hid (fun (r a : Nat) (x : Vx) => outZ_yes (r := r) (a := a) (x := x) hsrt)
  have Hno := Lib.hid (fun (r a : Nat) => outZ_no (r := r) (a := a) hsrt)
  have Hgp := Lib.hid hgp
  have HB := Lib.hid hb
  have Hrange := Lib.hid hrange
  have hlen := outZ_len g
  have Hlen := Lib.hid hlen
  clear hb hL hsrt hin hgp hrange hlen
  go_enter Try.func61, Try.ntmps61
  go_wp2_with (refine wpList_load_mid rfl 124 _ rfl G 1 rfl (arrP 217 fun i => h (1 + i)).toList _ Hrange.out Try.underlying124 rfl (by rw [Array.length_toList, arrP_size]; kernel_rfl) ?_)
  generalize hcs : arrP 217 (fun i => h (1 + i)) = cs
  have Hcs := Lib.hid hcs; clear hcs
  clear Hrange
  go_loopw [3, 13] (fun u i wr => ∃ r : Nat, r ≤ 31 ∧ i = .int .i64 r ∧ OwnR 30 3 4 wr w.heap.size wr.heap.size u ((outZ g r 0).map Vx.fd) ∧ Below w.heap.size w wr) (fun _ i _ => 31 - (intOf i).toNat)
  case atStart => exact ⟨0, Nat.zero_le _, rfl, by rw [Hz.out]; exact Hv0.out, hb0⟩
  case round =>
    obtain ⟨r, hk, rfl, hbld, hbel⟩ := hrel
    obtain ⟨Wo, hWo⟩ : ∃ Wo, Wo = wr := ⟨_, rfl⟩
    subst hWo
    clear hb0
    by_cases hlt : r < 31
    · have hlt' : (r : Int) < 31 := by omega
      have hx1 := fun W => run_index_row (P := Try.prog) (cs := cs) Try.underlying124 Try.underlying123 rfl (s := 7) (by kernel_rfl) hlt W
      rw [← Hcs.out, arrP_extract 217 _ (r * 7) 7 (by omega), Hcs.out] at hx1
      generalize hrw : arrP 7 (fun a => h (1 + (r * 7 + a))) = row at *
      have h7 : row.size = 7 := by rw [← hrw]; exact arrP_size _ _
      have h71 : row.all (·.oneCell') = true := by rw [← hrw]; exact arrP_one fun i hi => H1.out _ (by omega)
      have hget : ∀ a, a < 7 → row[a]? = some (h (1 + (r * 7 + a))) := fun a ha => by rw [← hrw]; exact arrP_get ha
      have Hget := Lib.hid hget; clear hget hrw
      have hbA : Below Wo.heap.size Wo (Wo.alloc (.cells #[.pointer none, .pointer none, .pointer none, .pointer none, .pointer none, .pointer none, .pointer none] 123)) := (Below.refl _ _).alloc (Nat.le_refl _) _
      have sN := Str.new Wo 123 #[.pointer none, .pointer none, .pointer none, .pointer none, .pointer none, .pointer none, .pointer none]
      have hzA : (Wo.alloc (.cells #[.pointer none, .pointer none, .pointer none, .pointer none, .pointer none, .pointer none, .pointer none] 123)).heap.size = Wo.heap.size + 1 := by simp
      have hgA := grownBy_trans (World.grownBy_alloc Wo (.cells #[.pointer none, .pointer none, .pointer none, .pointer none, .pointer none, .pointer none, .pointer none] 123) (some Wo.heap.size)) (grownBy_setRowP (Wo.alloc (.cells #[.pointer none, .pointer none, .pointer none, .pointer none, .pointer none, .pointer none, .pointer none] 123)) Wo.heap.size row)
      have hsR := setRow_strP sN row
      have Hsz := Lib.hid h7
      have Hone := Lib.hid h71
      have HsN := Lib.hid sN
      have HsR := Lib.hid hsR
      have hbR := hbel.grown hgA hbel.size (fun g e => by cases e; exact hbel.size)
      have hbldR := hbld.same (w' := (Wo.alloc (.cells #[.pointer none, .pointer none, .pointer none, .pointer none, .pointer none, .pointer none, .pointer none] 123)).setRow Wo.heap.size row) (fun b _ hb2 => hgA.block b hb2 (by intro e; cases e; omega))
      have hbldR' := hbldR.mono (hi' := ((Wo.alloc (.cells #[.pointer none, .pointer none, .pointer none, .pointer none, .pointer none, .pointer none, .pointer none] 123)).setRow Wo.heap.size row).heap.size) hgA.size
      have HbR := Lib.hid hbR
      have HbldR := Lib.hid hbldR'
      clear hbld hbldR hbldR' hbR hsR hgA sN h7 h71 hbA hzA
      go_wp2_with (first
        | refine wpList_store_row rfl 123 _ _ rfl Wo.heap.size row rfl rfl 123 #[.pointer none, .pointer none, .pointer none, .pointer none, .pointer none, .pointer none, .pointer none] HsN.out (by rw [Hsz.out]; kernel_rfl) (by rw [Hsz.out]; rfl) Hone.out ?_
        | refine wpList_load_row rfl 123 _ rfl Wo.heap.size rfl 123 row (0, 0) _ HsR.out Try.underlying123 rfl (by rw [Hsz.out]; kernel_rfl) ?_)
      generalize (Wo.alloc (.cells #[.pointer none, .pointer none, .pointer none, .pointer none, .pointer none, .pointer none, .pointer none] 123)).setRow Wo.heap.size row = W1 at *
      clear HsN HsR hbel hlt'
      go_loopw [3, 17] (fun u i wr => ∃ a : Nat, a ≤ 7 ∧ i = .int .i64 a ∧ OwnR 30 3 4 wr w.heap.size wr.heap.size u ((outZ g r a).map Vx.fd) ∧ Below w.heap.size w wr) (fun _ i _ => 7 - (intOf i).toNat)
      case atStart => exact ⟨0, Nat.zero_le _, rfl, HbldR.out, HbR.out⟩
      case round =>
        obtain ⟨a, ha, rfl, hbld, hbel⟩ := hrel
        have Hbld := Lib.hid hbld; clear hbld
        have Hbel := Lib.hid hbel; clear hbel
        by_cases hla : a < 7
        · have hla' : (a : Int) < 7 := by omega
          have hcs := HL.out wr Hbel.out
          have hx2 := fun W => run_index_one (P := Try.prog) (cs := row) Try.underlying123 Try.underlying122 rfl (by kernel_rfl) hla (Hget.out a hla) W
          rcases hcs.cases r a hlt hla with ⟨y, hy, er, ea, q, hq, hn⟩ | ⟨hq, hn⟩
          · rw [hq] at hx2
            unfold ptrV at hx2
            have hstep := Hyes.out r a y hy er ea
            have hpy := Hgp.out y hy
            obtain ⟨pa, pc, pv, qs, sq, iq, srq, _⟩ := hn.ex
            have hb0w := below_step HB.out HB.out.size Hbel.out
            have Hcall := Lib.hid (impl_copyOfVertex y.r y.a y.d pa pc y.ps wr hpy (srq.under iq hb0w) (iq.below hb0w))
            have q0 := sq.cell 0 (v := .int .i64 y.r) rfl
            have q1 := sq.cell 1 (v := .int .i64 y.a) rfl
            have q2 := sq.cell 2 (v := .slice pa y.ps.length pc) rfl
            have q3 := sq.cell 3 (v := .int .i64 y.d) rfl
            have Hex := Lib.hid (show (outZ g r (a + 1)).map Vx.fd = (outZ g r a).map Vx.fd ++ [[.i y.r, .i y.a, .l y.ps, .i y.d]] by rw [hstep, List.map_append]; rfl)
            have hel : ((outZ g r a).map Vx.fd).length ≤ 1048576 := by have := Hlen.out r (a + 1); rw [hstep, List.length_append] at this; simp at this ⊢; omega
            clear hcs hn sq iq srq hpy hstep hb0w er ea hq hy
            generalize (outZ g r a).map Vx.fd = es at *
            obtain ⟨xr, xa, xp, xd⟩ := y
            dsimp only at *
            go_wp2_with fail
            refine Hcall.out.mono ?_
            rintro e w6 ⟨v2, rfl, hown2, hb6⟩
            obtain ⟨a2, c2, rfl, _, _⟩ := hown2.ints
            have hbw6 := below_step Hbel.out Hbel.out.size hb6
            have hB6 := hbw6.size
            have hs6 := hb6.size
            have Hbld6 := Lib.hid (Hbld.out.below hb6 (Nat.le_refl _))
            obtain ⟨hfd, hap, hnew⟩ := vertex_new (B := w.heap.size) xr xa xd hown2 Hbel.out.size
            have Hfd := Lib.hid hfd; clear hfd
            have Hap := Lib.hid hap; clear hap
            have Hnew := Lib.hid hnew; clear hnew hown2 q0 q1 q2 q3
            go_wp2_with (at_builtin; refine wpList_push_own (Ei := 3) Try.underlying24 vertex_inf rfl (by decide) (by decide) rfl (.tmp 22) (.tmp 28) rfl w.heap.size _ es _ _ _ rfl rfl (by intro u hu; simp at hu; rcases hu with rfl | rfl | rfl | rfl <;> rfl) rfl rfl Hfd.out Hap.out wr.heap.size Hbld6.out hs6 Hnew.out hel rfl hB6 ?_; intro v8 w8 hbld8 hg8 hat8)
            go_roundw
            case rel => exact ⟨a + 1, by omega, by go_num, by rw [Hex.out]; exact hbld8, hbw6.grown hg8 hB6 (fun g e => (Hbld.out.lt g e).1)⟩
            case measure => simp [intOf]; omega
          · rw [hq] at hx2
            have Hs := Lib.hid (Hno.out r a hn)
            clear hcs hn hq
            go_wp2
            go_roundw
            case rel => exact ⟨a + 1, by omega, by go_num, by rw [Hs.out]; exact Hbld.out, Hbel.out⟩
            case measure => simp [intOf]; omega
        · have e7 : a = 7 := by omega
          subst e7
          have Hs := Lib.hid (Hrow.out r)
          go_wp2
          go_roundw
          case rel => exact ⟨r + 1, by omega, by go_num, by rw [← Hs.out]; exact Hbld.out, Hbel.out⟩
          case measure => simp [intOf]; omega
    · have e31 : r = 31 := by omega
      subst e31
      have Hbld := Lib.hid hbld; clear hbld
      go_wp2
      go_ret
      exact ⟨_, rfl, by rw [Hend.out] at Hbld; exact Hbld.out, hbel⟩

end Go.Proofs.Yteglefchkecfjab

/- impl's linking of a list of vertices, by a walk of its text; conditions: lists are shorter than 2^40 (a graph: 2^20). -/
namespace Go.Proofs.Yteglefchkecfjab
open Go.RowKit

/-- The vertex at place k may be added to those ahead of it. -/
def stepB (c : List Int) (g : List Vx) (k : Nat) : Bool := (k == 0 || befB (g.getD (k - 1) vx0) (g.getD k vx0)) && (vtxB c (g.getD k vx0) && parB (g.take k) (g.getD k vx0))
theorem hasP_iff {g : List Vx} {r : Int} {ps : List Int} {k : Nat} : hasP g r ps k = true ↔ ∃ y ∈ g, y.r = r - 1 ∧ y.a = ps.getD k 0 := by
  unfold hasP
  rw [decide_eq_true_iff]
  rcases findZ_cases g (r - 1) (ps.getD k 0) with ⟨e, hn⟩ | ⟨j, hj, e, hs, _⟩
  · rw [e]
    refine ⟨fun h => by omega, fun ⟨y, hy, er, ea⟩ => ?_⟩
    have := hn y hy
    unfold sameRA at this
    simp [er, ea] at this
  · rw [e]
    refine ⟨fun _ => ⟨g[j], List.getElem_mem hj, of_decide_eq_true hs⟩, fun _ => by omega⟩
theorem parB_iff {g : List Vx} {x : Vx} : parB g x = true ↔ ∀ p ∈ x.ps, ∃ y ∈ g, y.r = x.r - 1 ∧ y.a = p := by
  constructor
  · intro h p hp
    obtain ⟨k, hk, rfl⟩ := List.mem_iff_getElem.1 hp
    have := hasP_iff.1 (allB_upto h k hk)
    rwa [getD_get hk] at this
  · intro h
    refine allB_yes (k := x.ps.length) (fun k hk => hasP_iff.2 ?_) (Nat.le_refl _)
    rw [getD_get hk]
    exact h _ (List.getElem_mem hk)
theorem step_srt {c : List Int} {g : List Vx} : ∀ k, k ≤ g.length → Upto (stepB c g) k → Srt (g.take k) ∧ ∀ y ∈ g.take k, vtxB c y = true
  | 0, _, _ => ⟨by simp [Srt], by simp⟩
  | k + 1, hk, h => by
    obtain ⟨h1, h2⟩ := step_srt k (by omega) (fun j hj => h j (by omega))
    have hs := h k (by omega)
    unfold stepB at hs
    rw [getV (show k < g.length by omega)] at hs
    simp only [Bool.and_eq_true, Bool.or_eq_true, beq_iff_eq] at hs
    rw [List.take_succ_eq_append_getElem (show k < g.length by omega)]
    refine ⟨?_, ?_⟩
    · unfold Srt at *
      rw [List.pairwise_append]
      refine ⟨h1, by simp, fun a ha b hb => ?_⟩
      simp at hb; subst hb
      rcases hs.1 with e | e
      · subst e; simp at ha
      · rcases Nat.eq_zero_or_pos k with e0 | e0
        · subst e0; simp at ha
        · rw [getV (show k - 1 < g.length by omega)] at e
          obtain ⟨j, hj, rfl⟩ := List.mem_iff_getElem.1 ha
          rw [List.length_take] at hj
          rw [List.getElem_take]
          by_cases ej : j = k - 1
          · subst ej; exact e
          · have := (List.pairwise_iff_getElem.1 h1) j (k - 1) (by rw [List.length_take]; omega) (by rw [List.length_take]; omega) (by omega)
            rw [List.getElem_take, List.getElem_take] at this
            exact bef_trans this e
    · intro y hy
      rcases List.mem_append.1 hy with hy | hy
      · exact h2 y hy
      · simp at hy; subst hy; exact hs.2.1
theorem graph_step {c : List Int} {g : List Vx} : graphB c g = (validB c && allB (stepB c g) g.length) := by
  rw [Bool.eq_iff_iff]
  constructor
  · intro h
    have hs := graph_sorted h
    unfold graphB at h
    rw [Bool.and_eq_true] at h
    rw [Bool.and_eq_true]
    refine ⟨h.1, allB_yes (k := g.length) (fun k hk => ?_) (Nat.le_refl _)⟩
    have ho := allB_upto h.2 k hk
    unfold okV at ho
    unfold stepB
    simp only [Bool.and_eq_true] at ho ⊢
    refine ⟨ho.2.1, ho.1, parB_iff.2 fun p hp => ?_⟩
    obtain ⟨y, hy, er, ea⟩ := parB_iff.1 ho.2.2 p hp
    obtain ⟨j, hj, rfl⟩ := List.mem_iff_getElem.1 hy
    refine ⟨g[j], ?_, er, ea⟩
    rw [getV hk] at er
    have hjk : j < k := by
      rcases Nat.lt_trichotomy j k with h1 | h1 | h1
      · exact h1
      · subst h1; omega
      · have := befB_iff.1 ((List.pairwise_iff_getElem.1 hs) k j hk hj h1); omega
    exact List.mem_iff_getElem.2 ⟨j, by rw [List.length_take]; omega, by rw [List.getElem_take]⟩
  · intro h
    rw [Bool.and_eq_true] at h
    unfold graphB
    rw [Bool.and_eq_true]
    refine ⟨h.1, allB_yes (k := g.length) (fun k hk => ?_) (Nat.le_refl _)⟩
    have hs := allB_upto h.2 k hk
    unfold stepB at hs
    unfold okV
    simp only [Bool.and_eq_true] at hs ⊢
    refine ⟨hs.2.1, hs.1, parB_iff.2 fun p hp => ?_⟩
    obtain ⟨y, hy, er, ea⟩ := parB_iff.1 hs.2.2 p hp
    exact ⟨y, List.mem_of_mem_take hy, er, ea⟩
/-- What adding the next vertex answers, where it comes behind the one ahead of it. -/
theorem step_add {c : List Int} {g : List Vx} {k : Nat} (hk : k < g.length) (hu : Upto (stepB c g) k) (hb : k = 0 ∨ befB (g.getD (k - 1) vx0) g[k] = true) :
    (stepB c g k = true → adN c (g.take k) g[k] = 0 ∧ adG c (g.take k) g[k] = g.take (k + 1)) ∧ (stepB c g k = false → adN c (g.take k) g[k] ≠ 0) := by
  obtain ⟨h1, h2⟩ := step_srt k (by omega) hu
  have hall : ∀ y ∈ g.take k, befB y g[k] = true := by
    intro y hy
    rcases hb with e | e
    · subst e; simp at hy
    · rcases Nat.eq_zero_or_pos k with e0 | e0
      · subst e0; simp at hy
      · rw [getV (show k - 1 < g.length by omega)] at e
        obtain ⟨j, hj, rfl⟩ := List.mem_iff_getElem.1 hy
        rw [List.length_take] at hj
        rw [List.getElem_take]
        by_cases ej : j = k - 1
        · subst ej; exact e
        · have := (List.pairwise_iff_getElem.1 h1) j (k - 1) (by rw [List.length_take]; omega) (by rw [List.length_take]; omega) (by omega)
          rw [List.getElem_take, List.getElem_take] at this
          exact bef_trans this e
  have hno : ∀ y ∈ g.take k, ¬ (y.r = g[k].r ∧ y.a = g[k].a) := fun y hy e => by
    have := befB_iff.1 (hall y hy); omega
  have hs : stepB c g k = (vtxB c g[k] && parB (g.take k) g[k]) := by
    unfold stepB
    rw [getV hk]
    rcases hb with e | e
    · subst e; rfl
    · rw [e]; simp
  rw [hs]
  cases hv : vtxB c g[k] with
  | false => exact ⟨fun h => by simp at h, fun _ => by rw [(ad_not hv).1]; decide⟩
  | true =>
    obtain ⟨f1, f2⟩ := add_fresh hv hno
    refine ⟨fun h => ?_, fun h => ?_⟩
    · obtain ⟨e1, e2⟩ := f2 (by simpa using h)
      exact ⟨e1, by rw [e2, ins_last hall, List.take_succ_eq_append_getElem hk]⟩
    · rw [(f1 (by simpa using h)).1]; decide

def OfPost (w : World) (mv : Value) (c : List Int) (g : List Vx) : Ending → World → Prop := fun e w' => Below w.heap.size w w' ∧
  ((graphB c g = false ∧ e = .returned (.tuple #[.pointer none, .bool false])) ∨ (graphB c g = true ∧ ∃ G hi h, e = .returned (.tuple #[.pointer (some ⟨G, 0, none⟩), .bool true]) ∧ w.heap.size ≤ G ∧ Lk w w' hi G mv h g))
theorem of_no {w w' : World} {mv : Value} {c : List Int} {g : List Vx} {e : Ending} (h : graphB c g = false) (he : e = .returned (.tuple #[.pointer none, .bool false])) (hb : Below w.heap.size w w') : OfPost w mv c g e w' := ⟨hb, .inl ⟨h, he⟩⟩
theorem of_yes {w w' : World} {mv : Value} {c : List Int} {g : List Vx} {e : Ending} {G hi : Nat} {h : Nat → Value} (hg : graphB c g = true) (he : e = .returned (.tuple #[.pointer (some ⟨G, 0, none⟩), .bool true])) (hb : Below w.heap.size w w') (hG : w.heap.size ≤ G) (hl : Lk w w' hi G mv h g) : OfPost w mv c g e w' :=
  ⟨hb, .inr ⟨hg, G, hi, h, he, hG, hl⟩⟩
set_option maxRecDepth 8000 in
set_option maxHeartbeats 4000000 in
theorem impl_graphOf (ac : Option Addr) (capc : Nat) (c : List Int) (g : List Vx) (v : Value) (fp : List Nat) (w : World) (hn : c.length ≤ 1099511627776) (hbig : g.length ≤ 1048576) (hps : ∀ x ∈ g, x.ps.length ≤ 1099511627776) (hc : IntsAt w ac c) (hg : Gr w g v fp) :
    Calls Try.prog 53 #[.slice ac c.length capc, v] w (OfPost w (.slice ac c.length capc) c g) := by
  obtain ⟨va, vc, rfl⟩ := hg.slice
  have Hcv := Lib.hid (impl_CommitteeValid ac capc c w hn hc)
  cases hv : validB c with
  | false =>
    have hz : graphB c g = false := by unfold graphB; rw [hv]; rfl
    rw [hv] at Hcv
    have Hz := Lib.hid hz; clear hz hc hg hps
    go_enter Try.func53, Try.ntmps53
    go_wp2_with fail
    refine Hcv.out.mono ?_
    rintro e w1 ⟨rfl, rfl⟩
    go_wp2
    go_ret2
    exact of_no Hz.out rfl (Below.refl _ _)
  | true =>
  rw [hv] at Hcv
  have Hres := Lib.hid (show graphB c g = allB (stepB c g) g.length by rw [graph_step, hv]; rfl)
  have hA : Try.zeroCells126.setIfInBounds 0 (.slice ac c.length capc) = arrP 218 fun i => if i = 0 then .slice ac c.length capc else .pointer none := by kernel_rfl
  have hb0 : Below w.heap.size w (w.alloc (.cells (Try.zeroCells126.setIfInBounds 0 (.slice ac c.length capc)) 126)) := (Below.refl _ _).alloc (Nat.le_refl _) _
  have hL0 : Lk w (w.alloc (.cells (Try.zeroCells126.setIfInBounds 0 (.slice ac c.length capc)) 126)) (w.heap.size + 1) w.heap.size (.slice ac c.length capc) (fun i => if i = 0 then .slice ac c.length capc else .pointer none) [] :=
    Lk.new (by rw [hA]; exact Str.new w 126 _) (Nat.le_refl _) (by omega) (by simp)
  clear hA
  have HL0 := Lib.hid hL0; clear hL0
  have HP := Lib.hid hps; clear hps
  have Hc := Lib.hid hc; clear hc
  have Hg := Lib.hid hg; clear hg
  have Hb0 := Lib.hid hb0; clear hb0
  go_enter Try.func53, Try.ntmps53
  go_wp2_with fail
  refine Hcv.out.mono ?_
  rintro e w1 ⟨rfl, rfl⟩
  go_wp2_with fail
  go_loopw [17] (fun i wr => ∃ (k hi : Nat) (h : Nat → Value), k ≤ g.length ∧ i = .int .i64 k ∧ Upto (stepB c g) k ∧ Lk w wr hi w.heap.size (.slice ac c.length capc) h (g.take k) ∧ Below w.heap.size w wr) (fun i _ => g.length - (intOf i).toNat)
  case atStart => exact ⟨0, _, _, by omega, rfl, upto_zero _, HL0.out, Hb0.out⟩
  case round =>
    obtain ⟨k, hi, h, hk, rfl, hup, hL, hbel⟩ := hrel
    have HL := Lib.hid hL; clear hL
    have Hbel := Lib.hid hbel; clear hbel
    have Hup := Lib.hid hup; clear hup
    by_cases hlt : k < g.length
    · obtain ⟨b, off, rfl, hb, hat⟩ := Hg.out.at (by omega)
      obtain ⟨c0, c1, ⟨pa, pc, c2, i2, s2⟩, c3⟩ := hat k hlt
      have hpx := HP.out _ (List.getElem_mem hlt)
      have c0 := (Hbel.out.cell (p := ⟨b, off + k * 4, none⟩) hb).trans c0
      have c1 := (Hbel.out.cell (p := ⟨b, off + k * 4 + 1, none⟩) hb).trans c1
      have c2 := (Hbel.out.cell (p := ⟨b, off + k * 4 + 2, none⟩) hb).trans c2
      have c3 := (Hbel.out.cell (p := ⟨b, off + k * 4 + 3, none⟩) hb).trans c3
      have Hat := Lib.hid hat; clear hat
      have HSA := Lib.hid (step_add hlt Hup.out)
      have hbA : Below wr.heap.size wr (wr.alloc (.cells #[.int .i64 g[k].r, .int .i64 g[k].a, .slice pa g[k].ps.length pc, .int .i64 g[k].d] 30)) := (Below.refl _ _).alloc (Nat.le_refl _) _
      have s0 := Str.new wr 30 #[.int .i64 g[k].r, .int .i64 g[k].a, .slice pa g[k].ps.length pc, .int .i64 g[k].d]
      have k0 := s0.cell 0 (v := .int .i64 g[k].r) rfl
      have k1 := s0.cell 1 (v := .int .i64 g[k].a) rfl
      have k2 := s0.cell 2 (v := .slice pa g[k].ps.length pc) rfl
      have k3 := s0.cell 3 (v := .int .i64 g[k].d) rfl
      have hbwA := below_step Hbel.out Hbel.out.size hbA
      have hsr := step_srt k (by omega) Hup.out
      have hgpt : ∀ y ∈ g.take k, y.ps.length ≤ 1099511627776 := fun y hy => HP.out y (List.mem_of_mem_take hy)
      have HAdd := Lib.hid (fun W (hW : Below (wr.alloc (.cells #[.int .i64 g[k].r, .int .i64 g[k].a, .slice pa g[k].ps.length pc, .int .i64 g[k].d] 30)).heap.size (wr.alloc (.cells #[.int .i64 g[k].r, .int .i64 g[k].a, .slice pa g[k].ps.length pc, .int .i64 g[k].d] 30)) W) =>
        graph_add w W hi w.heap.size ac capc c h (g.take k) g[k] pa pc hv hpx hgpt s2 i2 Hc.out (below_step hbwA hbwA.size hW) ((HL.out.under hbA).under hW) hsr.1 hsr.2)
      have hltB : b < (wr.alloc (.cells #[.int .i64 g[k].r, .int .i64 g[k].a, .slice pa g[k].ps.length pc, .int .i64 g[k].d] 30)).heap.size := Nat.lt_of_lt_of_le hb hbwA.size
      have hlwB : w.heap.size < wr.heap.size := Nat.lt_of_lt_of_le HL.out.lt HL.out.le
      have hwrB : wr.heap.size < (wr.alloc (.cells #[.int .i64 g[k].r, .int .i64 g[k].a, .slice pa g[k].ps.length pc, .int .i64 g[k].d] 30)).heap.size := by simp
      have Hg1 := Lib.hid (show ∀ j, j < g.length → (wr.alloc (.cells #[.int .i64 g[k].r, .int .i64 g[k].a, .slice pa g[k].ps.length pc, .int .i64 g[k].d] 30)).cell? ⟨b, off + j * 4, none⟩ = some (.int .i64 (g.getD j vx0).r) ∧ (wr.alloc (.cells #[.int .i64 g[k].r, .int .i64 g[k].a, .slice pa g[k].ps.length pc, .int .i64 g[k].d] 30)).cell? ⟨b, off + j * 4 + 1, none⟩ = some (.int .i64 (g.getD j vx0).a) ∧ ∃ pa' pc', (wr.alloc (.cells #[.int .i64 g[k].r, .int .i64 g[k].a, .slice pa g[k].ps.length pc, .int .i64 g[k].d] 30)).cell? ⟨b, off + j * 4 + 2, none⟩ = some (.slice pa' (g.getD j vx0).ps.length pc') ∧ (wr.alloc (.cells #[.int .i64 g[k].r, .int .i64 g[k].a, .slice pa g[k].ps.length pc, .int .i64 g[k].d] 30)).cell? ⟨b, off + j * 4 + 3, none⟩ = some (.int .i64 (g.getD j vx0).d) from fun j hj => by
        obtain ⟨d0, d1, ⟨pa', pc', d2, _⟩, d3⟩ := Hat.out j hj
        rw [getV hj]
        exact ⟨(hbwA.cell (p := ⟨b, off + j * 4, none⟩) hb).trans d0, (hbwA.cell (p := ⟨b, off + j * 4 + 1, none⟩) hb).trans d1, pa', pc', (hbwA.cell (p := ⟨b, off + j * 4 + 2, none⟩) hb).trans d2, (hbwA.cell (p := ⟨b, off + j * 4 + 3, none⟩) hb).trans d3⟩)
      have HbwA := Lib.hid hbwA
      have hgk := getV hlt
      have Hgk := Lib.hid hgk
      clear hbA s0 hbwA hsr hgpt i2 s2 hpx Hat hgk HL
      generalize hx : g[k] = x at *
      have Hx := Lib.hid hx; clear hx
      obtain ⟨xr, xa, xp, xd⟩ := x
      dsimp only at *
      go_wp2_with fail
      generalize wr.alloc (.cells #[.int .i64 xr, .int .i64 xa, .slice pa xp.length pc, .int .i64 xd] 30) = wB at *
      clear c0 c1 c2 c3
      have hw1 : IntKind.i64.wrap ((k : Int) - 1) = k - 1 := IntWalk.i64_in _ (by omega)
      by_cases h0 : k = 0
      · have hgt : decide ((0 : Int) < (k : Int)) = false := decide_eq_false (by omega)
        have hgt' : ¬ (0 : Int) < (k : Int) := by omega
        have HS2 := Lib.hid (HSA.out (.inl h0))
        have H0 := Lib.hid h0; clear h0 hw1 HSA
        cases hst : stepB c g k with
        | false =>
          have Hne := Lib.hid (HS2.out.2 hst)
          have Hz := Lib.hid (allB_no hlt hst)
          refine wp_region_held_drew (S := fun w' => wB.grownBy w' (some w.heap.size) ∧ w'.cell? ⟨wr.heap.size, 0, none⟩ = some (.int .i64 xr) ∧ w'.cell? ⟨wr.heap.size, 1, none⟩ = some (.int .i64 xa) ∧ w'.cell? ⟨wr.heap.size, 2, none⟩ = some (.slice pa xp.length pc) ∧ w'.cell? ⟨wr.heap.size, 3, none⟩ = some (.int .i64 xd)) (by kernel_rfl) ⟨below_rowP (Below.refl _ _).drew _, k0, k1, k2, k3⟩ (fun hH => ?_)
          refine takeH 0 (v := ?va0) rfl (by kernel_rfl) (by kernel_rfl) (by kernel_rfl) (fun _ _ _ h => h) hH rfl ?ya0 ?ra0
          case ya0 => intro W hSw; go_simp; try with_reducible rfl
          try simp only [Act.put, List.setIfInBounds_toArray, List.set_cons_zero, List.set_cons_succ]
          refine takeH 1 (v := .bool false) rfl (by kernel_rfl) (by kernel_rfl) (by kernel_rfl) (fun _ _ _ h => h) hH rfl ?ya1 ?ra1
          case ya1 => intro W hSw; go_simp; first | done | simp only [hgt] | omega | (simp; omega)
          try simp only [Act.put, List.setIfInBounds_toArray, List.set_cons_zero, List.set_cons_succ]
          refine takeH 2 (v := ?va2) rfl (by kernel_rfl) (by kernel_rfl) (by kernel_rfl) (fun _ _ _ h => h) hH rfl ?ya2 ?ra2
          case ya2 => intro W hSw; go_simp; try with_reducible rfl
          try simp only [Act.put, List.setIfInBounds_toArray, List.set_cons_zero, List.set_cons_succ]
          refine skipH 3 rfl (by kernel_rfl) (by kernel_rfl) (by kernel_rfl) (fun _ _ _ h => h) hH rfl ?_
          try simp only [Act.put, List.setIfInBounds_toArray, List.set_cons_zero, List.set_cons_succ]
          refine skipH 4 rfl (by kernel_rfl) (by kernel_rfl) (by kernel_rfl) (fun _ _ _ h => h) hH rfl ?_
          try simp only [Act.put, List.setIfInBounds_toArray, List.set_cons_zero, List.set_cons_succ]
          refine skipH 5 rfl (by kernel_rfl) (by kernel_rfl) (by kernel_rfl) (fun _ _ _ h => h) hH rfl ?_
          try simp only [Act.put, List.setIfInBounds_toArray, List.set_cons_zero, List.set_cons_succ]
          refine skipH 6 rfl (by kernel_rfl) (by kernel_rfl) (by kernel_rfl) (fun _ _ _ h => h) hH rfl ?_
          try simp only [Act.put, List.setIfInBounds_toArray, List.set_cons_zero, List.set_cons_succ]
          refine skipH 7 rfl (by kernel_rfl) (by kernel_rfl) (by kernel_rfl) (fun _ _ _ h => h) hH rfl ?_
          try simp only [Act.put, List.setIfInBounds_toArray, List.set_cons_zero, List.set_cons_succ]
          refine skipH 8 rfl (by kernel_rfl) (by kernel_rfl) (by kernel_rfl) (fun _ _ _ h => h) hH rfl ?_
          try simp only [Act.put, List.setIfInBounds_toArray, List.set_cons_zero, List.set_cons_succ]
          refine skipH 9 rfl (by kernel_rfl) (by kernel_rfl) (by kernel_rfl) (fun _ _ _ h => h) hH rfl ?_
          try simp only [Act.put, List.setIfInBounds_toArray, List.set_cons_zero, List.set_cons_succ]
          refine skipH 10 rfl (by kernel_rfl) (by kernel_rfl) (by kernel_rfl) (fun _ _ _ h => h) hH rfl ?_
          try simp only [Act.put, List.setIfInBounds_toArray, List.set_cons_zero, List.set_cons_succ]
          refine takeH 11 (v := ?va11) rfl (by kernel_rfl) (by kernel_rfl) (by kernel_rfl) (fun _ _ _ h => h) hH rfl ?ya11 ?ra11
          case ya11 => intro W hSw; go_simp; try with_reducible rfl
          try simp only [Act.put, List.setIfInBounds_toArray, List.set_cons_zero, List.set_cons_succ]
          refine takeH 12 (v := ?va12) rfl (by kernel_rfl) (by kernel_rfl) (by kernel_rfl) (fun _ _ _ h => h) hH rfl ?ya12 ?ra12
          case ya12 => intro W hSw; go_simp; try with_reducible rfl
          try simp only [Act.put, List.setIfInBounds_toArray, List.set_cons_zero, List.set_cons_succ]
          refine takeH 13 (v := ?va13) rfl (by kernel_rfl) (by kernel_rfl) (by kernel_rfl) (fun _ _ _ h => h) hH rfl ?ya13 ?ra13
          case ya13 => intro W hSw; go_simp; try with_reducible rfl
          try simp only [Act.put, List.setIfInBounds_toArray, List.set_cons_zero, List.set_cons_succ]
          refine takeH 14 (v := ?va14) rfl (by kernel_rfl) (by kernel_rfl) (by kernel_rfl) (fun _ _ _ h => h) hH rfl ?ya14 ?ra14
          case ya14 => intro W hSw; go_simp; try with_reducible rfl
          try simp only [Act.put, List.setIfInBounds_toArray, List.set_cons_zero, List.set_cons_succ]
          refine callH 15 rfl (by kernel_rfl) rfl (fun K hK => ?_)
          go_simp
          go_at_call 60
          refine (HAdd.out _ ((Below.refl _ _).drew)).mono ?_
          rintro e wz ⟨rfl, hgz, _⟩
          generalize hm : adN c (g.take k) ⟨xr, xa, xp, xd⟩ = m at *
          have hm' : (m != 0) = true := by simpa using Hne.out
          clear hm
          refine hK.out _ _ ⟨grownBy_trans hH.1 (hgz), (hgz).cell hH.2.1 (by simp only [ne_eq, Option.some.injEq]; omega), (hgz).cell hH.2.2.1 (by simp only [ne_eq, Option.some.injEq]; omega), (hgz).cell hH.2.2.2.1 (by simp only [ne_eq, Option.some.injEq]; omega), (hgz).cell hH.2.2.2.2 (by simp only [ne_eq, Option.some.injEq]; omega)⟩ (fun hH => ?_)
          clear hK K
          try simp only [Act.put, List.setIfInBounds_toArray, List.set_cons_zero, List.set_cons_succ]
          refine takeH 16 (v := ?va16) rfl (by kernel_rfl) (by kernel_rfl) (by kernel_rfl) (fun _ _ _ h => h) hH rfl ?ya16 ?ra16
          case ya16 => intro W hSw; go_simp; try with_reducible rfl
          try simp only [Act.put, List.setIfInBounds_toArray, List.set_cons_zero, List.set_cons_succ]
          refine takeH 17 (v := ?va17) rfl (by kernel_rfl) (by kernel_rfl) (by kernel_rfl) (fun _ _ _ h => h) hH rfl ?ya17 ?ra17
          case ya17 => intro W hSw; go_simp; try with_reducible rfl
          try simp only [Act.put, List.setIfInBounds_toArray, List.set_cons_zero, List.set_cons_succ]
          refine wpAnyH_done (by kernel_rfl) ?_ _
          try simp only [Act.put]
          have Hend := Lib.hid (HbwA.out.grown hH.1 HbwA.out.size (fun g e => by cases e; exact Nat.le_refl _))
          go_wp2
          go_ret2
          exact of_no (by rw [Hres.out, Hz.out]) rfl Hend.out
        | true =>
          obtain ⟨hz1, hz2⟩ := HS2.out.1 hst
          have Hz1 := Lib.hid hz1
          have Hz2 := Lib.hid hz2
          have Hup1 := Lib.hid (upto_step Hup.out hst)
          clear hz1 hz2
          refine wp_region_held_drew (S := fun w' => wB.grownBy w' (some w.heap.size) ∧ w'.cell? ⟨wr.heap.size, 0, none⟩ = some (.int .i64 xr) ∧ w'.cell? ⟨wr.heap.size, 1, none⟩ = some (.int .i64 xa) ∧ w'.cell? ⟨wr.heap.size, 2, none⟩ = some (.slice pa xp.length pc) ∧ w'.cell? ⟨wr.heap.size, 3, none⟩ = some (.int .i64 xd)) (by kernel_rfl) ⟨below_rowP (Below.refl _ _).drew _, k0, k1, k2, k3⟩ (fun hH => ?_)
          refine takeH 0 (v := ?vb0) rfl (by kernel_rfl) (by kernel_rfl) (by kernel_rfl) (fun _ _ _ h => h) hH rfl ?yb0 ?rb0
          case yb0 => intro W hSw; go_simp; try with_reducible rfl
          try simp only [Act.put, List.setIfInBounds_toArray, List.set_cons_zero, List.set_cons_succ]
          refine takeH 1 (v := .bool false) rfl (by kernel_rfl) (by kernel_rfl) (by kernel_rfl) (fun _ _ _ h => h) hH rfl ?yb1 ?rb1
          case yb1 => intro W hSw; go_simp; first | done | simp only [hgt] | omega | (simp; omega)
          try simp only [Act.put, List.setIfInBounds_toArray, List.set_cons_zero, List.set_cons_succ]
          refine takeH 2 (v := ?vb2) rfl (by kernel_rfl) (by kernel_rfl) (by kernel_rfl) (fun _ _ _ h => h) hH rfl ?yb2 ?rb2
          case yb2 => intro W hSw; go_simp; try with_reducible rfl
          try simp only [Act.put, List.setIfInBounds_toArray, List.set_cons_zero, List.set_cons_succ]
          refine skipH 3 rfl (by kernel_rfl) (by kernel_rfl) (by kernel_rfl) (fun _ _ _ h => h) hH rfl ?_
          try simp only [Act.put, List.setIfInBounds_toArray, List.set_cons_zero, List.set_cons_succ]
          refine skipH 4 rfl (by kernel_rfl) (by kernel_rfl) (by kernel_rfl) (fun _ _ _ h => h) hH rfl ?_
          try simp only [Act.put, List.setIfInBounds_toArray, List.set_cons_zero, List.set_cons_succ]
          refine skipH 5 rfl (by kernel_rfl) (by kernel_rfl) (by kernel_rfl) (fun _ _ _ h => h) hH rfl ?_
          try simp only [Act.put, List.setIfInBounds_toArray, List.set_cons_zero, List.set_cons_succ]
          refine skipH 6 rfl (by kernel_rfl) (by kernel_rfl) (by kernel_rfl) (fun _ _ _ h => h) hH rfl ?_
          try simp only [Act.put, List.setIfInBounds_toArray, List.set_cons_zero, List.set_cons_succ]
          refine skipH 7 rfl (by kernel_rfl) (by kernel_rfl) (by kernel_rfl) (fun _ _ _ h => h) hH rfl ?_
          try simp only [Act.put, List.setIfInBounds_toArray, List.set_cons_zero, List.set_cons_succ]
          refine skipH 8 rfl (by kernel_rfl) (by kernel_rfl) (by kernel_rfl) (fun _ _ _ h => h) hH rfl ?_
          try simp only [Act.put, List.setIfInBounds_toArray, List.set_cons_zero, List.set_cons_succ]
          refine skipH 9 rfl (by kernel_rfl) (by kernel_rfl) (by kernel_rfl) (fun _ _ _ h => h) hH rfl ?_
          try simp only [Act.put, List.setIfInBounds_toArray, List.set_cons_zero, List.set_cons_succ]
          refine skipH 10 rfl (by kernel_rfl) (by kernel_rfl) (by kernel_rfl) (fun _ _ _ h => h) hH rfl ?_
          try simp only [Act.put, List.setIfInBounds_toArray, List.set_cons_zero, List.set_cons_succ]
          refine takeH 11 (v := ?vb11) rfl (by kernel_rfl) (by kernel_rfl) (by kernel_rfl) (fun _ _ _ h => h) hH rfl ?yb11 ?rb11
          case yb11 => intro W hSw; go_simp; try with_reducible rfl
          try simp only [Act.put, List.setIfInBounds_toArray, List.set_cons_zero, List.set_cons_succ]
          refine takeH 12 (v := ?vb12) rfl (by kernel_rfl) (by kernel_rfl) (by kernel_rfl) (fun _ _ _ h => h) hH rfl ?yb12 ?rb12
          case yb12 => intro W hSw; go_simp; try with_reducible rfl
          try simp only [Act.put, List.setIfInBounds_toArray, List.set_cons_zero, List.set_cons_succ]
          refine takeH 13 (v := ?vb13) rfl (by kernel_rfl) (by kernel_rfl) (by kernel_rfl) (fun _ _ _ h => h) hH rfl ?yb13 ?rb13
          case yb13 => intro W hSw; go_simp; try with_reducible rfl
          try simp only [Act.put, List.setIfInBounds_toArray, List.set_cons_zero, List.set_cons_succ]
          refine takeH 14 (v := ?vb14) rfl (by kernel_rfl) (by kernel_rfl) (by kernel_rfl) (fun _ _ _ h => h) hH rfl ?yb14 ?rb14
          case yb14 => intro W hSw; go_simp; try with_reducible rfl
          try simp only [Act.put, List.setIfInBounds_toArray, List.set_cons_zero, List.set_cons_succ]
          refine callH 15 rfl (by kernel_rfl) rfl (fun K hK => ?_)
          go_simp
          go_at_call 60
          refine (HAdd.out _ ((Below.refl _ _).drew)).mono ?_
          rintro e wz ⟨rfl, hgz, hi2, h2, hl2⟩
          rw [Hz1.out]
          rw [Hz2.out] at hl2
          have Hadd := Lib.hid hl2
          clear hl2
          refine hK.out _ _ ⟨grownBy_trans hH.1 (hgz), (hgz).cell hH.2.1 (by simp only [ne_eq, Option.some.injEq]; omega), (hgz).cell hH.2.2.1 (by simp only [ne_eq, Option.some.injEq]; omega), (hgz).cell hH.2.2.2.1 (by simp only [ne_eq, Option.some.injEq]; omega), (hgz).cell hH.2.2.2.2 (by simp only [ne_eq, Option.some.injEq]; omega)⟩ (fun hH => ?_)
          clear hK K
          try simp only [Act.put, List.setIfInBounds_toArray, List.set_cons_zero, List.set_cons_succ]
          refine takeH 16 (v := ?vb16) rfl (by kernel_rfl) (by kernel_rfl) (by kernel_rfl) (fun _ _ _ h => h) hH rfl ?yb16 ?rb16
          case yb16 => intro W hSw; go_simp; try with_reducible rfl
          try simp only [Act.put, List.setIfInBounds_toArray, List.set_cons_zero, List.set_cons_succ]
          refine takeH 17 (v := ?vb17) rfl (by kernel_rfl) (by kernel_rfl) (by kernel_rfl) (fun _ _ _ h => h) hH rfl ?yb17 ?rb17
          case yb17 => intro W hSw; go_simp; try with_reducible rfl
          try simp only [Act.put, List.setIfInBounds_toArray, List.set_cons_zero, List.set_cons_succ]
          refine wpAnyH_done (by kernel_rfl) ?_ _
          try simp only [Act.put]
          have Hend := Lib.hid (HbwA.out.grown hH.1 HbwA.out.size (fun g e => by cases e; exact Nat.le_refl _))
          go_wp2
          go_roundw
          case rel => exact ⟨k + 1, _, _, by omega, by go_num, Hup1.out, Hadd.out, Hend.out⟩
          case measure => simp [intOf]; omega
      · have hgt : decide ((0 : Int) < (k : Int)) = true := decide_eq_true (by omega)
        have hgt' : (0 : Int) < (k : Int) := by omega
        obtain ⟨d0, d1, pa', pc', d2, d3⟩ := Hg1.out (k - 1) (by omega)
        have Hk0 := Lib.hid (show (k == 0) = false by simpa using h0)
        have Hst := Lib.hid (show befB (g.getD (k - 1) vx0) ⟨xr, xa, xp, xd⟩ = false → stepB c g k = false from fun h => by unfold stepB; rw [Hk0.out, Hgk.out, h]; rfl)
        have HS2 := Lib.hid (fun h => HSA.out (.inr h))
        clear Hg1 HSA
        generalize hy : g.getD (k - 1) vx0 = y at *
        have Hy := Lib.hid hy; clear hy
        obtain ⟨yr, ya, yp, yd⟩ := y
        dsimp only at *
        have HB := Lib.hid (vertex_isBefore ⟨yr, ya, yp, yd⟩ ⟨xr, xa, xp, xd⟩ pa' pa pc' pc)
        have e3 : ((k : Int) - 1).toNat = k - 1 := by omega
        have e4 : 0 ≤ (k : Int) - 1 := by omega
        have e5 : 1 ≤ (k : Int) := by omega
        have e6 : (k : Int) - 1 < g.length := by omega
        cases h2 : befB ⟨yr, ya, yp, yd⟩ ⟨xr, xa, xp, xd⟩ with
        | false =>
          rw [h2] at HB
          have Hz := Lib.hid (allB_no hlt (Hst.out h2))
          refine wp_region_held_drew (S := fun w' => wB.grownBy w' (some w.heap.size) ∧ w'.cell? ⟨wr.heap.size, 0, none⟩ = some (.int .i64 xr) ∧ w'.cell? ⟨wr.heap.size, 1, none⟩ = some (.int .i64 xa) ∧ w'.cell? ⟨wr.heap.size, 2, none⟩ = some (.slice pa xp.length pc) ∧ w'.cell? ⟨wr.heap.size, 3, none⟩ = some (.int .i64 xd) ∧ w'.cell? ⟨b, off + (k - 1) * 4, none⟩ = some (.int .i64 yr) ∧ w'.cell? ⟨b, off + (k - 1) * 4 + 1, none⟩ = some (.int .i64 ya) ∧ w'.cell? ⟨b, off + (k - 1) * 4 + 2, none⟩ = some (.slice pa' yp.length pc') ∧ w'.cell? ⟨b, off + (k - 1) * 4 + 3, none⟩ = some (.int .i64 yd)) (by kernel_rfl) ⟨below_rowP (Below.refl _ _).drew _, k0, k1, k2, k3, d0, d1, d2, d3⟩ (fun hH => ?_)
          refine takeH 0 (v := ?vd0) rfl (by kernel_rfl) (by kernel_rfl) (by kernel_rfl) (fun _ _ _ h => h) hH rfl ?yd0 ?rd0
          case yd0 => intro W hSw; go_simp; try with_reducible rfl
          try simp only [Act.put, List.setIfInBounds_toArray, List.set_cons_zero, List.set_cons_succ]
          refine takeH 1 (v := .bool true) rfl (by kernel_rfl) (by kernel_rfl) (by kernel_rfl) (fun _ _ _ h => h) hH rfl ?yd1 ?rd1
          case yd1 => intro W hSw; go_simp; first | done | simp only [hgt] | omega | (simp; omega)
          try simp only [Act.put, List.setIfInBounds_toArray, List.set_cons_zero, List.set_cons_succ]
          refine takeH 2 (v := ?vd2) rfl (by kernel_rfl) (by kernel_rfl) (by kernel_rfl) (fun _ _ _ h => h) hH rfl ?yd2 ?rd2
          case yd2 => intro W hSw; go_simp; try with_reducible rfl
          try simp only [Act.put, List.setIfInBounds_toArray, List.set_cons_zero, List.set_cons_succ]
          refine takeH 3 (v := ?vd3) rfl (by kernel_rfl) (by kernel_rfl) (by kernel_rfl) (fun _ _ _ h => h) hH rfl ?yd3 ?rd3
          case yd3 => intro W hSw; go_simp; try with_reducible rfl
          try simp only [Act.put, List.setIfInBounds_toArray, List.set_cons_zero, List.set_cons_succ]
          refine takeH 4 (v := ?vd4) rfl (by kernel_rfl) (by kernel_rfl) (by kernel_rfl) (fun _ _ _ h => h) hH rfl ?yd4 ?rd4
          case yd4 => intro W hSw; go_simp; try with_reducible rfl
          try simp only [Act.put, List.setIfInBounds_toArray, List.set_cons_zero, List.set_cons_succ]
          refine takeH 5 (v := ?vd5) rfl (by kernel_rfl) (by kernel_rfl) (by kernel_rfl) (fun _ _ _ h => h) hH rfl ?yd5 ?rd5
          case yd5 => intro W hSw; go_simp; try with_reducible rfl
          try simp only [Act.put, List.setIfInBounds_toArray, List.set_cons_zero, List.set_cons_succ]
          refine takeH 6 (v := ?vd6) rfl (by kernel_rfl) (by kernel_rfl) (by kernel_rfl) (fun _ _ _ h => h) hH rfl ?yd6 ?rd6
          case yd6 => intro W hSw; go_simp; try with_reducible rfl
          try simp only [Act.put, List.setIfInBounds_toArray, List.set_cons_zero, List.set_cons_succ]
          refine takeH 7 (v := ?vd7) rfl (by kernel_rfl) (by kernel_rfl) (by kernel_rfl) (fun _ _ _ h => h) hH rfl ?yd7 ?rd7
          case yd7 => intro W hSw; go_simp; try with_reducible rfl
          try simp only [Act.put, List.setIfInBounds_toArray, List.set_cons_zero, List.set_cons_succ]
          refine takeH 8 (v := ?vd8) rfl (by kernel_rfl) (by kernel_rfl) (by kernel_rfl) (fun _ _ _ h => h) hH rfl ?yd8 ?rd8
          case yd8 => intro W hSw; go_simp; try with_reducible rfl
          try simp only [Act.put, List.setIfInBounds_toArray, List.set_cons_zero, List.set_cons_succ]
          refine callH 9 rfl (by kernel_rfl) rfl (fun K hK => ?_)
          go_simp
          go_at_call 106
          refine (HB.out _).mono ?_
          rintro e wx ⟨rfl, hbx⟩
          refine hK.out _ _ ⟨grownBy_trans hH.1 (below_rowP hbx (some w.heap.size)), (below_rowP hbx (some w.heap.size)).cell hH.2.1 (by simp only [ne_eq, Option.some.injEq]; omega), (below_rowP hbx (some w.heap.size)).cell hH.2.2.1 (by simp only [ne_eq, Option.some.injEq]; omega), (below_rowP hbx (some w.heap.size)).cell hH.2.2.2.1 (by simp only [ne_eq, Option.some.injEq]; omega), (below_rowP hbx (some w.heap.size)).cell hH.2.2.2.2.1 (by simp only [ne_eq, Option.some.injEq]; omega), (below_rowP hbx (some w.heap.size)).cell hH.2.2.2.2.2.1 (by simp only [ne_eq, Option.some.injEq]; omega), (below_rowP hbx (some w.heap.size)).cell hH.2.2.2.2.2.2.1 (by simp only [ne_eq, Option.some.injEq]; omega), (below_rowP hbx (some w.heap.size)).cell hH.2.2.2.2.2.2.2.1 (by simp only [ne_eq, Option.some.injEq]; omega), (below_rowP hbx (some w.heap.size)).cell hH.2.2.2.2.2.2.2.2 (by simp only [ne_eq, Option.some.injEq]; omega)⟩ (fun hH => ?_)
          clear hK K
          try simp only [Act.put, List.setIfInBounds_toArray, List.set_cons_zero, List.set_cons_succ]
          refine takeH 10 (v := ?vd10) rfl (by kernel_rfl) (by kernel_rfl) (by kernel_rfl) (fun _ _ _ h => h) hH rfl ?yd10 ?rd10
          case yd10 => intro W hSw; go_simp; try with_reducible rfl
          try simp only [Act.put, List.setIfInBounds_toArray, List.set_cons_zero, List.set_cons_succ]
          refine takeH 11 (v := ?vd11) rfl (by kernel_rfl) (by kernel_rfl) (by kernel_rfl) (fun _ _ _ h => h) hH rfl ?yd11 ?rd11
          case yd11 => intro W hSw; go_simp; try with_reducible rfl
          try simp only [Act.put, List.setIfInBounds_toArray, List.set_cons_zero, List.set_cons_succ]
          refine takeH 12 (v := ?vd12) rfl (by kernel_rfl) (by kernel_rfl) (by kernel_rfl) (fun _ _ _ h => h) hH rfl ?yd12 ?rd12
          case yd12 => intro W hSw; go_simp; try with_reducible rfl
          try simp only [Act.put, List.setIfInBounds_toArray, List.set_cons_zero, List.set_cons_succ]
          refine skipH 13 rfl (by kernel_rfl) (by kernel_rfl) (by kernel_rfl) (fun _ _ _ h => h) hH rfl ?_
          try simp only [Act.put, List.setIfInBounds_toArray, List.set_cons_zero, List.set_cons_succ]
          refine skipH 14 rfl (by kernel_rfl) (by kernel_rfl) (by kernel_rfl) (fun _ _ _ h => h) hH rfl ?_
          try simp only [Act.put, List.setIfInBounds_toArray, List.set_cons_zero, List.set_cons_succ]
          refine skipH 15 rfl (by kernel_rfl) (by kernel_rfl) (by kernel_rfl) (fun _ _ _ h => h) hH rfl ?_
          try simp only [Act.put, List.setIfInBounds_toArray, List.set_cons_zero, List.set_cons_succ]
          refine skipH 16 rfl (by kernel_rfl) (by kernel_rfl) (by kernel_rfl) (fun _ _ _ h => h) hH rfl ?_
          try simp only [Act.put, List.setIfInBounds_toArray, List.set_cons_zero, List.set_cons_succ]
          refine takeH 17 (v := ?vd17) rfl (by kernel_rfl) (by kernel_rfl) (by kernel_rfl) (fun _ _ _ h => h) hH rfl ?yd17 ?rd17
          case yd17 => intro W hSw; go_simp; try with_reducible rfl
          try simp only [Act.put, List.setIfInBounds_toArray, List.set_cons_zero, List.set_cons_succ]
          refine wpAnyH_done (by kernel_rfl) ?_ _
          try simp only [Act.put]
          have Hend := Lib.hid (HbwA.out.grown hH.1 HbwA.out.size (fun g e => by cases e; exact Nat.le_refl _))
          go_wp2
          go_ret2
          exact of_no (by rw [Hres.out, Hz.out]) rfl Hend.out
        | true =>
        rw [h2] at HB
        have HS2 := Lib.hid (HS2.out h2)
        cases hst : stepB c g k with
        | false =>
          have Hne := Lib.hid (HS2.out.2 hst)
          have Hz := Lib.hid (allB_no hlt hst)
          refine wp_region_held_drew (S := fun w' => wB.grownBy w' (some w.heap.size) ∧ w'.cell? ⟨wr.heap.size, 0, none⟩ = some (.int .i64 xr) ∧ w'.cell? ⟨wr.heap.size, 1, none⟩ = some (.int .i64 xa) ∧ w'.cell? ⟨wr.heap.size, 2, none⟩ = some (.slice pa xp.length pc) ∧ w'.cell? ⟨wr.heap.size, 3, none⟩ = some (.int .i64 xd) ∧ w'.cell? ⟨b, off + (k - 1) * 4, none⟩ = some (.int .i64 yr) ∧ w'.cell? ⟨b, off + (k - 1) * 4 + 1, none⟩ = some (.int .i64 ya) ∧ w'.cell? ⟨b, off + (k - 1) * 4 + 2, none⟩ = some (.slice pa' yp.length pc') ∧ w'.cell? ⟨b, off + (k - 1) * 4 + 3, none⟩ = some (.int .i64 yd)) (by kernel_rfl) ⟨below_rowP (Below.refl _ _).drew _, k0, k1, k2, k3, d0, d1, d2, d3⟩ (fun hH => ?_)
          refine takeH 0 (v := ?ve0) rfl (by kernel_rfl) (by kernel_rfl) (by kernel_rfl) (fun _ _ _ h => h) hH rfl ?ye0 ?re0
          case ye0 => intro W hSw; go_simp; try with_reducible rfl
          try simp only [Act.put, List.setIfInBounds_toArray, List.set_cons_zero, List.set_cons_succ]
          refine takeH 1 (v := .bool true) rfl (by kernel_rfl) (by kernel_rfl) (by kernel_rfl) (fun _ _ _ h => h) hH rfl ?ye1 ?re1
          case ye1 => intro W hSw; go_simp; first | done | simp only [hgt] | omega | (simp; omega)
          try simp only [Act.put, List.setIfInBounds_toArray, List.set_cons_zero, List.set_cons_succ]
          refine takeH 2 (v := ?ve2) rfl (by kernel_rfl) (by kernel_rfl) (by kernel_rfl) (fun _ _ _ h => h) hH rfl ?ye2 ?re2
          case ye2 => intro W hSw; go_simp; try with_reducible rfl
          try simp only [Act.put, List.setIfInBounds_toArray, List.set_cons_zero, List.set_cons_succ]
          refine takeH 3 (v := ?ve3) rfl (by kernel_rfl) (by kernel_rfl) (by kernel_rfl) (fun _ _ _ h => h) hH rfl ?ye3 ?re3
          case ye3 => intro W hSw; go_simp; try with_reducible rfl
          try simp only [Act.put, List.setIfInBounds_toArray, List.set_cons_zero, List.set_cons_succ]
          refine takeH 4 (v := ?ve4) rfl (by kernel_rfl) (by kernel_rfl) (by kernel_rfl) (fun _ _ _ h => h) hH rfl ?ye4 ?re4
          case ye4 => intro W hSw; go_simp; try with_reducible rfl
          try simp only [Act.put, List.setIfInBounds_toArray, List.set_cons_zero, List.set_cons_succ]
          refine takeH 5 (v := ?ve5) rfl (by kernel_rfl) (by kernel_rfl) (by kernel_rfl) (fun _ _ _ h => h) hH rfl ?ye5 ?re5
          case ye5 => intro W hSw; go_simp; try with_reducible rfl
          try simp only [Act.put, List.setIfInBounds_toArray, List.set_cons_zero, List.set_cons_succ]
          refine takeH 6 (v := ?ve6) rfl (by kernel_rfl) (by kernel_rfl) (by kernel_rfl) (fun _ _ _ h => h) hH rfl ?ye6 ?re6
          case ye6 => intro W hSw; go_simp; try with_reducible rfl
          try simp only [Act.put, List.setIfInBounds_toArray, List.set_cons_zero, List.set_cons_succ]
          refine takeH 7 (v := ?ve7) rfl (by kernel_rfl) (by kernel_rfl) (by kernel_rfl) (fun _ _ _ h => h) hH rfl ?ye7 ?re7
          case ye7 => intro W hSw; go_simp; try with_reducible rfl
          try simp only [Act.put, List.setIfInBounds_toArray, List.set_cons_zero, List.set_cons_succ]
          refine takeH 8 (v := ?ve8) rfl (by kernel_rfl) (by kernel_rfl) (by kernel_rfl) (fun _ _ _ h => h) hH rfl ?ye8 ?re8
          case ye8 => intro W hSw; go_simp; try with_reducible rfl
          try simp only [Act.put, List.setIfInBounds_toArray, List.set_cons_zero, List.set_cons_succ]
          refine callH 9 rfl (by kernel_rfl) rfl (fun K hK => ?_)
          go_simp
          go_at_call 106
          refine (HB.out _).mono ?_
          rintro e wx ⟨rfl, hbx⟩
          refine hK.out _ _ ⟨grownBy_trans hH.1 (below_rowP hbx (some w.heap.size)), (below_rowP hbx (some w.heap.size)).cell hH.2.1 (by simp only [ne_eq, Option.some.injEq]; omega), (below_rowP hbx (some w.heap.size)).cell hH.2.2.1 (by simp only [ne_eq, Option.some.injEq]; omega), (below_rowP hbx (some w.heap.size)).cell hH.2.2.2.1 (by simp only [ne_eq, Option.some.injEq]; omega), (below_rowP hbx (some w.heap.size)).cell hH.2.2.2.2.1 (by simp only [ne_eq, Option.some.injEq]; omega), (below_rowP hbx (some w.heap.size)).cell hH.2.2.2.2.2.1 (by simp only [ne_eq, Option.some.injEq]; omega), (below_rowP hbx (some w.heap.size)).cell hH.2.2.2.2.2.2.1 (by simp only [ne_eq, Option.some.injEq]; omega), (below_rowP hbx (some w.heap.size)).cell hH.2.2.2.2.2.2.2.1 (by simp only [ne_eq, Option.some.injEq]; omega), (below_rowP hbx (some w.heap.size)).cell hH.2.2.2.2.2.2.2.2 (by simp only [ne_eq, Option.some.injEq]; omega)⟩ (fun hH => ?_)
          clear hK K
          try simp only [Act.put, List.setIfInBounds_toArray, List.set_cons_zero, List.set_cons_succ]
          refine takeH 10 (v := ?ve10) rfl (by kernel_rfl) (by kernel_rfl) (by kernel_rfl) (fun _ _ _ h => h) hH rfl ?ye10 ?re10
          case ye10 => intro W hSw; go_simp; try with_reducible rfl
          try simp only [Act.put, List.setIfInBounds_toArray, List.set_cons_zero, List.set_cons_succ]
          refine takeH 11 (v := ?ve11) rfl (by kernel_rfl) (by kernel_rfl) (by kernel_rfl) (fun _ _ _ h => h) hH rfl ?ye11 ?re11
          case ye11 => intro W hSw; go_simp; try with_reducible rfl
          try simp only [Act.put, List.setIfInBounds_toArray, List.set_cons_zero, List.set_cons_succ]
          refine takeH 12 (v := ?ve12) rfl (by kernel_rfl) (by kernel_rfl) (by kernel_rfl) (fun _ _ _ h => h) hH rfl ?ye12 ?re12
          case ye12 => intro W hSw; go_simp; try with_reducible rfl
          try simp only [Act.put, List.setIfInBounds_toArray, List.set_cons_zero, List.set_cons_succ]
          refine takeH 13 (v := ?ve13) rfl (by kernel_rfl) (by kernel_rfl) (by kernel_rfl) (fun _ _ _ h => h) hH rfl ?ye13 ?re13
          case ye13 => intro W hSw; go_simp; try with_reducible rfl
          try simp only [Act.put, List.setIfInBounds_toArray, List.set_cons_zero, List.set_cons_succ]
          refine takeH 14 (v := ?ve14) rfl (by kernel_rfl) (by kernel_rfl) (by kernel_rfl) (fun _ _ _ h => h) hH rfl ?ye14 ?re14
          case ye14 => intro W hSw; go_simp; try with_reducible rfl
          try simp only [Act.put, List.setIfInBounds_toArray, List.set_cons_zero, List.set_cons_succ]
          refine callH 15 rfl (by kernel_rfl) rfl (fun K hK => ?_)
          go_simp
          go_at_call 60
          refine (HAdd.out _ ((Below.refl _ _).drew.trans hbx)).mono ?_
          rintro e wz ⟨rfl, hgz, _⟩
          generalize hm : adN c (g.take k) ⟨xr, xa, xp, xd⟩ = m at *
          have hm' : (m != 0) = true := by simpa using Hne.out
          clear hm
          refine hK.out _ _ ⟨grownBy_trans hH.1 (hgz), (hgz).cell hH.2.1 (by simp only [ne_eq, Option.some.injEq]; omega), (hgz).cell hH.2.2.1 (by simp only [ne_eq, Option.some.injEq]; omega), (hgz).cell hH.2.2.2.1 (by simp only [ne_eq, Option.some.injEq]; omega), (hgz).cell hH.2.2.2.2.1 (by simp only [ne_eq, Option.some.injEq]; omega), (hgz).cell hH.2.2.2.2.2.1 (by simp only [ne_eq, Option.some.injEq]; omega), (hgz).cell hH.2.2.2.2.2.2.1 (by simp only [ne_eq, Option.some.injEq]; omega), (hgz).cell hH.2.2.2.2.2.2.2.1 (by simp only [ne_eq, Option.some.injEq]; omega), (hgz).cell hH.2.2.2.2.2.2.2.2 (by simp only [ne_eq, Option.some.injEq]; omega)⟩ (fun hH => ?_)
          clear hK K
          try simp only [Act.put, List.setIfInBounds_toArray, List.set_cons_zero, List.set_cons_succ]
          refine takeH 16 (v := ?ve16) rfl (by kernel_rfl) (by kernel_rfl) (by kernel_rfl) (fun _ _ _ h => h) hH rfl ?ye16 ?re16
          case ye16 => intro W hSw; go_simp; try with_reducible rfl
          try simp only [Act.put, List.setIfInBounds_toArray, List.set_cons_zero, List.set_cons_succ]
          refine takeH 17 (v := ?ve17) rfl (by kernel_rfl) (by kernel_rfl) (by kernel_rfl) (fun _ _ _ h => h) hH rfl ?ye17 ?re17
          case ye17 => intro W hSw; go_simp; try with_reducible rfl
          try simp only [Act.put, List.setIfInBounds_toArray, List.set_cons_zero, List.set_cons_succ]
          refine wpAnyH_done (by kernel_rfl) ?_ _
          try simp only [Act.put]
          have Hend := Lib.hid (HbwA.out.grown hH.1 HbwA.out.size (fun g e => by cases e; exact Nat.le_refl _))
          go_wp2
          go_ret2
          exact of_no (by rw [Hres.out, Hz.out]) rfl Hend.out
        | true =>
          obtain ⟨hz1, hz2⟩ := HS2.out.1 hst
          have Hz1 := Lib.hid hz1
          have Hz2 := Lib.hid hz2
          have Hup1 := Lib.hid (upto_step Hup.out hst)
          clear hz1 hz2
          refine wp_region_held_drew (S := fun w' => wB.grownBy w' (some w.heap.size) ∧ w'.cell? ⟨wr.heap.size, 0, none⟩ = some (.int .i64 xr) ∧ w'.cell? ⟨wr.heap.size, 1, none⟩ = some (.int .i64 xa) ∧ w'.cell? ⟨wr.heap.size, 2, none⟩ = some (.slice pa xp.length pc) ∧ w'.cell? ⟨wr.heap.size, 3, none⟩ = some (.int .i64 xd) ∧ w'.cell? ⟨b, off + (k - 1) * 4, none⟩ = some (.int .i64 yr) ∧ w'.cell? ⟨b, off + (k - 1) * 4 + 1, none⟩ = some (.int .i64 ya) ∧ w'.cell? ⟨b, off + (k - 1) * 4 + 2, none⟩ = some (.slice pa' yp.length pc') ∧ w'.cell? ⟨b, off + (k - 1) * 4 + 3, none⟩ = some (.int .i64 yd)) (by kernel_rfl) ⟨below_rowP (Below.refl _ _).drew _, k0, k1, k2, k3, d0, d1, d2, d3⟩ (fun hH => ?_)
          refine takeH 0 (v := ?vf0) rfl (by kernel_rfl) (by kernel_rfl) (by kernel_rfl) (fun _ _ _ h => h) hH rfl ?yf0 ?rf0
          case yf0 => intro W hSw; go_simp; try with_reducible rfl
          try simp only [Act.put, List.setIfInBounds_toArray, List.set_cons_zero, List.set_cons_succ]
          refine takeH 1 (v := .bool true) rfl (by kernel_rfl) (by kernel_rfl) (by kernel_rfl) (fun _ _ _ h => h) hH rfl ?yf1 ?rf1
          case yf1 => intro W hSw; go_simp; first | done | simp only [hgt] | omega | (simp; omega)
          try simp only [Act.put, List.setIfInBounds_toArray, List.set_cons_zero, List.set_cons_succ]
          refine takeH 2 (v := ?vf2) rfl (by kernel_rfl) (by kernel_rfl) (by kernel_rfl) (fun _ _ _ h => h) hH rfl ?yf2 ?rf2
          case yf2 => intro W hSw; go_simp; try with_reducible rfl
          try simp only [Act.put, List.setIfInBounds_toArray, List.set_cons_zero, List.set_cons_succ]
          refine takeH 3 (v := ?vf3) rfl (by kernel_rfl) (by kernel_rfl) (by kernel_rfl) (fun _ _ _ h => h) hH rfl ?yf3 ?rf3
          case yf3 => intro W hSw; go_simp; try with_reducible rfl
          try simp only [Act.put, List.setIfInBounds_toArray, List.set_cons_zero, List.set_cons_succ]
          refine takeH 4 (v := ?vf4) rfl (by kernel_rfl) (by kernel_rfl) (by kernel_rfl) (fun _ _ _ h => h) hH rfl ?yf4 ?rf4
          case yf4 => intro W hSw; go_simp; try with_reducible rfl
          try simp only [Act.put, List.setIfInBounds_toArray, List.set_cons_zero, List.set_cons_succ]
          refine takeH 5 (v := ?vf5) rfl (by kernel_rfl) (by kernel_rfl) (by kernel_rfl) (fun _ _ _ h => h) hH rfl ?yf5 ?rf5
          case yf5 => intro W hSw; go_simp; try with_reducible rfl
          try simp only [Act.put, List.setIfInBounds_toArray, List.set_cons_zero, List.set_cons_succ]
          refine takeH 6 (v := ?vf6) rfl (by kernel_rfl) (by kernel_rfl) (by kernel_rfl) (fun _ _ _ h => h) hH rfl ?yf6 ?rf6
          case yf6 => intro W hSw; go_simp; try with_reducible rfl
          try simp only [Act.put, List.setIfInBounds_toArray, List.set_cons_zero, List.set_cons_succ]
          refine takeH 7 (v := ?vf7) rfl (by kernel_rfl) (by kernel_rfl) (by kernel_rfl) (fun _ _ _ h => h) hH rfl ?yf7 ?rf7
          case yf7 => intro W hSw; go_simp; try with_reducible rfl
          try simp only [Act.put, List.setIfInBounds_toArray, List.set_cons_zero, List.set_cons_succ]
          refine takeH 8 (v := ?vf8) rfl (by kernel_rfl) (by kernel_rfl) (by kernel_rfl) (fun _ _ _ h => h) hH rfl ?yf8 ?rf8
          case yf8 => intro W hSw; go_simp; try with_reducible rfl
          try simp only [Act.put, List.setIfInBounds_toArray, List.set_cons_zero, List.set_cons_succ]
          refine callH 9 rfl (by kernel_rfl) rfl (fun K hK => ?_)
          go_simp
          go_at_call 106
          refine (HB.out _).mono ?_
          rintro e wx ⟨rfl, hbx⟩
          refine hK.out _ _ ⟨grownBy_trans hH.1 (below_rowP hbx (some w.heap.size)), (below_rowP hbx (some w.heap.size)).cell hH.2.1 (by simp only [ne_eq, Option.some.injEq]; omega), (below_rowP hbx (some w.heap.size)).cell hH.2.2.1 (by simp only [ne_eq, Option.some.injEq]; omega), (below_rowP hbx (some w.heap.size)).cell hH.2.2.2.1 (by simp only [ne_eq, Option.some.injEq]; omega), (below_rowP hbx (some w.heap.size)).cell hH.2.2.2.2.1 (by simp only [ne_eq, Option.some.injEq]; omega), (below_rowP hbx (some w.heap.size)).cell hH.2.2.2.2.2.1 (by simp only [ne_eq, Option.some.injEq]; omega), (below_rowP hbx (some w.heap.size)).cell hH.2.2.2.2.2.2.1 (by simp only [ne_eq, Option.some.injEq]; omega), (below_rowP hbx (some w.heap.size)).cell hH.2.2.2.2.2.2.2.1 (by simp only [ne_eq, Option.some.injEq]; omega), (below_rowP hbx (some w.heap.size)).cell hH.2.2.2.2.2.2.2.2 (by simp only [ne_eq, Option.some.injEq]; omega)⟩ (fun hH => ?_)
          clear hK K
          try simp only [Act.put, List.setIfInBounds_toArray, List.set_cons_zero, List.set_cons_succ]
          refine takeH 10 (v := ?vf10) rfl (by kernel_rfl) (by kernel_rfl) (by kernel_rfl) (fun _ _ _ h => h) hH rfl ?yf10 ?rf10
          case yf10 => intro W hSw; go_simp; try with_reducible rfl
          try simp only [Act.put, List.setIfInBounds_toArray, List.set_cons_zero, List.set_cons_succ]
          refine takeH 11 (v := ?vf11) rfl (by kernel_rfl) (by kernel_rfl) (by kernel_rfl) (fun _ _ _ h => h) hH rfl ?yf11 ?rf11
          case yf11 => intro W hSw; go_simp; try with_reducible rfl
          try simp only [Act.put, List.setIfInBounds_toArray, List.set_cons_zero, List.set_cons_succ]
          refine takeH 12 (v := ?vf12) rfl (by kernel_rfl) (by kernel_rfl) (by kernel_rfl) (fun _ _ _ h => h) hH rfl ?yf12 ?rf12
          case yf12 => intro W hSw; go_simp; try with_reducible rfl
          try simp only [Act.put, List.setIfInBounds_toArray, List.set_cons_zero, List.set_cons_succ]
          refine takeH 13 (v := ?vf13) rfl (by kernel_rfl) (by kernel_rfl) (by kernel_rfl) (fun _ _ _ h => h) hH rfl ?yf13 ?rf13
          case yf13 => intro W hSw; go_simp; try with_reducible rfl
          try simp only [Act.put, List.setIfInBounds_toArray, List.set_cons_zero, List.set_cons_succ]
          refine takeH 14 (v := ?vf14) rfl (by kernel_rfl) (by kernel_rfl) (by kernel_rfl) (fun _ _ _ h => h) hH rfl ?yf14 ?rf14
          case yf14 => intro W hSw; go_simp; try with_reducible rfl
          try simp only [Act.put, List.setIfInBounds_toArray, List.set_cons_zero, List.set_cons_succ]
          refine callH 15 rfl (by kernel_rfl) rfl (fun K hK => ?_)
          go_simp
          go_at_call 60
          refine (HAdd.out _ ((Below.refl _ _).drew.trans hbx)).mono ?_
          rintro e wz ⟨rfl, hgz, hi2, h2, hl2⟩
          rw [Hz1.out]
          rw [Hz2.out] at hl2
          have Hadd := Lib.hid hl2
          clear hl2
          refine hK.out _ _ ⟨grownBy_trans hH.1 (hgz), (hgz).cell hH.2.1 (by simp only [ne_eq, Option.some.injEq]; omega), (hgz).cell hH.2.2.1 (by simp only [ne_eq, Option.some.injEq]; omega), (hgz).cell hH.2.2.2.1 (by simp only [ne_eq, Option.some.injEq]; omega), (hgz).cell hH.2.2.2.2.1 (by simp only [ne_eq, Option.some.injEq]; omega), (hgz).cell hH.2.2.2.2.2.1 (by simp only [ne_eq, Option.some.injEq]; omega), (hgz).cell hH.2.2.2.2.2.2.1 (by simp only [ne_eq, Option.some.injEq]; omega), (hgz).cell hH.2.2.2.2.2.2.2.1 (by simp only [ne_eq, Option.some.injEq]; omega), (hgz).cell hH.2.2.2.2.2.2.2.2 (by simp only [ne_eq, Option.some.injEq]; omega)⟩ (fun hH => ?_)
          clear hK K
          try simp only [Act.put, List.setIfInBounds_toArray, List.set_cons_zero, List.set_cons_succ]
          refine takeH 16 (v := ?vf16) rfl (by kernel_rfl) (by kernel_rfl) (by kernel_rfl) (fun _ _ _ h => h) hH rfl ?yf16 ?rf16
          case yf16 => intro W hSw; go_simp; try with_reducible rfl
          try simp only [Act.put, List.setIfInBounds_toArray, List.set_cons_zero, List.set_cons_succ]
          refine takeH 17 (v := ?vf17) rfl (by kernel_rfl) (by kernel_rfl) (by kernel_rfl) (fun _ _ _ h => h) hH rfl ?yf17 ?rf17
          case yf17 => intro W hSw; go_simp; try with_reducible rfl
          try simp only [Act.put, List.setIfInBounds_toArray, List.set_cons_zero, List.set_cons_succ]
          refine wpAnyH_done (by kernel_rfl) ?_ _
          try simp only [Act.put]
          have Hend := Lib.hid (HbwA.out.grown hH.1 HbwA.out.size (fun g e => by cases e; exact Nat.le_refl _))
          go_wp2
          go_roundw
          case rel => exact ⟨k + 1, _, _, by omega, by go_num, Hup1.out, Hadd.out, Hend.out⟩
          case measure => simp [intOf]; omega
    · have hke : k = g.length := by omega
      subst hke
      rw [List.take_length] at HL
      have Hz := Lib.hid (show graphB c g = true by rw [Hres.out]; exact allB_yes Hup.out (Nat.le_refl _))
      go_wp2
      go_ret2
      exact of_yes Hz.out rfl Hbel.out (Nat.le_refl _) HL.out

end Go.Proofs.Yteglefchkecfjab

/- impl's authors of a round, GraphValid, VertexValid, GraphAdd, GraphAuthors, GraphHeight and GraphMerge, each by a walk of its text; conditions: lists are shorter than 2^40 (a graph: 2^20). -/
namespace Go.Proofs.Yteglefchkecfjab
open Go.RowKit

def authP' (r : Int) (x : Vx) : Bool := decide (x.r = r)
set_option maxRecDepth 8000 in
theorem impl_authorsOf (g : List Vx) (v : Value) (fp : List Nat) (r : Int) (w : World) (hbig : g.length ≤ 1099511627776) (hr : Gr w g v fp) :
    Calls Try.prog 64 #[v, .int .i64 r] w fun e w' => ∃ u, e = .returned u ∧ Own 3 w' w.heap.size u (authZ g r) ∧ Below w.heap.size w w' := by
  obtain ⟨va, vc, rfl⟩ := hr.slice
  have hb0 : Below w.heap.size w (w.alloc (.cells #[] 3)) := (Below.refl _ _).alloc (Nat.le_refl _) _
  have Hr := Lib.hid hr; clear hr
  go_enter Try.func64, Try.ntmps64
  go_wp2_with fail
  go_loopw [5, 11] (fun u i wr => ∃ k : Nat, k ≤ g.length ∧ i = .int .i64 k ∧ Own 3 wr w.heap.size u (authZ (g.take k) r) ∧ Below w.heap.size w wr) (fun _ i _ => g.length - (intOf i).toNat)
  case atStart => exact ⟨0, Nat.zero_le _, rfl, own_empty _ _ (Nat.le_refl _), hb0⟩
  case round =>
    obtain ⟨k, hk, rfl, hown, hbel⟩ := hrel
    have Hown := Lib.hid hown; clear hown
    have Hbel := Lib.hid hbel; clear hbel
    by_cases hlt : k < g.length
    · obtain ⟨b, off, rfl, hb, hat⟩ := (Hr.out.under Hbel.out).at (by omega)
      obtain ⟨q0, q1, ⟨pa, pc, q2, _⟩, q3⟩ := hat k hlt
      clear hat
      have hbA : Below wr.heap.size wr (wr.alloc (.cells #[.int .i64 g[k].r, .int .i64 g[k].a, .slice pa g[k].ps.length pc, .int .i64 g[k].d] 30)) := (Below.refl _ _).alloc (Nat.le_refl _) _
      have HbA := Lib.hid (below_step Hbel.out Hbel.out.size hbA)
      have HownA := Lib.hid (Hown.out.below hbA)
      have HzA := Lib.hid (show (wr.alloc (.cells #[.int .i64 g[k].r, .int .i64 g[k].a, .slice pa g[k].ps.length pc, .int .i64 g[k].d] 30)).heap.size = wr.heap.size + 1 by simp)
      clear hbA
      by_cases e : g[k].r = r
      · have Hs := Lib.hid (authZ_yes hlt e)
        have e1 : (g[k].r == r) = true := by simpa using e
        have hl := authZ_len (g.take k) r
        rw [List.length_take] at hl
        have hB := HbA.out.size
        clear e
        generalize authZ (g.take k) r = out at *
        generalize g[k] = x at *
        obtain ⟨xr, xa, xp, xd⟩ := x
        dsimp only at *
        go_wp2_with (at_builtin; refine wpList_push TIg rfl (.tmp 19) (.tmp 22) rfl w.heap.size _ out _ rfl HownA.out (by omega) (by rw [HzA.out]; rfl) hB ?_; intro v8 w8 hown8 hg8)
        go_roundw
        case rel => exact ⟨k + 1, by omega, by go_num, by rw [Hs.out]; exact hown8, HbA.out.grown hg8 hB (fun g e => (HownA.out.lt g e).1)⟩
        case measure => simp [intOf]; omega
      · have Hs := Lib.hid (authZ_no hlt e)
        have e1 : (g[k].r == r) = false := by simpa using e
        clear e
        generalize g[k] = x at *
        obtain ⟨xr, xa, xp, xd⟩ := x
        dsimp only at *
        go_wp2
        go_roundw
        case rel => exact ⟨k + 1, by omega, by go_num, by rw [Hs.out]; exact HownA.out, HbA.out⟩
        case measure => simp [intOf]; omega
    · have hke : k = g.length := by omega
      subst hke
      rw [List.take_length] at Hown
      go_wp2
      go_ret
      exact ⟨_, rfl, Hown.out, Hbel.out⟩

section
variable (ac : Option Addr) (capc : Nat) (c : List Int) (g : List Vx) (v : Value) (fp : List Nat) (w : World) (hn : c.length ≤ 1099511627776) (hbig : g.length ≤ 1048576) (hps : ∀ x ∈ g, x.ps.length ≤ 1099511627776) (hc : IntsAt w ac c) (hg : Gr w g v fp)
include hn hbig hps hc hg
theorem graphOf_no (h : graphB c g = false) : Calls Try.prog 53 #[.slice ac c.length capc, v] w fun e w' => e = .returned (.tuple #[.pointer none, .bool false]) ∧ Below w.heap.size w w' :=
  (impl_graphOf ac capc c g v fp w hn hbig hps hc hg).mono fun e w' hp => by
    obtain ⟨hb, ⟨_, he⟩ | ⟨ht, _⟩⟩ := hp
    · exact ⟨he, hb⟩
    · rw [h] at ht; cases ht
theorem graphOf_yes (h : graphB c g = true) : Calls Try.prog 53 #[.slice ac c.length capc, v] w fun e w' => ∃ G, e = .returned (.tuple #[.pointer (some ⟨G, 0, none⟩), .bool true]) ∧ Below w.heap.size w w' ∧ w.heap.size ≤ G ∧ ∃ hi h, Lk w w' hi G (.slice ac c.length capc) h g :=
  (impl_graphOf ac capc c g v fp w hn hbig hps hc hg).mono fun e w' hp => by
    obtain ⟨hb, ⟨hf, _⟩ | ⟨_, G, hi, h', he, hG, hl⟩⟩ := hp
    · rw [h] at hf; cases hf
    · exact ⟨G, he, hb, hG, hi, h', hl⟩
end

theorem impl_GraphValid' (ac : Option Addr) (capc : Nat) (c : List Int) (g : List Vx) (v : Value) (fp : List Nat) (w : World) (hn : c.length ≤ 1099511627776) (hbig : g.length ≤ 1048576) (hps : ∀ x ∈ g, x.ps.length ≤ 1099511627776) (hc : IntsAt w ac c) (hg : Gr w g v fp) :
    Calls Try.prog 13 #[.slice ac c.length capc, v] w fun e w' => e = .returned (.bool (graphB c g)) ∧ Below w.heap.size w w' := by
  cases h : graphB c g with
  | false =>
    have H := Lib.hid (graphOf_no ac capc c g v fp w hn hbig hps hc hg h)
    clear hc hg hps h
    go_enter Try.func13, Try.ntmps13
    go_wp2_with fail
    refine H.out.mono ?_
    rintro e w1 ⟨rfl, hb⟩
    go_wp2
    go_ret
    exact ⟨rfl, hb⟩
  | true =>
    have H := Lib.hid (graphOf_yes ac capc c g v fp w hn hbig hps hc hg h)
    clear hc hg hps h
    go_enter Try.func13, Try.ntmps13
    go_wp2_with fail
    refine H.out.mono ?_
    rintro e w1 ⟨G, rfl, hb, _⟩
    go_wp2
    go_ret
    exact ⟨rfl, hb⟩

theorem impl_GraphAuthors' (ac : Option Addr) (capc : Nat) (c : List Int) (g : List Vx) (v : Value) (fp : List Nat) (r : Int) (w : World) (hn : c.length ≤ 1099511627776) (hbig : g.length ≤ 1048576) (hps : ∀ x ∈ g, x.ps.length ≤ 1099511627776) (hc : IntsAt w ac c) (hg : Gr w g v fp) :
    Calls Try.prog 21 #[.slice ac c.length capc, v, .int .i64 r] w fun e w' => ∃ u, e = .returned u ∧ Own 3 w' w.heap.size u (gaZ c g r) ∧ Below w.heap.size w w' := by
  have H := Lib.hid (impl_GraphValid' ac capc c g v fp w hn hbig hps hc hg)
  cases h : graphB c g with
  | false =>
    have Hz := Lib.hid (show gaZ c g r = [] by unfold gaZ; rw [h]; rfl)
    rw [h] at H
    clear hc hg hps h
    go_enter Try.func21, Try.ntmps21
    go_wp2_with fail
    refine H.out.mono ?_
    rintro e w1 ⟨rfl, hb⟩
    have Hb := Lib.hid hb; clear hb
    go_wp2
    go_ret
    exact ⟨_, rfl, by rw [Hz.out]; exact own_empty _ _ Hb.out.size, Hb.out.alloc Hb.out.size _⟩
  | true =>
    have Hz := Lib.hid (show gaZ c g r = authZ g r by unfold gaZ; rw [h]; rfl)
    rw [h] at H
    have HA := Lib.hid (fun W (h : Gr W g v fp) => impl_authorsOf g v fp r W (by omega) h)
    have Hg := Lib.hid hg
    clear hc hg hps h
    go_enter Try.func21, Try.ntmps21
    go_wp2_with fail
    refine H.out.mono ?_
    rintro e w1 ⟨rfl, hb⟩
    have Hb := Lib.hid hb
    have HA1 := Lib.hid (HA.out w1 (Hg.out.under hb))
    clear hb
    go_wp2_with fail
    refine HA1.out.mono ?_
    rintro e w2 ⟨u, rfl, ho, hb2⟩
    have Ho := Lib.hid (ho.mono Hb.out.size)
    have Hb2 := Lib.hid (below_step Hb.out Hb.out.size hb2)
    clear ho hb2
    go_wp2
    go_ret
    exact ⟨_, rfl, by rw [Hz.out]; exact Ho.out, Hb2.out⟩

theorem hgt_yes {c : List Int} {g : List Vx} {n : Nat} (h : qAt c g n = true) : hgtTo c g (n + 1) = n := by simp [hgtTo, h]
theorem hgt_no {c : List Int} {g : List Vx} {n : Nat} (h : qAt c g n = false) : hgtTo c g (n + 1) = hgtTo c g n := by simp [hgtTo, h]
theorem impl_GraphHeight' (ac : Option Addr) (capc : Nat) (c : List Int) (g : List Vx) (v : Value) (fp : List Nat) (w : World) (hn : c.length ≤ 1099511627776) (hbig : g.length ≤ 1048576) (hps : ∀ x ∈ g, x.ps.length ≤ 1099511627776) (hc : IntsAt w ac c) (hg : Gr w g v fp) :
    Calls Try.prog 28 #[.slice ac c.length capc, v] w fun e w' => e = .returned (.int .i64 (ghZ c g)) ∧ Below w.heap.size w w' := by
  have H := Lib.hid (impl_GraphValid' ac capc c g v fp w hn hbig hps hc hg)
  cases h : graphB c g with
  | false =>
    have Hz := Lib.hid (show ghZ c g = -1 by unfold ghZ; rw [h]; rfl)
    rw [h] at H
    clear hc hg hps h
    go_enter Try.func28, Try.ntmps28
    go_wp2_with fail
    refine H.out.mono ?_
    rintro e w1 ⟨rfl, hb⟩
    go_wp2
    go_ret
    exact ⟨by rw [Hz.out]; rfl, hb⟩
  | true =>
    have Hz := Lib.hid (show ghZ c g = hgtZ c g by unfold ghZ; rw [h]; rfl)
    have hv : validB c = true := by unfold graphB at h; simp only [Bool.and_eq_true] at h; exact h.1
    rw [h] at H
    have HA := Lib.hid (fun r W (h : Gr W g v fp) => impl_authorsOf g v fp r W (by omega) h)
    have hal := fun r => authZ_len g r
    have HQ := Lib.hid (fun r pa pc W (h1 : IntsAt W ac c) (h2 : IntsAt W pa (authZ g r)) => committee_isQuorum ac capc c pa pc (authZ g r) W hv (by have := hal r; omega) h1 h2)
    have HM := Lib.hid (fun r => show qmB c (authZ g r) = qAt c g r by unfold qmB qAt; rw [auth_members h r]; rfl)
    have Hg := Lib.hid hg
    have Hc := Lib.hid hc
    clear hc hg hps h hal
    go_enter Try.func28, Try.ntmps28
    go_wp2_with fail
    refine H.out.mono ?_
    rintro e w1 ⟨rfl, hb⟩
    have Hb := Lib.hid hb; clear hb
    go_wp2
    go_loopw [5] (fun i wr => ∃ n : Nat, n ≤ 31 ∧ i = .int .i64 ((n : Int) - 1) ∧ hgtTo c g n = hgtZ c g ∧ Below w.heap.size w wr) (fun i _ => (intOf i + 1).toNat)
    case atStart => exact ⟨31, by omega, rfl, rfl, Hb.out⟩
    case round =>
      obtain ⟨n, hk, rfl, hz, hbel⟩ := hrel
      have Hzn := Lib.hid hz; clear hz
      have Hbel := Lib.hid hbel
      cases n with
      | zero =>
        clear hbel
        go_wp2
        go_ret
        exact ⟨by rw [Hz.out, ← Hzn.out]; rfl, Hbel.out⟩
      | succ n =>
        have hi : ((n + 1 : Nat) : Int) - 1 = (n : Int) := by omega
        rw [hi]
        have hge : (0 : Int) ≤ (n : Int) := by omega
        have HA1 := Lib.hid (HA.out n wr (Hg.out.under hbel))
        have Hc1 := Lib.hid (Hc.out.below hbel)
        clear hbel hi
        go_wp2_with fail
        refine HA1.out.mono ?_
        rintro e w2 ⟨u, rfl, ho, hb2⟩
        obtain ⟨pa, pc, rfl, hi2, _⟩ := ho.ints
        have HQ1 := Lib.hid (HQ.out n pa pc w2 (Hc1.out.below hb2) hi2)
        rw [HM.out] at HQ1
        have Hb2 := Lib.hid (below_step Hbel.out Hbel.out.size hb2)
        clear ho hi2 hb2
        go_wp2_with fail
        refine HQ1.out.mono ?_
        rintro e w3 ⟨rfl, rfl⟩
        cases hq : qAt c g n with
        | true =>
          have Hh := Lib.hid (hgt_yes hq)
          go_wp2
          go_ret
          exact ⟨by rw [Hz.out, ← Hzn.out, Hh.out]; rfl, Hb2.out⟩
        | false =>
          have Hh := Lib.hid (hgt_no hq)
          go_wp2
          go_roundw
          case rel => exact ⟨n, by omega, rfl, by rw [← Hh.out]; exact Hzn.out, Hb2.out⟩
          case measure => simp [intOf]

theorem addN_cases (g : List Vx) (x : Vx) : addN g x = 0 ∨ addN g x = 1 ∨ addN g x = 2 ∨ addN g x = 3 := by
  unfold addN
  by_cases h1 : 0 ≤ findZ g x.r x.a
  · rw [if_pos h1]
    by_cases h2 : sameB (g.getD (findZ g x.r x.a).toNat vx0) x = true
    · rw [if_pos h2]; omega
    · rw [if_neg h2]; omega
  · rw [if_neg h1]
    by_cases h2 : parB g x = true
    · rw [if_pos h2]; omega
    · rw [if_neg h2]; omega
theorem addG_srt {g : List Vx} {x : Vx} (h : Srt g) : Srt (addG g x) := by
  unfold addG
  split
  · rename_i h0
    refine ins_srt h fun y hy e => ?_
    obtain ⟨k, hk, ek, _⟩ := findZ_mem h hy
    rw [e.1, e.2] at ek
    unfold addN at h0
    rw [if_pos (by rw [ek]; omega)] at h0
    split at h0 <;> simp at h0
  · exact h
set_option maxHeartbeats 1000000 in
theorem impl_GraphAdd' (ac : Option Addr) (capc : Nat) (c : List Int) (g : List Vx) (v : Value) (fp : List Nat) (x : Vx) (pa : Option Addr) (pc : Nat) (w : World) (hn : c.length ≤ 1099511627776) (hbig : g.length ≤ 1048576) (hps : ∀ y ∈ g, y.ps.length ≤ 1099511627776) (hbp : x.ps.length ≤ 1099511627776) (hc : IntsAt w ac c) (hg : Gr w g v fp) (hs : SrcAt w pa pc x.ps) (hi : IntsAt w pa x.ps) :
    Calls Try.prog 16 #[.slice ac c.length capc, v, .agg #[.int .i64 x.r, .int .i64 x.a, .slice pa x.ps.length pc, .int .i64 x.d]] w fun e w' => ∃ u, e = .returned (.tuple #[u, .int .i64 (gaN c g x)]) ∧ OwnR 30 3 4 w' w.heap.size w'.heap.size u ((gaG c g x).map Vx.fd) ∧ Below w.heap.size w w' := by
  have hb0 : Below w.heap.size w (w.alloc (.cells #[.int .i64 x.r, .int .i64 x.a, .slice pa x.ps.length pc, .int .i64 x.d] 30)) := (Below.refl _ _).alloc (Nat.le_refl _) _
  have s0 := Str.new w 30 #[.int .i64 x.r, .int .i64 x.a, .slice pa x.ps.length pc, .int .i64 x.d]
  have Hs := Lib.hid (hs.under hi hb0); clear hs
  have Hi := Lib.hid (hi.below hb0); clear hi
  have hc0 := hc.below hb0
  have hg0 := hg.under hb0
  have Hb := Lib.hid hb0
  have Hs0 := Lib.hid s0
  have Hno := Lib.hid (ga_no (c := c) (g := g) (x := x))
  have Hyes := Lib.hid (ga_yes (c := c) (g := g) (x := x))
  cases hgb : graphB c g with
  | false =>
    obtain ⟨hz1, hz2⟩ := Hno.out (by unfold gaB; rw [hgb]; rfl)
    have H := Lib.hid (graphOf_no ac capc c g v fp _ hn hbig hps hc0 hg0 hgb)
    have Hz1 := Lib.hid hz1
    have Hz2 := Lib.hid hz2
    clear hz1 hz2 hc0 hg0 hc hg hb0 s0 hps
    go_enter Try.func16, Try.ntmps16
    go_wp2_with fail
    generalize w.alloc (.cells #[.int .i64 x.r, .int .i64 x.a, .slice pa x.ps.length pc, .int .i64 x.d] 30) = W0 at *
    refine H.out.mono ?_
    rintro e w1 ⟨rfl, hb1⟩
    have Hb1 := Lib.hid (below_step Hb.out Hb.out.size hb1)
    clear hb1
    go_wp2
    go_ret2
    exact ⟨_, by rw [Hz1.out]; rfl, by rw [Hz2.out]; exact ownR_none _ _ Hb1.out.size, Hb1.out.alloc Hb1.out.size _⟩
  | true =>
    have hv : validB c = true := by unfold graphB at hgb; simp only [Bool.and_eq_true] at hgb; exact hgb.1
    have hsrt := graph_sorted hgb
    have hvx := graph_vtx hgb
    have H := Lib.hid (graphOf_yes ac capc c g v fp _ hn hbig hps hc0 hg0 hgb)
    have HAdd := Lib.hid (fun w1 hi G h hbb hl => graph_add _ w1 hi G ac capc c h g x pa pc hv hbp hps Hs.out Hi.out hc0 hbb hl hsrt hvx)
    have HP := Lib.hid hps
    have Hv := Lib.hid hv
    have Hsrt := Lib.hid hsrt
    have Hvx := Lib.hid hvx
    have Hgb := Lib.hid hgb
    clear hv hsrt hvx hc0 hg0 hc hg hb0 s0 hps hgb
    go_enter Try.func16, Try.ntmps16
    go_wp2_with fail
    generalize w.alloc (.cells #[.int .i64 x.r, .int .i64 x.a, .slice pa x.ps.length pc, .int .i64 x.d] 30) = W0 at *
    refine H.out.mono ?_
    rintro e w1 ⟨G, rfl, hb1, hG, hi1, h1, hl1⟩
    have Hb1 := Lib.hid (below_step Hb.out Hb.out.size hb1)
    have s1 : Str w1 w.heap.size 30 #[.int .i64 x.r, .int .i64 x.a, .slice pa x.ps.length pc, .int .i64 x.d] := (hb1.block _ Hs0.out.lt).trans Hs0.out
    have k0 := Str.cell s1 0 (v := .int .i64 x.r) rfl
    have k1 := Str.cell s1 1 (v := .int .i64 x.a) rfl
    have k2 := Str.cell s1 2 (v := .slice pa x.ps.length pc) rfl
    have k3 := Str.cell s1 3 (v := .int .i64 x.d) rfl
    have HAdd1 := Lib.hid (HAdd.out w1 hi1 G h1 hb1 hl1)
    have HB1 := Lib.hid hb1
    have hGl : G < w1.heap.size := Nat.lt_of_lt_of_le hl1.lt hl1.le
    clear hb1 s1 hl1
    go_wp2_with fail
    refine HAdd1.out.mono ?_
    rintro e w2 ⟨rfl, hg2, hi2, h2, hl2⟩
    have Hb2 := Lib.hid (HB1.out.grown hg2 HB1.out.size (fun g e => by cases e; exact hG))
    have Hw2 := Lib.hid (Hb.out.trans (Hb2.out.mono Hb.out.size))
    have Hl2 := Lib.hid hl2
    clear hg2 hl2 k0 k1 k2 k3
    cases hxb : vtxB c x with
    | false =>
      obtain ⟨hz1, hz2⟩ := Hno.out (by unfold gaB; rw [hxb, Bool.and_false])
      rw [(ad_not hxb).1]
      have Hz1 := Lib.hid hz1
      have Hz2 := Lib.hid hz2
      clear hz1 hz2
      go_wp2
      go_ret2
      exact ⟨_, by rw [Hz1.out]; rfl, by rw [Hz2.out]; exact ownR_none _ _ Hw2.out.size, Hw2.out.alloc Hw2.out.size _⟩
    | true =>
      obtain ⟨hz1, hz2⟩ := Hyes.out (by unfold gaB; rw [Hgb.out, hxb]; rfl)
      have hN : adN c g x = addN g x := by unfold adN; rw [if_pos hxb]
      have hGr : adG c g x = addG g x := by unfold adG; rw [if_pos hxb]
      rw [hN]
      rw [hGr] at Hl2
      have hne : (addN g x == 4) = false := by
        rw [beq_eq_false_iff_ne]
        rcases addN_cases g x with h | h | h | h <;> omega
      have hvx2 : ∀ y ∈ addG g x, vtxB c y = true := fun y hy => by
        rcases addG_memP hy with h | h
        · exact Hvx.out y h
        · rw [h]; exact hxb
      have hLs := Lib.hid (graph_list _ w2 hi2 G _ h2 (addG g x) Hb2.out Hl2.out (addG_srt Hsrt.out) (fun y hy => vtx_pl Hv.out (hvx2 y hy)) (fun y hy => by
        rcases addG_memP hy with h | h
        · exact HP.out y h
        · rw [h]; exact hbp) (by have := addG_lenP g x; omega))
      have Hz1 := Lib.hid hz1
      have Hz2 := Lib.hid hz2
      clear hz1 hz2 hN hGr hvx2
      generalize addN g x = N at *
      go_wp2_with fail
      refine hLs.out.mono ?_
      rintro e w3 ⟨u, rfl, ho, hb3⟩
      have Ho := Lib.hid (ho.from Hw2.out.size)
      have Hb3 := Lib.hid (below_step Hw2.out Hw2.out.size hb3)
      clear ho hb3
      go_wp2
      go_ret2
      exact ⟨_, by rw [Hz1.out]; rfl, by rw [Hz2.out]; exact Ho.out, Hb3.out⟩

end Go.Proofs.Yteglefchkecfjab

/- impl's marking of a vertex's past along pointers, by a walk of its text (it calls itself: by the vertex's round); the graph is valid. -/
namespace Go.Proofs.Yteglefchkecfjab
open Go.RowKit

/-- The number of a mark. -/
def plM (r a : Int) : Nat := r.toNat * 7 + a.toNat
theorem plM_inj {r a r' a' : Int} (hr : 0 ≤ r) (ha : 0 ≤ a) (ha' : a ≤ 6) (hr2 : 0 ≤ r') (ha2 : 0 ≤ a') (ha2' : a' ≤ 6) (h : plM r a = plM r' a') : r = r' ∧ a = a' := by
  unfold plM at h; omega
theorem plM_bd {r a : Int} (h : r ≤ 30) (ha : a ≤ 6) : plM r a < 217 := by unfold plM; omega
/-- Each parent of a vertex is there. -/
def Par (g : List Vx) : Prop := ∀ y ∈ g, ∀ p ∈ y.ps, ∃ z ∈ g, z.r = y.r - 1 ∧ z.a = p
/-- What is marked in the first n rounds has its parents marked. -/
def ClsM (g : List Vx) (bs : Nat → Bool) (n : Int) : Prop := ∀ z ∈ g, z.r ≤ n → bs (plM z.r z.a) = true → ∀ p ∈ z.ps, bs (plM (z.r - 1) p) = true
/-- A set of vertices that is closed. -/
def ClsP (g : List Vx) (P : Vx → Prop) : Prop := ∀ y ∈ g, P y → ∀ p ∈ y.ps, ∀ z ∈ g, z.r = y.r - 1 → z.a = p → P z
def setM (bs : Nat → Bool) (i : Nat) : Nat → Bool := fun j => if j = i then true else bs j
def marksV (bs : Nat → Bool) : Array Value := arrP 217 fun i => .bool (bs i)
theorem marksV_set (bs : Nat → Bool) (i : Nat) : (marksV bs).setIfInBounds i (.bool true) = marksV (setM bs i) := by
  unfold marksV; rw [arrP_set]; congr 1; funext j
  unfold setM
  by_cases h : j = i <;> simp [h]
/-- What marking a vertex's past does to the marks. -/
structure Mkd (g : List Vx) (y : Vx) (bs bs' : Nat → Bool) : Prop where
  up : ∀ i, bs i = true → bs' i = true
  it : bs' (plM y.r y.a) = true
  cls : ClsM g bs' y.r
  new : ∀ i, bs' i = true → bs i = true ∨ i = plM y.r y.a ∨ i < y.r.toNat * 7
  only : ∀ P, ClsP g P → P y → ∀ z ∈ g, bs' (plM z.r z.a) = true → bs (plM z.r z.a) = true ∨ P z
theorem mkd_old {g : List Vx} {y : Vx} {bs : Nat → Bool} (h : bs (plM y.r y.a) = true) (hc : ClsM g bs y.r) : Mkd g y bs bs :=
  ⟨fun _ h => h, h, hc, fun _ h => .inl h, fun _ _ _ _ _ h => .inl h⟩
/-- Behind the first k parents. -/
structure Mkk (g : List Vx) (y : Vx) (bs bs' : Nat → Bool) (k : Nat) : Prop where
  up : ∀ i, bs i = true → bs' i = true
  it : bs' (plM y.r y.a) = true
  ps : ∀ j (h : j < y.ps.length), j < k → bs' (plM (y.r - 1) y.ps[j]) = true
  cls : ClsM g bs' (y.r - 1)
  new : ∀ i, bs' i = true → bs i = true ∨ i = plM y.r y.a ∨ i < y.r.toNat * 7
  only : ∀ P, ClsP g P → P y → ∀ z ∈ g, bs' (plM z.r z.a) = true → bs (plM z.r z.a) = true ∨ P z
theorem mkk_start {g : List Vx} {y : Vx} {bs : Nat → Bool} (hs : Srt g) (hin : ∀ z ∈ g, inPl z) (hy : y ∈ g) (hc : ClsM g bs y.r) : Mkk g y bs (setM bs (plM y.r y.a)) 0 := by
  refine ⟨fun i h => ?_, ?_, fun j _ h => by omega, fun z hz hr hm p hp => ?_, fun i h => ?_, fun P hP hPy z hz hm => ?_⟩
  · unfold setM; split
    · rfl
    · exact h
  · unfold setM; rw [if_pos rfl]
  · have iy := hin y hy
    have iz := hin z hz
    unfold inPl at iy iz
    unfold setM at hm ⊢
    rw [if_neg (fun e => by have := (plM_inj iz.1 iz.2.2.1 iz.2.2.2 iy.1 iy.2.2.1 iy.2.2.2 e).1; omega)] at hm
    split
    · rfl
    · exact hc z hz (by omega) hm p hp
  · unfold setM at h
    split at h
    · rename_i e; exact .inr (.inl e)
    · exact .inl h
  · unfold setM at hm
    split at hm
    · rename_i e
      have iy := hin y hy
      have iz := hin z hz
      unfold inPl at iy iz
      obtain ⟨e1, e2⟩ := plM_inj iz.1 iz.2.2.1 iz.2.2.2 iy.1 iy.2.2.1 iy.2.2.2 e
      rw [srt_uni hs hz hy e1 e2]
      exact .inr hPy
    · exact .inl hm
theorem mkk_step {g : List Vx} {y z : Vx} {bs b1 b2 : Nat → Bool} {k : Nat} (hin : ∀ z ∈ g, inPl z) (hy : y ∈ g) (h : Mkk g y bs b1 k) (hz : z ∈ g) (hk : k < y.ps.length) (hr : z.r = y.r - 1) (ha : z.a = y.ps[k]) (h2 : Mkd g z b1 b2) : Mkk g y bs b2 (k + 1) := by
  have iz := hin z hz
  unfold inPl at iz
  refine ⟨fun i hi => h2.up i (h.up i hi), h2.up _ h.it, fun j hj hjk => ?_, by rw [← hr]; exact h2.cls, fun i hi => ?_, fun P hP hPy x hx hm => ?_⟩
  · by_cases e : j = k
    · subst e; rw [← hr, ← ha]; exact h2.it
    · exact h2.up _ (h.ps j hj (by omega))
  · rcases h2.new i hi with h' | h' | h'
    · exact h.new i h'
    · exact .inr (.inr (by rw [h']; unfold plM; omega))
    · exact .inr (.inr (by omega))
  · have hPz : P z := hP y hy hPy _ (List.getElem_mem hk) z hz hr ha
    rcases h2.only P hP hPz x hx hm with h' | h'
    · exact h.only P hP hPy x hx h'
    · exact .inr h'
theorem mkk_end {g : List Vx} {y : Vx} {bs bs' : Nat → Bool} (hs : Srt g) (hin : ∀ z ∈ g, inPl z) (hy : y ∈ g) (hc : ClsM g bs y.r) (h : Mkk g y bs bs' y.ps.length) : Mkd g y bs bs' := by
  refine ⟨h.up, h.it, fun z hz hr hm p hp => ?_, h.new, h.only⟩
  have iy := hin y hy
  have iz := hin z hz
  unfold inPl at iy iz
  by_cases e : z.r ≤ y.r - 1
  · exact h.cls z hz e hm p hp
  · rcases h.new _ hm with h' | h' | h'
    · exact h.up _ (hc z hz hr h' p hp)
    · obtain ⟨e1, e2⟩ := plM_inj iz.1 iz.2.2.1 iz.2.2.2 iy.1 iy.2.2.1 iy.2.2.2 h'
      have := srt_uni hs hz hy e1 e2
      subst this
      obtain ⟨j, hj, rfl⟩ := List.mem_iff_getElem.1 hp
      exact h.ps j hj hj
    · unfold plM at h'; omega

end Go.Proofs.Yteglefchkecfjab
