/- The reference's height of a graph and the past of a vertex, each by a walk of its text; conditions: lists are shorter than 2^40 (a graph: 2^20), and where the text asks it, the graph is valid. -/
import Derived.Test.YtejpoeejhmgphaaRows
import Derived.Test.YtejpoeejhmgphaaGv6
import Derived.Test.YtejpoeejhmgphaaBo
import Derived.Test.YtejpoeejhmgphaaSched
namespace Go.Proofs.Ytejpoeejhmgphaa
open Go.RowKit

/-! the order of a graph -/
theorem bef_trans {a b c : Vx} (h : befB a b = true) (k : befB b c = true) : befB a c = true := by
  have h := of_decide_eq_true h
  have k := of_decide_eq_true k
  exact decide_eq_true (by omega)
theorem graph_sorted {c : List Int} {g : List Vx} (h : graphB c g = true) : g.Pairwise fun a b => befB a b = true := by
  unfold graphB at h
  simp only [Bool.and_eq_true] at h
  have hup := allB_upto h.2
  have next : ∀ i (hi : i + 1 < g.length), befB g[i] g[i + 1] = true := by
    intro i hi
    have := hup (i + 1) hi
    unfold okV at this
    rw [getV hi, Nat.add_sub_cancel, getV (show i < g.length by omega)] at this
    simp only [Bool.and_eq_true, Bool.or_eq_true] at this
    rcases this.2.1 with h | h
    · simp at h
    · exact h
  have step : ∀ d i (hi : i + 1 + d < g.length), befB g[i] g[i + 1 + d] = true := by
    intro d
    induction d with
    | zero => intro i hi; exact next i hi
    | succ d ih => intro i hi; exact bef_trans (ih i (by omega)) (next (i + 1 + d) hi)
  refine List.pairwise_iff_getElem.2 fun i j hi hj hij => ?_
  have := step (j - i - 1) i (by omega)
  simpa [show i + 1 + (j - i - 1) = j by omega] using this
theorem members_pairwise {n : Nat} {ms : List Int} (h : ms.Pairwise (· < ·)) (hb : ∀ m ∈ ms, 0 ≤ m ∧ m < n) : membersB n ms = true := by
  unfold membersB
  refine allB_yes (k := ms.length) (fun j hj => ?_) (Nat.le_refl _)
  have hb := hb ms[j] (List.getElem_mem hj)
  refine okAt_yes hj hb.1 hb.2 ?_
  by_cases h0 : j = 0
  · exact .inl h0
  · refine .inr ?_
    rw [getD_get (by omega)]
    exact List.pairwise_iff_getElem.1 h (j - 1) j (by omega) hj (by omega)
theorem vtx_author {c : List Int} {x : Vx} (h : vtxB c x = true) : 0 ≤ x.a ∧ x.a < c.length := by
  unfold vtxB autB at h; simp only [Bool.and_eq_true, decide_eq_true_eq] at h; omega
theorem auth_members {c : List Int} {g : List Vx} (h : graphB c g = true) (r : Int) : membersB c.length (authZ g r) = true := by
  refine members_pairwise ?_ fun m hm => ?_
  · unfold authZ
    rw [List.pairwise_map]
    refine List.Pairwise.imp_of_mem (R := fun a b => befB a b = true) (fun {a b} ha hb hab => ?_) ((graph_sorted h).filter _)
    have ha := of_decide_eq_true (List.mem_filter.1 ha).2
    have hb := of_decide_eq_true (List.mem_filter.1 hb).2
    have := of_decide_eq_true hab
    omega
  · unfold authZ at hm
    obtain ⟨x, hx, rfl⟩ := List.mem_map.1 hm
    exact vtx_author (graph_vtx h x (List.mem_filter.1 hx).1)

def qAt (c : List Int) (g : List Vx) (r : Int) : Bool := decide (quorumZ c ≤ weightZ c (authZ g r))
/-- The largest round below n with a quorum, or -1. -/
def hgtTo (c : List Int) (g : List Vx) : Nat → Int
  | 0 => -1
  | n + 1 => if qAt c g n = true then n else hgtTo c g n
def hgtZ (c : List Int) (g : List Vx) : Int := hgtTo c g 31
set_option maxHeartbeats 1000000 in
theorem spec_l11Height (ac : Option Addr) (capc : Nat) (c : List Int) (g : List Vx) (v : Value) (fp : List Nat) (w : World) (hv : graphB c g = true) (hbig : g.length ≤ 1048576) (hc : IntsAt w ac c) (hg : Gr w g v fp) :
    Calls Try.prog 60 #[.slice ac c.length capc, v] w fun e w' => e = .returned (.int .i64 (hgtZ c g)) ∧ Below w.heap.size w w' := by
  have hcv : validB c = true := by have h := hv; unfold graphB at h; simp only [Bool.and_eq_true] at h; exact h.1
  have Hm := Lib.hid (fun r => auth_members hv r)
  have HA := Lib.hid (fun r W h => spec_l11Authors g v fp r W (by omega) h)
  have hal := fun r => authZ_len g r
  have HW := Lib.hid (fun r am cap W (h : IntsAt W ac c) h' => spec_l1Weight ac capc c am cap (authZ g r) W hcv (Hm.out r) (Nat.le_trans (hal r) (by omega)) h h')
  have HQ := Lib.hid (fun W h => spec_l1Quorum ac capc c W hcv h)
  have Hc := Lib.hid hc; clear hc
  have Hg := Lib.hid hg; clear hg hal
  go_enter Try.func60, Try.ntmps60
  go_wp2
  go_loopw [5] (fun i wr => ∃ n : Nat, n ≤ 31 ∧ i = .int .i64 ((n : Int) - 1) ∧ hgtTo c g n = hgtZ c g ∧ Below w.heap.size w wr) (fun i _ => (intOf i + 1).toNat)
  case atStart => exact ⟨31, by omega, rfl, rfl, Below.refl _ _⟩
  case round =>
    obtain ⟨n, hn, rfl, hh, hbel⟩ := hrel
    have Hbel := Lib.hid hbel; clear hbel
    have Hh := Lib.hid hh; clear hh
    by_cases h0 : n = 0
    · subst h0
      have hz : hgtZ c g = -1 := Hh.out.symm
      have Hz := Lib.hid hz; clear hz
      go_wp2
      go_ret
      exact ⟨by rw [Hz.out]; rfl, Hbel.out⟩
    · obtain ⟨m, rfl⟩ : ∃ m, n = m + 1 := ⟨n - 1, by omega⟩
      have e1 : ((m + 1 : Nat) : Int) - 1 = m := by omega
      rw [e1]
      have hge : decide ((0 : Int) ≤ (m : Int)) = true := decide_eq_true (by omega)
      have hge' : (0 : Int) ≤ (m : Int) := by omega
      have hw1 : IntKind.i64.wrap ((m : Int) - 1) = m - 1 := IntWalk.i64_in _ (by omega)
      clear e1 h0
      go_wp2_with fail
      refine (HA.out m wr (Hg.out.under Hbel.out)).mono ?_
      rintro e w2 ⟨u, rfl, ho, hb2⟩
      obtain ⟨au, cu, rfl, hi, _⟩ := ho.ints
      have Hi := Lib.hid hi
      have Hb2 := Lib.hid (below_step Hbel.out Hbel.out.size hb2); clear hb2 ho hi
      go_wp2_with fail
      refine (HW.out m au cu w2 (Hc.out.below Hb2.out) Hi.out).mono ?_
      rintro e w3 ⟨rfl, rfl⟩
      go_wp2_with fail
      refine (HQ.out w2 (Hc.out.below Hb2.out)).mono ?_
      rintro e w3 ⟨rfl, rfl⟩
      have hst := Hh.out
      unfold hgtTo at hst
      cases hq : qAt c g m with
      | true =>
        rw [if_pos hq] at hst
        have hd := of_decide_eq_true hq
        unfold quorumZ at hd
        have Hz := Lib.hid hst; clear hst hq
        go_wp2
        go_ret
        exact ⟨by rw [← Hz.out]; rfl, Hb2.out⟩
      | false =>
        rw [if_neg (by simp [hq])] at hst
        have hd := of_decide_eq_false hq
        unfold quorumZ at hd
        have Hz := Lib.hid hst; clear hst hq
        go_wp2
        go_roundw
        case rel => exact ⟨m, by omega, by first | rfl | go_num, Hz.out, Hb2.out⟩
        case measure => simp [intOf]

