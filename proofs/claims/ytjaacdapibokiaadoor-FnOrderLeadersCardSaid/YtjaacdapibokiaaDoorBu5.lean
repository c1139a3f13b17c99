/- Texts that the laws of this folder share, one behind another; no conditions. -/
import Derived.Test.YtjaacdapibokiaaDoorRows
import Derived.Test.YtjaacdapibokiaaDoorBu4
import Derived.Deep.QuietTactic
import Derived.BigQuiet
import Derived.Test.YtjaacdapibokiaaDoorBu3
import Derived.Test.YtjaacdapibokiaaDoorBu0
import Derived.Test.YtjaacdapibokiaaDoorBu1
import Derived.Maps.AppendAt
import Derived.Laws.StructEq

/- impl's committed waves, by a walk of its text; conditions: the graph and the leaders are valid, lists are shorter than 2^40. -/
namespace Go.Proofs.YtjaacdapibokiaaDoor
open Go.RowKit

section
variable {w0 w : World} {hi G q : Nat} {ac : Option Addr} {capc : Nat} {c : List Int} {h : Nat → Value} {g : List Vx} {al : Option Addr} {cap : Nat} {ls : List Int} {eN eI : Addr}
set_option maxRecDepth 8000 in
set_option maxHeartbeats 2000000 in
theorem led_committed (l : Lg w0 w hi G q (.slice ac c.length capc) h g al cap ls) (hs : Sen w eN eI) (ok : Good21 c g ls) (hbg : g.length ≤ 1048576) (hc : IntsAt w ac c) (hi' : IntsAt w al ls) :
    Calls Tryd.prog 15 #[.pointer (some ⟨q, 0, none⟩)] w fun e w' => ∃ u, e = .returned u ∧ Own 3 w' w.heap.size u (wvs c g ls ls.length).1 ∧ Below w.heap.size w w' := by
  have h15 := ok.l15
  have hb0 : Below w.heap.size w (w.alloc (.cells #[] 3)) := (Below.refl _ _).alloc (Nat.le_refl _) _
  have Ho0 := Lib.hid (own_empty 3 w (Nat.le_refl w.heap.size))
  have Hb0 := Lib.hid hb0
  have HD := Lib.hid (fun (k : Nat) (hk : 1 ≤ k ∧ k ≤ ls.length) W (hb : Below w.heap.size w W) => led_direct (l.under hb) (hs.below hb) k hk ok hbg (hc.below hb) (hi'.below hb))
  have HC := Lib.hid (fun (k lo : Nat) (hk : 1 ≤ k ∧ k ≤ ls.length) (hlo : lo < k) hz W (hb : Below w.heap.size w W) => led_committedBy (l.under hb) (hs.below hb) k lo hk hlo ok (hi'.below hb) hz)
  have Hq := Lib.hid (fun W (hb : Below w.heap.size w W) => (l.under hb).st.cell 1 (v := .slice al ls.length cap) rfl)
  have hbd := totalZ_bd ok.hv
  have Hpos := Lib.hid (fun k (h : totalZ c / 3 + 1 ≤ voZ c g ls k) => (show 0 ≤ ldZ g ls k by
    by_cases h0 : 0 ≤ ldZ g ls k
    · exact h0
    · unfold voZ at h; rw [if_neg h0] at h; omega))
  clear l hs ok hc hi' hb0
  go_enter Tryd.func15, Tryd.ntmps15
  go_wp2
  go_loopw [3, 4, 5] (fun o la i wr => ∃ m : Nat, 1 ≤ m ∧ m ≤ ls.length + 1 ∧ i = .int .i64 m ∧ la = .int .i64 ((wvs c g ls (m - 1)).2 : Nat) ∧ Own 3 wr w.heap.size o (wvs c g ls (m - 1)).1 ∧ Below w.heap.size w wr) (fun _ _ i _ => ls.length + 1 - (intOf i).toNat)
  case atStart => exact ⟨1, by omega, by omega, rfl, rfl, Ho0.out, Hb0.out⟩
  case round =>
    obtain ⟨m, hm1, hm2, rfl, rfl, ho, hb⟩ := hrel
    have hwl := wvs_len (c := c) (g := g) (ls := ls) (m - 1)
    have Ho := Lib.hid ho; have Hb := Lib.hid hb
    have q1 := Hq.out wr hb
    clear ho hb Ho0 Hb0
    by_cases hlt : m ≤ ls.length
    · have hlt' : (m : Int) ≤ (ls.length : Int) := by omega
      go_wp2_with fail
      refine (HD.out m ⟨hm1, hlt⟩ wr Hb.out).mono ?_
      rintro e w1 ⟨rfl, hd1⟩
      have Ho1 := Lib.hid (Ho.out.below (hd1.below _))
      have Hb1 := Lib.hid (below_step Hb.out Hb.out.size (hd1.below _))
      clear hd1 Ho Hb q1
      by_cases hq : totalZ c / 3 + 1 ≤ voZ c g ls m
      · have hy := wvs_yes hm1 (show ¬ voZ c g ls m < totalZ c / 3 + 1 by omega)
        have Hy1 := Lib.hid (show (wvs c g ls m).1 = (wvs c g ls (m - 1)).1 ++ chZ g ls (wvs c g ls (m - 1)).2 (m - 1) [(m : Int)] (ldZ g ls m) by rw [hy])
        have Hy2 := Lib.hid (show (wvs c g ls m).2 = m by rw [hy])
        have hz := Hpos.out m hq
        have hqd : decide (totalZ c / 3 + 1 ≤ voZ c g ls m) = true := decide_eq_true hq
        have HCm := Lib.hid (HC.out m (wvs c g ls (m - 1)).2 ⟨hm1, hlt⟩ (by omega) hz)
        have hcl := chZ_len (g := g) (ls := ls) (lo := (wvs c g ls (m - 1)).2) (m - 1) [(m : Int)] (ldZ g ls m)
        rw [List.length_singleton] at hcl
        clear hy hz hq
        generalize voZ c g ls m = V at *
        generalize (wvs c g ls (m - 1)).2 = lo at *
        generalize (wvs c g ls (m - 1)).1 = O at *
        generalize chZ g ls lo (m - 1) [(m : Int)] (ldZ g ls m) = CH at *
        rw [hqd]
        clear hqd
        go_wp2_with fail
        refine (HCm.out w1 Hb1.out).mono ?_
        rintro e w2 ⟨u, rfl, ho2, hb2⟩
        have Ho2 := Lib.hid (Ho1.out.below hb2)
        have Hb2 := Lib.hid (below_step Hb1.out Hb1.out.size hb2)
        have hB2 := Hb2.out.size
        obtain ⟨au, cu, rfl, _, _⟩ := ho2.ints
        have Hsr := Lib.hid (own_src ho2)
        clear hb2 ho2 Ho1 Hb1 HCm
        go_wp2_with (at_builtin; refine wpList_appI TIq rfl _ _ rfl w.heap.size _ O CH au cu rfl Ho2.out rfl Hsr.out (by omega) hB2 ?_; intro v8 w8 ho8 hg8)
        have Hb8 := Lib.hid (Hb2.out.grown hg8 hB2 (fun q e => (Ho2.out.lt q e).1))
        have Ho8 := Lib.hid ho8
        clear ho8 hg8
        go_wp2
        go_roundw
        case rel => exact ⟨m + 1, by omega, by omega, by go_num, by rw [Nat.add_sub_cancel, Hy2.out], by rw [Nat.add_sub_cancel, Hy1.out]; exact Ho8.out, Hb8.out⟩
        case measure => simp [intOf]; omega
      · have hn := Lib.hid (wvs_no hm1 (show voZ c g ls m < totalZ c / 3 + 1 by omega))
        have hqd : decide (totalZ c / 3 + 1 ≤ voZ c g ls m) = false := decide_eq_false hq
        rw [hqd]
        clear hq hqd
        go_wp2
        go_roundw
        case rel => exact ⟨m + 1, by omega, by omega, by go_num, by rw [Nat.add_sub_cancel, hn.out], by rw [Nat.add_sub_cancel, hn.out]; exact Ho1.out, Hb1.out⟩
        case measure => simp [intOf]; omega
    · have hml : m - 1 = ls.length := by omega
      have Hml := Lib.hid hml
      clear hml hwl
      go_wp2
      go_ret
      exact ⟨_, rfl, by rw [← Hml.out]; exact Ho.out, Hb.out⟩
end

end Go.Proofs.YtjaacdapibokiaaDoor

/- impl's GraphFind, with the library's search by a function and the function that is handed to it, each by a walk of its text; conditions: lists are shorter than 2^40 (a graph: 2^20). -/
namespace Go.Proofs.YtjaacdapibokiaaDoor
open Go.RowKit

end Go.Proofs.YtjaacdapibokiaaDoor

/- impl's WaveLeader, WaveVotes, WaveDirect and CommitWaves, each by a walk of its text; conditions: lists are shorter than 2^40 (a graph: 2^20). -/
namespace Go.Proofs.YtjaacdapibokiaaDoor
open Go.RowKit

set_option maxRecDepth 8000 in
set_option maxHeartbeats 1000000 in
theorem impl_CommitWaves (ac : Option Addr) (capc : Nat) (c : List Int) (g : List Vx) (v : Value) (fp : List Nat) (al : Option Addr) (cap : Nat) (ls : List Int) (eN eI : Addr) (w : World) (hn : c.length ≤ 1099511627776) (hbig : g.length ≤ 1048576) (hps : ∀ x ∈ g, x.ps.length ≤ 1099511627776) (hl : ls.length ≤ 1099511627776) (_hcc : c.length ≤ capc) (hc : IntsAt w ac c) (hg : Gr w g v fp) (_hlc : ls.length ≤ cap) (hi : IntsAt w al ls) (hs : Sen w eN eI) :
    Calls Tryd.prog 8 #[.slice ac c.length capc, v, .slice al ls.length cap] w fun e w' => ∃ u, e = .returned u ∧ Own 3 w' w.heap.size u (cwZ c g ls) ∧ Below w.heap.size w w' := by
  cases hw : waB c g ls with
  | false =>
    have H := Lib.hid (ledGraphOf_no ac capc c g v fp al cap ls eN eI w hn hbig hps hl hc hg hi hs hw)
    have hres := Lib.hid (show cwZ c g ls = [] by unfold cwZ; rw [hw]; rfl)
    clear hc hg hi hps hs hw
    go_enter Tryd.func8, Tryd.ntmps8
    go_wp2_with fail
    refine H.out.mono ?_
    rintro e w1 ⟨rfl, hb1⟩
    have Hb1 := Lib.hid hb1
    have Ho := Lib.hid (own_empty 3 w1 hb1.size)
    have hal : Below w1.heap.size w1 (w1.alloc (.cells #[] 3)) := (Below.refl _ _).alloc (Nat.le_refl _) _
    have Hal := Lib.hid hal
    clear hb1 hal
    go_wp2
    go_ret
    exact ⟨_, rfl, by rw [hres.out]; exact Ho.out, below_step Hb1.out Hb1.out.size Hal.out⟩
  | true =>
  have ok := good21 hw hps
  have H := Lib.hid (ledGraphOf_yes ac capc c g v fp al cap ls w hn hbig hps hl hc hg hi hw)
  have Hs := Lib.hid hs
  have Hi := Lib.hid hi; have Hc := Lib.hid hc
  have Hw := Lib.hid hw
  have Hok := Lib.hid ok
  have h15 := ok.l15
  clear hc hg hi hps hs hw ok
  go_enter Tryd.func8, Tryd.ntmps8
  go_wp2_with fail
  refine H.out.mono ?_
  rintro e w1 ⟨q, G, hi', h, rfl, hb1, hq, hL⟩
  have Hb1 := Lib.hid hb1
  have HL := Lib.hid hL
  have Hs1 := Lib.hid (Hs.out.below hb1)
  have Hi1 := Lib.hid (Hi.out.below hb1)
  have Hc1 := Lib.hid (Hc.out.below hb1)
  clear hb1 hL
  have hres := Lib.hid (show cwZ c g ls = (wvs c g ls ls.length).1 by unfold cwZ; rw [Hw.out]; rfl)
  have HD := Lib.hid (led_committed HL.out Hs1.out Hok.out hbig Hc1.out Hi1.out)
  go_wp2_with fail
  refine HD.out.mono ?_
  rintro e w2 ⟨u, rfl, ho2, hb2⟩
  have Ho2 := Lib.hid (ho2.mono Hb1.out.size)
  have Hb2 := Lib.hid (below_step Hb1.out Hb1.out.size hb2)
  clear ho2 hb2
  go_wp2
  go_ret
  exact ⟨u, rfl, by rw [hres.out]; exact Ho2.out, Hb2.out⟩

end Go.Proofs.YtjaacdapibokiaaDoor

/- The order of a graph's vertices, by a walk of the program's text; conditions: lists are shorter than 2^40 (a graph: 2^20). -/
namespace Go.Proofs.YtjaacdapibokiaaDoor
open Go.RowKit

theorem seg_take {g : List Vx} {ls : List Int} {O : List Nat} {k : Nat} (hk : k < O.length) (h1 : ∀ v ∈ O, 1 ≤ v) : segV g ls (O.take k ++ [O[k]]) O[k] = segV g ls O O[k] := by
  have e : O.take k ++ [O[k]] = O.take (k + 1) := (List.take_succ_eq_append_getElem hk).symm
  have hp := h1 _ (List.getElem_mem hk)
  have hm : O[k] ∈ O.take (k + 1) := by rw [← e]; exact List.mem_append.2 (.inr (List.mem_singleton.2 rfl))
  unfold segV
  rw [e]
  congr 1
  refine List.filter_congr fun j _ => ?_
  have hs : O.take (k + 1) ++ O.drop (k + 1) = O := List.take_append_drop _ _
  rw [Bool.eq_iff_iff, beq_iff_eq, beq_iff_eq]
  constructor
  · intro h
    have := ow_first (R := O.drop (k + 1)) h (by omega)
    rwa [hs] at this
  · intro h
    exact ow_back (O := O.take (k + 1)) (R := O.drop (k + 1)) (by rw [hs]; exact h) hm hp
def ordK (g : List Vx) (ls : List Int) (O : List Nat) (k : Nat) : List Vx := (O.take k).flatMap (segV g ls O)
theorem ordK_succ {g : List Vx} {ls : List Int} {O : List Nat} {k : Nat} (hk : k < O.length) (h1 : ∀ v ∈ O, 1 ≤ v) : ordK g ls O (k + 1) = ordK g ls O k ++ segV g ls (O.take k ++ [O[k]]) O[k] := by
  rw [seg_take hk h1]
  unfold ordK
  rw [List.take_succ_eq_append_getElem hk, List.flatMap_append, List.flatMap_singleton]
theorem ordK_end (g : List Vx) (ls : List Int) (O : List Nat) : ordK g ls O O.length = ordV g ls O := by
  unfold ordK; rw [List.take_length, ordV_seg]
theorem ordK_len {c : List Int} {g : List Vx} {ls : List Int} {O : List Nat} (ok : CwOk c g ls O) (k : Nat) : (ordK g ls O k).length ≤ g.length := by
  have h1 : (ordK g ls O k).length ≤ (ordV g ls O).length := by
    have e : ordV g ls O = ordK g ls O k ++ (O.drop k).flatMap (segV g ls O) := by unfold ordK; rw [ordV_seg, ← List.flatMap_append, List.take_append_drop]
    rw [e, List.length_append]; omega
  have h2 : (ordV g ls O).length = (ordI g ls O).length := by unfold ordV; simp
  have := ordI_len (g := g) (ls := ls) ok.asc fun v hv => (ok.mem v hv).1
  omega
theorem wvs_at {c : List Int} {g : List Vx} {ls : List Int} {O : List Nat} (ok : CwOk c g ls O) (l15 : ls.length ≤ 15) {k : Nat} (hk : k < O.length) : WvsOk g ls (O.take k) O[k] := by
  have hm := ok.mem _ (List.getElem_mem hk)
  refine ⟨fun v hv => ?_, fun v hv => ?_, hm.1, by omega, hm.2.2⟩
  · have := ok.mem v (List.mem_of_mem_take hv); exact ⟨this.1, this.2.2⟩
  · obtain ⟨i, hi, e⟩ := List.mem_iff_getElem.1 hv
    rw [List.length_take] at hi
    rw [← e, List.getElem_take]
    exact List.pairwise_iff_getElem.1 ok.asc i k (by omega) hk (by omega)

theorem ord_zero : Tryd.zeroCells47 = ordA (.slice none 0 0) (.slice none 0 0) (fun _ => 0) := by kernel_rfl
set_option maxRecDepth 8000 in
theorem orderOf_no (ac : Option Addr) (capc : Nat) (c : List Int) (g : List Vx) (v : Value) (fp : List Nat) (al : Option Addr) (cap : Nat) (ls : List Int) (eN eI : Addr) (w : World) (hn : c.length ≤ 1099511627776) (hbig : g.length ≤ 1048575) (hps : ∀ x ∈ g, x.ps.length ≤ 1099511627776) (hl : ls.length ≤ 1099511627776) (hc : IntsAt w ac c) (hg : Gr w g v fp) (hi : IntsAt w al ls) (hs : Sen w eN eI) (hno : waB c g ls = false) :
    Calls Tryd.prog 11 #[.slice ac c.length capc, v, .slice al ls.length cap] w fun e w' => e = .returned (.tuple #[.pointer none, .iface 143 (.pointer (some eI))]) ∧ Below w.heap.size w w' := by
  have H := Lib.hid (ledGraphOf_no ac capc c g v fp al cap ls eN eI w hn (by omega) hps hl hc hg hi hs hno)
  clear hc hg hps hi hs hno
  go_enter Tryd.func11, Tryd.ntmps11
  go_wp2_with fail
  refine H.out.mono ?_
  rintro e w1 ⟨rfl, hb⟩
  have Hb := Lib.hid hb; clear hb
  go_wp2
  go_ret2
  exact ⟨rfl, Hb.out⟩

/-- What orderOf answers. -/
def OrdPost (w : World) (c : List Int) (g : List Vx) (ls : List Int) (e : Ending) (w' : World) : Prop := ∃ B lo hi h vs wt wv, e = .returned (.tuple #[.pointer (some ⟨B, 0, none⟩), .nilIface]) ∧ Oq w' lo hi B h vs wt (ordV g ls (cwN c g ls)) wv [] ∧ WvOk g ls (cwN c g ls) wv ∧ VsA w' lo h g ∧ Below w.heap.size w w'
set_option maxRecDepth 8000 in
set_option maxHeartbeats 4000000 in
theorem orderOf_yes (ac : Option Addr) (capc : Nat) (c : List Int) (g : List Vx) (v : Value) (fp : List Nat) (al : Option Addr) (cap : Nat) (ls : List Int) (eN eI : Addr) (w : World) (hn : c.length ≤ 1099511627776) (hbig : g.length ≤ 1048575) (hps : ∀ x ∈ g, x.ps.length ≤ 1099511627776) (hl : ls.length ≤ 1099511627776) (hc : IntsAt w ac c) (hg : Gr w g v fp) (hi : IntsAt w al ls) (hs : Sen w eN eI) (hyes : waB c g ls = true) :
    Calls Tryd.prog 11 #[.slice ac c.length capc, v, .slice al ls.length cap] w (OrdPost w c g ls) := by
  have ok := good21 hyes hps
  have H := Lib.hid (ledGraphOf_yes ac capc c g v fp al cap ls w hn (by omega) hps hl hc hg hi hyes)
  obtain ⟨hcw, hcok⟩ := cwN_ok hyes hps
  have hwv : (wvs c g ls ls.length).1 = (cwN c g ls).map Int.ofNat := by rw [← hcw]; unfold cwZ; rw [if_pos hyes]
  have h15 := ok.l15
  have Hok := Lib.hid ok; have Hs := Lib.hid hs; have Hi := Lib.hid hi; have Hc := Lib.hid hc; have Hcok := Lib.hid hcok; have Hwv := Lib.hid hwv
  have Hlen := Lib.hid (ordK_len hcok)
  unfold OrdPost
  generalize cwN c g ls = O at *
  clear hc hg hps hi hs hyes ok hcw hcok hwv
  go_enter Tryd.func11, Tryd.ntmps11
  go_wp2_with fail
  refine H.out.mono ?_
  rintro e w1 ⟨q, G, lo, h, rfl, hb1, hq, hL⟩
  have Hb1 := Lib.hid hb1
  have HL := Lib.hid hL
  have Hs1 := Lib.hid (Hs.out.below hb1)
  have Hi1 := Lib.hid (Hi.out.below hb1)
  have Hc1 := Lib.hid (Hc.out.below hb1)
  have hz0 := ord_zero
  have hqlt := hL.st.lt
  have hlo := hL.lk.le
  have hloq := hL.hq
  clear hb1 hL
  go_wp2_with fail
  have hal : Below w1.heap.size w1 (w1.alloc (.cells (ordA (.slice none 0 0) (.slice none 0 0) fun _ => 0) 47)) := (Below.refl _ _).alloc (Nat.le_refl _) _
  have hsO := Str.new w1 47 (ordA (.slice none 0 0) (.slice none 0 0) fun _ => 0)
  have hz2 : (w1.alloc (.cells (ordA (.slice none 0 0) (.slice none 0 0) fun _ => 0) 47)).heap.size = w1.heap.size + 1 := by simp
  generalize w1.alloc (.cells (ordA (.slice none 0 0) (.slice none 0 0) fun _ => 0) 47) = w2 at *
  refine (led_committed (HL.out.under hal) (Hs1.out.below hal) Hok.out (by omega) (Hc1.out.below hal) (Hi1.out.below hal)).mono ?_
  rintro e w3 ⟨u, rfl, ho3, hb3⟩
  rw [Hwv.out] at ho3
  have HL3 := Lib.hid ((HL.out.under hal).under hb3)
  have hs3 := hb3.size
  have Hbw3 := Lib.hid (below_step (below_step Hb1.out Hb1.out.size hal) (Nat.le_trans Hb1.out.size hal.size) hb3)
  have hst3 : Str w3 w1.heap.size 47 (ordA (.slice none 0 0) (.slice none 0 0) fun _ => 0) := (hb3.block _ (by omega)).trans hsO
  have hwB := Hb1.out.size
  generalize w1.heap.size = B at *
  have Ho0 := Lib.hid (⟨by omega, by omega, Nat.le_refl _, hst3, OwnP.nil _ _ _, OwnP.nil _ _ _, by simp [Value.ownBlock], by simp [Value.ownBlock], by simp [Value.ownBlock]⟩ : Oq w3 lo w3.heap.size B h (.slice none 0 0) (.slice none 0 0) [] (fun _ => 0) [])
  have Hol := Lib.hid ho3
  obtain ⟨au, cu, rfl, _, _⟩ := ho3.ints
  rw [List.length_map] at *
  have hOl : O.length ≤ 15 := by
    have h1 := Hcok.out.asc
    have h2 : O.length ≤ (List.range' 1 ls.length).length := List.Nodup.length_le_of_subset (show O.Nodup from h1.imp (fun {a b} h => Nat.ne_of_lt h)) fun v hv => by
      have := Hcok.out.mem v hv; rw [List.mem_range'_1]; omega
    rw [List.length_range'] at h2; omega
  generalize hhi : w3.heap.size = hi3 at *
  clear hal hsO hb3 hst3 ho3 HL Hs1 Hi1 Hc1
  go_wp2_with fail
  go_loopw [30] (fun i wr => ∃ (k : Nat) (vs wt : Value) (wv : Nat → Nat), k ≤ O.length ∧ i = .int .i64 k ∧ Oq wr lo hi3 B h vs wt (ordK g ls O k) wv [] ∧ WvOk g ls (O.take k) wv ∧ Bx hi3 B w3 wr) (fun i _ => O.length - (intOf i).toNat)
  case atStart => exact ⟨0, _, _, _, by omega, rfl, Ho0.out, by rw [List.take_zero]; exact wv_zero g ls, Bx.refl _ _ _⟩
  case round =>
    obtain ⟨k, vs, wt, wv, hk, rfl, o, hv, hb⟩ := hrel
    have hlow : Below w.heap.size w3 wr := hb.low (by omega) (by omega)
    have HbL := Lib.hid (Hbw3.out.trans hlow)
    have hTl := Hlen.out k
    by_cases hlt : k < O.length
    · obtain ⟨gb, cap', ep, hgb, hgl, _, hcell, _⟩ := Own.row Hol.out (by rw [List.length_map]; omega)
      simp only [Value.slice.injEq, List.length_map, true_and] at ep
      obtain ⟨rfl, rfl⟩ := ep
      have ck := (World.cell?_of_block (a := ⟨gb, k, none⟩) (hb.block gb (by omega) (by omega))).trans (hcell k (by rw [List.length_map]; exact hlt))
      rw [List.getElem_map] at ck
      have hwk := wvs_at Hcok.out h15 hlt
      have hsucc := ordK_succ (g := g) (ls := ls) hlt (fun v hv => (Hcok.out.mem v hv).1)
      have htk : O.take k ++ [O[k]] = O.take (k + 1) := (List.take_succ_eq_append_getElem hlt).symm
      have hmem := Hcok.out.mem _ (List.getElem_mem hlt)
      generalize O[k] = W at *
      have ck : wr.cell? ⟨gb, k, none⟩ = some (.int .i64 (W : Int)) := ck
      have hLr : Lg w wr lo G q (.slice ac c.length capc) h g al cap ls := ⟨HL3.out.lk.low (hb.low (by omega) (by omega)), (hb.block q (by omega) (by omega)).trans HL3.out.st, HL3.out.hq⟩
      have HD := Lib.hid (led_leader hLr (Hs.out.below HbL.out) W ⟨hmem.1, hmem.2.1⟩ h15 Hok.out.l6 (Hi.out.below HbL.out) Hok.out.pl)
      have HA := Lib.hid (fun (p : Nat) w5 (hd : Drawn wr w5) (hp : h (plN (ldV g ls W).r (ldV g ls W).a) = ptrV p) => order_addWave w wr lo hi3 G B (.slice ac c.length capc) vs wt h c g (ordK g ls O k) ls (O.take k) W p w5 wv hLr.lk Hok.out hbig hwk hv hp (hd.below _) (o.below (hd.below _)) (by omega))
      have hW0 := hwk.has
      have Hb := Lib.hid hb; have Hsucc := Lib.hid hsucc; have Htk := Lib.hid htk
      clear hb o hv hLr hwk hsucc htk hlow hcell hTl
      go_wp2_with fail
      refine HD.out.mono ?_
      rintro e w5 ⟨hcase, hd⟩
      rcases hcase with ⟨hz, _⟩ | ⟨j, hj, p, hz, hp, rfl⟩
      · omega
      have hV : ldV g ls W = g[j] := by unfold ldV; rw [hz, Int.toNat_natCast, getV hj]
      have HA5 := Lib.hid (HA.out p w5 hd (by rw [hV]; exact hp))
      have Hb5 := Lib.hid (Hb.out.trans (Bx.of (hd.below hi3) (Nat.le_refl _)))
      clear hd hz hp hV ck
      go_wp2_with fail
      refine HA5.out.mono ?_
      rintro e w6 ⟨rfl, vs6, wt6, wv6, o6, hv6, hb6⟩
      have Ho6 := Lib.hid o6; have Hv6 := Lib.hid hv6; have Hb6 := Lib.hid (Hb5.out.trans hb6)
      clear o6 hv6 hb6
      go_wp2
      go_roundw
      case rel => exact ⟨k + 1, vs6, wt6, wv6, by omega, by go_num, by rw [Hsucc.out]; exact Ho6.out, by rw [← Htk.out]; exact Hv6.out, Hb6.out⟩
      case measure => simp [intOf]; omega
    · have hke : k = O.length := by omega
      subst hke
      rw [ordK_end, List.take_length] at *
      have Ho := Lib.hid o; have Hv := Lib.hid hv; have Hb := Lib.hid hb
      clear o hv hb hlow hTl
      go_wp2
      go_ret2
      exact ⟨B, lo, hi3, h, vs, wt, wv, rfl, Ho.out, Hv.out, (HL3.out.lk.low (Hb.out.low (by omega) (by omega))).vsA, HbL.out⟩

end Go.Proofs.YtjaacdapibokiaaDoor

/- Lists of rows of numbers in memory of their own, cell by cell; an append to them at an operation; general steps, nothing here speaks of the program. -/
namespace Go.Proofs.YtjaacdapibokiaaDoor
open Go.RowKit

def rwN (e : List Int) : List Value := e.map (Value.int .i64)
def flN (es : List (List Int)) : List Value := es.flatMap rwN
theorem flN_app (es es2 : List (List Int)) : flN (es ++ es2) = flN es ++ flN es2 := by unfold flN; rw [List.flatMap_append]
theorem flN_len {sz : Nat} : ∀ {es : List (List Int)}, (∀ e ∈ es, e.length = sz) → (flN es).length = es.length * sz
  | [], _ => by simp [flN]
  | x :: es, h => by
    have ih := flN_len (es := es) fun e he => h e (List.mem_cons_of_mem _ he)
    have hx := h x (by simp)
    unfold flN at *
    rw [List.flatMap_cons, List.length_append, ih, List.length_cons, Nat.add_mul]
    simp [rwN, hx]; omega
theorem flN_at {sz : Nat} : ∀ {es : List (List Int)}, (∀ e ∈ es, e.length = sz) → ∀ (k j : Nat) (hk : k < es.length), j < sz → (flN es)[k * sz + j]? = (rwN es[k])[j]?
  | x :: es, h, 0, j, _, hj => by
    have hx := h x (by simp)
    unfold flN
    rw [List.flatMap_cons, List.getElem?_append_left (by simp [rwN, hx]; omega)]
    simp
  | x :: es, h, k + 1, j, hk, hj => by
    have hx := h x (by simp)
    have hk' : k < es.length := by simpa using hk
    have ih := flN_at (es := es) (fun e he => h e (List.mem_cons_of_mem _ he)) k j hk' hj
    unfold flN at *
    have hlx : (rwN x).length = sz := by simp [rwN, hx]
    rw [List.flatMap_cons, List.getElem?_append_right (by rw [hlx, Nat.add_mul]; omega)]
    rw [show (k + 1) * sz + j - (rwN x).length = k * sz + j by rw [hlx, Nat.add_mul]; omega, ih]
    simp
theorem flN_int {es : List (List Int)} {c : Value} (h : c ∈ flN es) : ∃ x, c = .int .i64 x := by
  unfold flN at h
  obtain ⟨e, _, hc⟩ := List.mem_flatMap.1 h
  unfold rwN at hc
  obtain ⟨x, _, rfl⟩ := List.mem_map.1 hc
  exact ⟨x, rfl⟩
/-- v owns rows of sz numbers, in a block from B on. -/
structure OwnN (E : TypeId) (sz : Nat) (w : World) (B : Nat) (v : Value) (es : List (List Int)) : Prop where
  szs : ∀ e ∈ es, e.length = sz
  row : w.ownsRow B E sz v es.length (flN es)
section
variable {E : TypeId} {sz : Nat} {w w' : World} {B : Nat} {v : Value} {es : List (List Int)}
theorem OwnN.lt (h : OwnN E sz w B v es) : ∀ g, v.ownBlock = some g → B ≤ g ∧ g < w.heap.size := World.ownsRow.lt h.row
theorem OwnN.slice (h : OwnN E sz w B v es) : ∃ a c, v = .slice a es.length c ∧ es.length ≤ c := by
  rcases h.row.2 with ⟨rfl, h0⟩ | ⟨g, cap, cur, rfl, _, _, hn, _⟩
  · exact ⟨none, 0, by rw [h0], by omega⟩
  · exact ⟨_, _, rfl, hn⟩
theorem OwnN.same (h : OwnN E sz w B v es) (hb : ∀ g, v.ownBlock = some g → w'.heap[g]? = w.heap[g]?) : OwnN E sz w' B v es := ⟨h.szs, row_same h.row hb⟩
theorem OwnN.below (h : OwnN E sz w B v es) (hb : Below w.heap.size w w') : OwnN E sz w' B v es := h.same fun g e => hb.block g (h.lt g e).2
theorem OwnN.kept {row : Option Nat} (h : OwnN E sz w B v es) (hg : w.grownBy w' row) (hne : ∀ g, v.ownBlock = some g → row ≠ some g) : OwnN E sz w' B v es :=
  h.same fun g e => hg.block g (h.lt g e).2 (fun e' => hne g e e'.symm)
theorem OwnN.mono {B' : Nat} (h : OwnN E sz w B v es) (hB : B' ≤ B) : OwnN E sz w B' v es := by
  refine ⟨h.szs, h.row.1, ?_⟩
  rcases h.row.2 with h0 | ⟨g, cap, cur, e, hb, rest⟩
  · exact .inl h0
  · exact .inr ⟨g, cap, cur, e, by omega, rest⟩
theorem OwnN.empty (E : TypeId) (sz : Nat) (w : World) : OwnN E sz (w.alloc (.cells #[] E)) w.heap.size (.slice (some ⟨w.heap.size, 0, none⟩) 0 0) [] :=
  ⟨by simp, by simp [flN], .inr ⟨w.heap.size, 0, #[], rfl, Nat.le_refl _, Str.new w E #[], Nat.le_refl _, Nat.zero_le _, by simp, by simp [flN]⟩⟩
theorem OwnN.ownR {Ei : TypeId} {hi : Nat} (h : OwnN E sz w B v es) (hh : w.heap.size ≤ hi) : OwnR E Ei sz w B hi v (es.map fun e => e.map Fd.i) := by
  have hn : ∀ (p : Nat) c, (flN es)[p]? = some c → c.ownBlock = none := fun p c hc => by obtain ⟨x, rfl⟩ := flN_int (List.mem_of_getElem? hc); rfl
  refine ⟨fun e he => by obtain ⟨x, hx, rfl⟩ := List.mem_map.1 he; rw [List.length_map]; exact h.szs x hx, flN es, by rw [List.length_map]; exact h.row, fun k j hk hj => ?_, ?_, ?_, ?_, fun g e => Nat.lt_of_lt_of_le (h.lt g e).2 hh⟩
  · have hk' : k < es.length := by simpa using hk
    have he : (es.map fun e => e.map Fd.i)[k] = es[k].map Fd.i := by simp
    have hl : es[k].length = sz := h.szs _ (List.getElem_mem hk')
    have hj' : j < es[k].length := by rw [he, List.length_map] at hj; exact hj
    rw [flN_at h.szs k j hk' (by omega)]
    refine ⟨.int .i64 es[k][j], by simp [rwN, hj'], ?_⟩
    simp only [he, List.getElem_map]
    rfl
  · intro p q c d hc _ _ g e; rw [hn p c hc] at e; cases e
  · intro p c hc g e; rw [hn p c hc] at e; cases e
  · intro p c g hc e; rw [hn p c hc] at e; cases e
theorem OwnN.cell {g n cap : Nat} (h : OwnN E sz w B (.slice (some ⟨g, 0, none⟩) n cap) es) {k j : Nat} (hk : k < es.length) (hj : j < sz) : w.cell? ⟨g, k * sz + j, none⟩ = (rwN es[k])[j]? ∧ w.frozen? ⟨g, k * sz + j, none⟩ = false := by
  have hl : es[k].length = sz := h.szs _ (List.getElem_mem hk)
  have hc := flN_at h.szs k j hk hj
  have he : (rwN es[k])[j]? = some (.int .i64 (es[k][j]'(by omega))) := by simp [rwN, show j < es[k].length by omega]
  have h0 := World.ownsRow.cells h.row (g := g) rfl _ _ (hc.trans he)
  rw [addr_add] at h0
  refine ⟨h0.trans he.symm, ?_⟩
  rcases h.row.2 with ⟨h', _⟩ | ⟨g', cap', cur, h', _, hg, _⟩
  · simp at h'
  · simp only [Value.slice.injEq, Option.some.injEq, Addr.mk.injEq, and_true] at h'
    obtain ⟨rfl, _⟩ := h'
    exact frozen_of_row w g _ cur E hg
end
/-- The rows' cells from this place on. -/
def SrcN (w : World) (ad : Addr) (es : List (List Int)) : Prop := ∀ (j : Nat) u, (flN es)[j]? = some u → w.cell? (ad.add j) = some u
theorem SrcN.below {w w' : World} {ad : Addr} {es : List (List Int)} (h : SrcN w ad es) (hb : Below w.heap.size w w') : SrcN w' ad es := fun j u hj => (hb.cell (World.block_lt_of_cell? _ _ (h j u hj))).trans (h j u hj)
theorem SrcN.new (w : World) (E : TypeId) (e : List Int) : SrcN (w.alloc (.cells (rwN e).toArray E)) ⟨w.heap.size, 0, none⟩ [e] := by
  intro j u hu
  rw [addr_add, World.cell?_alloc_at _ _ _ _ rfl]
  simpa [flN] using hu
theorem OwnN.src {E : TypeId} {sz : Nat} {w : World} {B g n cap : Nat} {es : List (List Int)} (h : OwnN E sz w B (.slice (some ⟨g, 0, none⟩) n cap) es) : SrcN w ⟨g, 0, none⟩ es := fun j u hj => World.ownsRow.cells h.row (g := g) rfl j u hj

/-- 'append(s, t...)' at an operation: s is the call's own, the rows of t lie at ad. -/
theorem op_app_N {P : Program} {T E : TypeId} {sz bytes : Nat} {z0 : Value} (hsl : P.underlying T = some (.slice E)) (hinf : (P.info? E).map (fun i => (i.zero, i.size, i.bytes)) = some (some z0, sz, bytes)) (hz0 : z0.cells.size = sz) (hpos : 0 < sz) (hby : bytes ≤ 1000)
    {w : World} {o : Oper} {a : Act} {K : Act → World → Prop} {Q : Exit → Act → World → Prop} (s x : Operand) (ho : o.op = .call { callee := .builtin .append, args := #[s, x], argTypes := #[T, T] }) (B : Nat) (v : Value) (es es2 : List (List Int)) (ad : Option Addr) (c : Nat)
    (hs : a.eval s = v) (hb : OwnN E sz w B v es) (hx : a.eval x = .slice ad es2.length c) (hs2 : ∀ e ∈ es2, e.length = sz) (hsrc : (ad = none ∧ es2 = [] ∧ c = 0) ∨ ∃ q, ad = some q ∧ SrcN w q es2) (hlen : es.length + es2.length ≤ 1048577) (hB : B ≤ w.heap.size)
    (h : ∀ v' w', OwnN E sz w' B v' (es ++ es2) → w.grownBy w' v.ownBlock → (∀ g, v'.ownBlock = some g → v.ownBlock = some g ∨ w.heap.size ≤ g) → K (a.put o.dst v') w') : Oper.wp P o a w K Q := by
  obtain ⟨i, hi, hz, hsz, hbb⟩ := info_parts hinf
  have hall : ∀ e ∈ es ++ es2, e.length = sz := fun e he => by
    rcases List.mem_append.1 he with h1 | h1
    · exact hb.szs e h1
    · exact hs2 e h1
  have run : ∃ v' w', (Builtin.append_ #[T, T] o.type #[v, .slice ad es2.length c]).run P w = .ok v' w' ∧ OwnN E sz w' B v' (es ++ es2) ∧ w.grownBy w' v.ownBlock ∧ (v'.ownBlock = v.ownBlock ∨ v'.ownBlock = some w.heap.size) := by
    rcases hsrc with ⟨rfl, rfl, rfl⟩ | ⟨q, rfl, hq⟩
    · exact ⟨v, w, run_append_owned_none (P := P) (w := w) B T o.type E i sz hsl hi v es.length _ hb.row, by simpa using hb, World.grownBy.refl _ _, .inl rfl⟩
    · obtain ⟨v', w', h1, h2, h3, _, h4⟩ := run_append_own_at (P := P) w B T o.type E i z0 sz bytes hsl hi hz hsz hbb hz0 hpos v es.length _ hb.row q es2.length c (flN es2) (flN_len hs2) hq (fun u hu => by obtain ⟨x, rfl⟩ := flN_int hu; rfl) (by unfold maxLen; omega) (by
        have := Nat.mul_le_mul (show es.length + es2.length ≤ 1048577 from hlen) hby; omega) hB
      exact ⟨v', w', h1, ⟨hall, by rw [List.length_append, flN_app]; exact h2⟩, h3, h4⟩
  obtain ⟨v', w', hrun, h1, hg, h4⟩ := run
  unfold Oper.wp execOp
  simp only [ho, resolve, invoke, builtin, Sem.run_bind, Sem.run_pure, Result.andThen_ok, List.map_toArray, List.map_cons, List.map_nil, hs, hx, hrun]
  exact h v' w' h1 hg fun g e => by
    rcases h4 with h4 | h4
    · exact .inl (by rw [← h4]; exact e)
    · rw [h4] at e; cases e; exact .inr (Nat.le_refl _)

end Go.Proofs.YtjaacdapibokiaaDoor

/- impl's OrderSlots, OrderDigests and OrderWave, each by a walk of its text; conditions: lists are shorter than 2^40 (a graph: 2^20). -/
namespace Go.Proofs.YtjaacdapibokiaaDoor
open Go.RowKit

def slN (v : Vx) : List Int := [v.r, v.a]
theorem OwnN.ne_str {E t : TypeId} {sz : Nat} {w : World} {B M : Nat} {v : Value} {es : List (List Int)} {vs : Array Value} (h : OwnN E sz w B v es) (s : Str w M t vs) (hne : E ≠ t) : v.ownBlock ≠ some M := by
  intro e
  rcases h.row.2 with ⟨rfl, _⟩ | ⟨g, cap, cur, rfl, _, hg, _⟩
  · cases e
  · have : g = M := by simpa [Value.ownBlock] using e
    subst this
    rw [show w.heap[g]? = _ from s] at hg
    simp only [Option.some.injEq, Obj.cells.injEq] at hg
    exact hne hg.2.1.symm
theorem OwnN.apartP {E E' : TypeId} {sz : Nat} {w : World} {B B' : Nat} {v u : Value} {es : List (List Int)} {qs : List Nat} (h : OwnN E sz w B v es) (h' : OwnP E' w B' u qs) (hE : E ≠ E') : u.ownBlock = none ∨ u.ownBlock ≠ v.ownBlock := by
  rcases h'.2 with ⟨rfl, _⟩ | ⟨g, cap, cur, rfl, _, hg, _⟩
  · exact .inl rfl
  · refine .inr fun e => ?_
    exact h.ne_str (t := E') (vs := cur) (M := g) hg hE (by rw [← e]; rfl)
/-- The ordered vertices in memory, while another list is built. -/
structure Ovs (w : World) (lo hi : Nat) (h : Nat → Value) (v : Value) (M : List Vx) : Prop where
  row : OwnP 48 w hi v (M.map (qV h))
  vs : ∀ y ∈ M, Vs w lo h y
theorem Ovs.below {w w' : World} {lo hi : Nat} {h : Nat → Value} {v : Value} {M : List Vx} (o : Ovs w lo hi h v M) (hb : Below w.heap.size w w') : Ovs w' lo hi h v M :=
  ⟨o.row.below hb, fun y hy => by obtain ⟨pa, pc, pv, s, hl⟩ := o.vs y hy; exact ⟨pa, pc, pv, (hb.block _ s.lt).trans s, hl⟩⟩
theorem Ovs.step {w w' : World} {lo hi : Nat} {h : Nat → Value} {v : Value} {M : List Vx} {row : Option Nat} (o : Ovs w lo hi h v M) (hg : w.grownBy w' row) (h1 : v.ownBlock = none ∨ v.ownBlock ≠ row) (h2 : ∀ y ∈ M, row ≠ some (qV h y)) : Ovs w' lo hi h v M :=
  ⟨o.row.kept hg h1, fun y hy => by obtain ⟨pa, pc, pv, s, hl⟩ := o.vs y hy; exact ⟨pa, pc, pv, s.kept hg (fun e => h2 y hy e.symm), hl⟩⟩
theorem ord_mem_g {c : List Int} {g : List Vx} {ls : List Int} {O : List Nat} (ok : CwOk c g ls O) : ∀ y ∈ ordV g ls O, y ∈ g := fun y hy => by
  obtain ⟨k, hk, rfl⟩ := List.mem_map.1 hy
  have := ((ord_mem fun v hv => (ok.mem v hv).1).1 hk).1
  rw [getV this]; exact List.getElem_mem this
theorem ordV_len {c : List Int} {g : List Vx} {ls : List Int} {O : List Nat} (ok : CwOk c g ls O) : (ordV g ls O).length ≤ g.length := by
  have := ordK_len ok O.length
  rwa [ordK_end] at this
/-- What OrderSlots answers. -/
def SlotsPost (w : World) (c : List Int) (g : List Vx) (ls : List Int) (e : Ending) (w' : World) : Prop := ∃ u, e = .returned u ∧ OwnN 32 2 w' w.heap.size u ((osS c g ls).map fun s => [s.1, s.2]) ∧ Below w.heap.size w w'

theorem sl_inf : (Tryd.prog.info? 32).map (fun i => (i.zero, i.size, i.bytes)) = some (some (.agg #[.int .i64 0, .int .i64 0]), 2, 16) := by kernel_rfl
theorem TSl : Tryd.prog.underlying 27 = some (.slice 32) := Tryd.underlying27
set_option maxRecDepth 8000 in
set_option maxHeartbeats 2000000 in
theorem impl_OrderSlots (ac : Option Addr) (capc : Nat) (c : List Int) (g : List Vx) (v : Value) (fp : List Nat) (al : Option Addr) (cap : Nat) (ls : List Int) (eN eI : Addr) (w : World) (hn : c.length ≤ 1099511627776) (hbig : g.length ≤ 1048575) (hps : ∀ x ∈ g, x.ps.length ≤ 1099511627776) (hl : ls.length ≤ 1099511627776) (hc : IntsAt w ac c) (hg : Gr w g v fp) (hi : IntsAt w al ls) (hs : Sen w eN eI) :
    Calls Tryd.prog 5 #[.slice ac c.length capc, v, .slice al ls.length cap] w (SlotsPost w c g ls) := by
  have hal : Below w.heap.size w (w.alloc (.cells #[] 32)) := (Below.refl _ _).alloc (Nat.le_refl _) _
  have Ho := Lib.hid (OwnN.empty 32 2 w)
  cases hw : waB c g ls with
  | false =>
    have hres := Lib.hid (show (osS c g ls).map (fun s => [s.1, s.2]) = [] by rw [osS_no hw]; rfl)
    have H := Lib.hid (orderOf_no ac capc c g v fp al cap ls eN eI _ hn hbig hps hl (hc.below hal) (hg.under hal) (hi.below hal) (hs.below hal) hw)
    have Hal := Lib.hid hal
    clear hc hg hi hps hs hw
    unfold SlotsPost
    go_enter Tryd.func5, Tryd.ntmps5
    go_wp2_with fail
    refine H.out.mono ?_
    rintro e w1 ⟨rfl, hb1⟩
    have Hb1 := Lib.hid (below_step Hal.out Hal.out.size hb1)
    have Ho1 := Lib.hid (Ho.out.below hb1)
    clear hb1
    go_wp2
    go_ret
    exact ⟨_, rfl, by rw [hres.out]; exact Ho1.out, Hb1.out⟩
  | true =>
    have hres := Lib.hid (show (osS c g ls).map (fun s => [s.1, s.2]) = (ordV g ls (cwN c g ls)).map slN by rw [osS_ordV hw, List.map_map]; rfl)
    have H := Lib.hid (orderOf_yes ac capc c g v fp al cap ls eN eI _ hn hbig hps hl (hc.below hal) (hg.under hal) (hi.below hal) (hs.below hal) hw)
    have hcok := (cwN_ok hw hps).2
    have hml := Nat.le_trans (ordV_len hcok) hbig
    have Hmem := Lib.hid (ord_mem_g hcok)
    have Hal := Lib.hid hal
    unfold SlotsPost
    rw [hres.out]
    clear hc hg hi hps hs hw hcok hres
    unfold OrdPost at H
    generalize ordV g ls (cwN c g ls) = M at *
    go_enter Tryd.func5, Tryd.ntmps5
    go_wp2_with fail
    refine H.out.mono ?_
    rintro e w1 ⟨B, lo, hi, h, vs, wt, wv, rfl, o, _, hvs, hb1⟩
    have Hb1 := Lib.hid (below_step Hal.out Hal.out.size hb1)
    have Ho1 := Lib.hid (Ho.out.below hb1)
    have hz1 := hb1.size
    rw [World.size_alloc] at hz1
    have c0 := o.cvs
    obtain ⟨av, cv, rfl, _⟩ := o.ov.slice
    have Hvs := Lib.hid (⟨o.ov, fun y hy => hvs y (Hmem.out y hy)⟩ : Ovs w1 lo hi h _ M)
    rw [List.length_map] at *
    clear hb1 o hvs hal
    go_wp2_with fail
    go_loopw [7, 28] (fun u i wr => ∃ k : Nat, k ≤ M.length ∧ i = .int .i64 k ∧ OwnN 32 2 wr w.heap.size u ((M.take k).map slN) ∧ Ovs wr lo hi h (.slice av M.length cv) M ∧ Below w.heap.size w wr) (fun _ i _ => M.length - (intOf i).toNat)
    case atStart => exact ⟨0, by omega, rfl, Ho1.out, Hvs.out, Hb1.out⟩
    case round =>
      obtain ⟨k, hk, rfl, hu, ho, hb⟩ := hrel
      have Hu := Lib.hid hu; have Hb := Lib.hid hb; have Hvo := Lib.hid ho
      have hzr := hb.size
      by_cases hlt : k < M.length
      · obtain ⟨gv, cap', ep, _, hgl, _, hcell, _⟩ := ho.row.row (by rw [List.length_map]; omega)
        simp only [Value.slice.injEq, List.length_map, true_and] at ep
        obtain ⟨rfl, rfl⟩ := ep
        have ck := hcell k (by rw [List.length_map]; exact hlt)
        rw [List.getElem_map] at ck
        obtain ⟨pa, pc, pv, sr, _⟩ := ho.vs M[k] (List.getElem_mem hlt)
        have hnx : (M.take (k + 1)).map slN = (M.take k).map slN ++ [slN M[k]] := by rw [List.take_succ_eq_append_getElem hlt, List.map_append, List.map_singleton]
        have Hnx := Lib.hid hnx
        have hlk : ((M.take k).map slN).length ≤ k := by rw [List.length_map, List.length_take]; omega
        have hql := sr.lt
        have c1 := sr.cell 0 (v := .int .i64 M[k].r) rfl
        have c2 := sr.cell 1 (v := .int .i64 M[k].a) rfl
        have c3 := sr.cell 3 (v := .int .i64 M[k].d) rfl
        have Hsr := Lib.hid sr
        unfold ptrV at ck
        generalize (M.take k).map slN = es at *
        generalize qV h M[k] = q at *
        generalize M[k] = x at *
        obtain ⟨xr, xa, xp, xd⟩ := x
        dsimp only at *
        clear hcell sr hu hb hnx ho
        go_wp2_with fail
        refine wp_region_held_drew (S := fun W => W.cell? ⟨q, 0, none⟩ = some (.int .i64 xr) ∧ W.cell? ⟨q, 1, none⟩ = some (.int .i64 xa)) (by kernel_rfl) ⟨c1, c2⟩ (fun hH => ?_)
        have Hud := Lib.hid (show OwnN 32 2 wr.drew w.heap.size u7 es from Hu.out.below (Below.refl _ _).drew)
        have Hbd := Lib.hid (show Below w.heap.size w wr.drew from Hb.out.drew)
        have Hvd := Lib.hid (show Ovs wr.drew _ _ _ _ _ from Hvo.out.below (Below.refl _ _).drew)
        have hwz : w.heap.size ≤ wr.drew.heap.size := Hbd.out.size
        have Hsd := Lib.hid (show Str wr.drew q _ _ from Hsr.out)
        have hqd : q < wr.drew.heap.size := hql
        generalize wr.drew = W0 at *
        refine takeH 0 (v := ?vos1) rfl (by kernel_rfl) (by kernel_rfl) (by kernel_rfl) (fun _ _ _ h => h) hH rfl ?yos1 ?ros1
        case yos1 => intro W hSw; go_simp; try with_reducible rfl
        try simp only [Act.put, List.setIfInBounds_toArray, List.set_cons_zero, List.set_cons_succ]
        refine takeH 1 (v := ?vos2) rfl (by kernel_rfl) (by kernel_rfl) (by kernel_rfl) (fun _ _ _ h => h) hH rfl ?yos2 ?ros2
        case yos2 => intro W hSw; go_simp; try with_reducible rfl
        try simp only [Act.put, List.setIfInBounds_toArray, List.set_cons_zero, List.set_cons_succ]
        refine takeH 2 (v := ?vos3) rfl (by kernel_rfl) (by kernel_rfl) (by kernel_rfl) (fun _ _ _ h => h) hH rfl ?yos3 ?ros3
        case yos3 => intro W hSw; go_simp; try with_reducible rfl
        try simp only [Act.put, List.setIfInBounds_toArray, List.set_cons_zero, List.set_cons_succ]
        refine takeH 3 (v := ?vos4) rfl (by kernel_rfl) (by kernel_rfl) (by kernel_rfl) (fun _ _ _ h => h) hH rfl ?yos4 ?ros4
        case yos4 => intro W hSw; go_simp; try with_reducible rfl
        try simp only [Act.put, List.setIfInBounds_toArray, List.set_cons_zero, List.set_cons_succ]
        refine takeH 4 (v := ?vos5) rfl (by kernel_rfl) (by kernel_rfl) (by kernel_rfl) (fun _ _ _ h => h) hH rfl ?yos5 ?ros5
        case yos5 => intro W hSw; go_simp; try with_reducible rfl
        try simp only [Act.put, List.setIfInBounds_toArray, List.set_cons_zero, List.set_cons_succ]
        refine takeH 5 (v := ?vos6) rfl (by kernel_rfl) (by kernel_rfl) (by kernel_rfl) (fun _ _ _ h => h) hH rfl ?yos6 ?ros6
        case yos6 => intro W hSw; go_simp; try with_reducible rfl
        try simp only [Act.put, List.setIfInBounds_toArray, List.set_cons_zero, List.set_cons_succ]
        refine takeH 6 (v := ?vos7) rfl (by kernel_rfl) (by kernel_rfl) (by kernel_rfl) (fun _ _ _ h => h) hH rfl ?yos7 ?ros7
        case yos7 => intro W hSw; go_simp; try with_reducible rfl
        try simp only [Act.put, List.setIfInBounds_toArray, List.set_cons_zero, List.set_cons_succ]
        refine takeH 7 (v := ?vos8) rfl (by kernel_rfl) (by kernel_rfl) (by kernel_rfl) (fun _ _ _ h => h) hH rfl ?yos8 ?ros8
        case yos8 => intro W hSw; go_simp; try with_reducible rfl
        try simp only [Act.put, List.setIfInBounds_toArray, List.set_cons_zero, List.set_cons_succ]
        refine takeH 8 (v := ?vos9) rfl (by kernel_rfl) (by kernel_rfl) (by kernel_rfl) (fun _ _ _ h => h) hH rfl ?yos9 ?ros9
        case yos9 => intro W hSw; go_simp; try with_reducible rfl
        try simp only [Act.put, List.setIfInBounds_toArray, List.set_cons_zero, List.set_cons_succ]
        refine takeH 9 (v := ?vos10) rfl (by kernel_rfl) (by kernel_rfl) (by kernel_rfl) (fun _ _ _ h => h) hH rfl ?yos10 ?ros10
        case yos10 => intro W hSw; go_simp; try with_reducible rfl
        try simp only [Act.put, List.setIfInBounds_toArray, List.set_cons_zero, List.set_cons_succ]
        refine takeH 10 (v := ?vos11) rfl (by kernel_rfl) (by kernel_rfl) (by kernel_rfl) (fun _ _ _ h => h) hH rfl ?yos11 ?ros11
        case yos11 => intro W hSw; go_simp; try with_reducible rfl
        try simp only [Act.put, List.setIfInBounds_toArray, List.set_cons_zero, List.set_cons_succ]
        refine takeH 11 (v := ?vos12) rfl (by kernel_rfl) (by kernel_rfl) (by kernel_rfl) (fun _ _ _ h => h) hH rfl ?yos12 ?ros12
        case yos12 => intro W hSw; go_simp; try with_reducible rfl
        try simp only [Act.put, List.setIfInBounds_toArray, List.set_cons_zero, List.set_cons_succ]
        refine callH 12 rfl (by kernel_rfl) rfl (fun K hK => ?_)
        go_simp
        have hal : Below W0.heap.size W0 (W0.alloc (.cells #[.int .i64 xr, .int .i64 xa] 32)) := (Below.refl _ _).alloc (Nat.le_refl _) _
        have Hal2 := Lib.hid hal
        have Hun := Lib.hid (Hud.out.below hal)
        have Hsn := Lib.hid (show Str (W0.alloc (.cells #[.int .i64 xr, .int .i64 xa] 32)) q _ _ from (hal.block _ hqd).trans Hsd.out)
        have Hsrc := Lib.hid (show SrcN (W0.alloc (.cells #[.int .i64 xr, .int .i64 xa] 32)) ⟨W0.heap.size, 0, none⟩ [slN ⟨xr, xa, xp, xd⟩] from SrcN.new W0 32 [xr, xa])
        refine hK.out _ _ ⟨(hal.cell (p := ⟨q, 0, none⟩) hqd).trans hH.1, (hal.cell (p := ⟨q, 1, none⟩) hqd).trans hH.2⟩ (fun hH => ?_)
        clear hK K
        try simp only [Act.put, List.setIfInBounds_toArray, List.set_cons_zero, List.set_cons_succ]
        clear hal
        refine callH 13 rfl (by kernel_rfl) rfl (fun K hK => ?_)
        refine op_app_N TSl sl_inf rfl (by decide) (by decide) (.tmp 32) (.tmp 44) rfl w.heap.size u7 es [slN ⟨xr, xa, xp, xd⟩] _ 1 rfl Hun.out rfl (by intro e he; simp at he; subst he; rfl) (.inr ⟨_, rfl, Hsrc.out⟩) (by simp; omega) (by rw [World.size_alloc]; omega) ?_
        intro v8 w8 hown8 hg8 hloc8
        have hne := Hun.out.ne_str Hsn.out (by decide)
        have s8 := Str.kept Hsn.out hg8 (fun e => hne e.symm)
        have Hown8 := Lib.hid hown8
        have Hvn := Lib.hid (Hvd.out.below Hal2.out)
        have Hv8 := Lib.hid (Hvn.out.step hg8 (Hun.out.apartP Hvn.out.row (by decide)) (fun y hy => by obtain ⟨_, _, _, sy, _⟩ := Hvn.out.vs y hy; exact Hun.out.ne_str sy (by decide)))
        have Hb8 := Lib.hid ((Hbd.out.alloc hwz _).grown hg8 (by rw [World.size_alloc]; omega) (fun p e => (Hun.out.lt p e).1))
        clear hown8 hg8 hloc8 hne
        obtain ⟨a8, n8, e8, hm8⟩ := Hown8.out.slice
        rw [List.length_append, List.length_singleton] at e8
        subst e8
        clear hm8
        refine hK.out _ _ ⟨s8.cell 0 rfl, s8.cell 1 rfl⟩ (fun hH => ?_)
        clear hK K
        try simp only [Act.put, List.setIfInBounds_toArray, List.set_cons_zero, List.set_cons_succ]
        refine takeH 14 (v := ?vos13) rfl (by kernel_rfl) (by kernel_rfl) (by kernel_rfl) (fun _ _ _ h => h) hH rfl ?yos13 ?ros13
        case yos13 => intro W hSw; go_simp; try with_reducible rfl
        try simp only [Act.put, List.setIfInBounds_toArray, List.set_cons_zero, List.set_cons_succ]
        refine wpAnyH_done (by kernel_rfl) ?_ _
        try simp only [Act.put]
        clear hH c1 c2 c3 ck
        go_wp2
        go_roundw
        case rel => exact ⟨k + 1, by omega, by go_num, by rw [Hnx.out]; exact Hown8.out, Hv8.out, Hb8.out⟩
        case measure => simp [intOf]; omega
      · have hkl : M.take k = M := List.take_of_length_le (by omega)
        rw [hkl] at Hu
        clear hkl hu hb ho
        go_wp2
        go_ret
        exact ⟨_, rfl, Hu.out, Hb.out⟩

def slD (v : Vx) : Int := v.d
/-- What OrderDigests answers. -/
def DigPost (w : World) (c : List Int) (g : List Vx) (ls : List Int) (e : Ending) (w' : World) : Prop := ∃ u, e = .returned u ∧ Own 3 w' w.heap.size u (osD c g ls) ∧ Below w.heap.size w w'

end Go.Proofs.YtjaacdapibokiaaDoor

/- The reference's order, OrderSlots, OrderDigests and OrderWave, each by a walk of its text; conditions: lists are shorter than 2^40 (a graph: 2^20). -/
namespace Go.Proofs.YtjaacdapibokiaaDoor
open Go.RowKit

theorem OwnN.apartI {E E' : TypeId} {sz : Nat} {w : World} {B B' : Nat} {v u : Value} {es : List (List Int)} {xs : List Int} (h : OwnN E sz w B v es) (h' : Own E' w B' u xs) (hE : E ≠ E') : u.ownBlock = none ∨ u.ownBlock ≠ v.ownBlock := by
  rcases h'.2 with ⟨rfl, _⟩ | ⟨g, cap, cur, rfl, _, hg, _⟩
  · exact .inl rfl
  · refine .inr fun e => ?_
    exact h.ne_str (t := E') (vs := cur) (M := g) hg hE (by rw [← e]; rfl)
theorem waA {c : List Int} {g : List Vx} {ls : List Int} (h : waB c g ls = true) : graphB c g = true ∧ ls.length ≤ 15 := by
  unfold waB at h; simp only [Bool.and_eq_true] at h; exact ⟨h.1, (ldAt h.2).1⟩

set_option maxHeartbeats 4000000 in
set_option maxRecDepth 8000 in
theorem spec_l22Order (ac : Option Addr) (capc : Nat) (c : List Int) (g : List Vx) (v : Value) (fp : List Nat) (al : Option Addr) (cap : Nat) (ls : List Int) (w : World) (hwa : waB c g ls = true) (hbig : g.length ≤ 1048575) (hps : ∀ x ∈ g, x.ps.length ≤ 1099511627776) (hc : IntsAt w ac c) (hg : Gr w g v fp) (hi : IntsAt w al ls) :
    Calls Tryd.prog 13 #[.slice ac c.length capc, v, .slice al ls.length cap] w fun e w' => ∃ u, e = .returned u ∧ Own 3 w' w.heap.size u ((osI c g ls).map Int.ofNat) ∧ Below w.heap.size w w' := by
  have h15 := (waA hwa).2
  have hcok := (cwN_ok hwa hps).2
  have hb1 : Below w.heap.size w (w.alloc (.cells #[] 3)) := (Below.refl _ _).alloc (Nat.le_refl _) _
  have ho1 := own_empty 3 w (Nat.le_refl w.heap.size)
  have hz1 : (w.alloc (.cells #[] 3)).heap.size = w.heap.size + 1 := by simp
  obtain ⟨va, vc, rfl⟩ := hg.slice
  have HW := Lib.hid (spec_l22Waves ac capc c g (.slice va g.length vc) fp al cap ls _ hwa (by omega) hps (hc.below hb1) (hg.under hb1) (hi.below hb1))
  have Hend := Lib.hid (show orK g ls (cwN c g ls) (ls.length + 1) 0 = osI c g ls by rw [osI_yes hwa]; exact orK_end hcok.asc fun v hv => ⟨(hcok.mem v hv).1, (hcok.mem v hv).2.1⟩)
  have Hlen := Lib.hid (fun w k => orK_len (g := g) (ls := ls) (O := cwN c g ls) w k)
  have HB15 := Lib.hid (show ∀ v ∈ cwN c g ls, v ≤ 15 from fun v hv => by have := (hcok.mem v hv).2.1; omega)
  have Ho1 := Lib.hid ho1; have Hb1 := Lib.hid hb1
  have Hyes := Lib.hid (fun w k => orK_yes (g := g) (ls := ls) (O := cwN c g ls) (w := w) (k := k))
  have Hno := Lib.hid (fun w k => orK_no (g := g) (ls := ls) (O := cwN c g ls) (w := w) (k := k))
  have Hrow := Lib.hid (fun w => orK_row (g := g) (ls := ls) (O := cwN c g ls) (w := w))
  have H0 := Lib.hid (orK_zero g ls (cwN c g ls))
  generalize osI c g ls = OI at *
  generalize hO : cwN c g ls = O at *
  clear hc hg hi hps hwa hcok ho1 hO
  go_enter Tryd.func13, Tryd.ntmps13
  go_wp2_with fail
  generalize w.alloc (.cells #[] 3) = w1 at *
  refine HW.out.mono ?_
  rintro e w2 ⟨uw, rfl, how, hb2⟩
  have hs2 := hb2.size
  have Ho2 := Lib.hid (Ho1.out.below hb2)
  have Hb2 := Lib.hid (below_step Hb1.out Hb1.out.size hb2)
  obtain ⟨aw, cw, rfl, _, _⟩ := how.ints
  rw [owL_len] at *
  have Hw2 := Lib.hid how
  clear hb1 hb2 how HW Ho1 Hb1
  generalize hLO : w.heap.size = LO at *
  rw [hz1] at Hw2
  go_wp2_with fail
  go_loopw [7, 9, 10] (fun u ww _ wr => ∃ m : Nat, 1 ≤ m ∧ m ≤ ls.length + 1 ∧ ww = .int .i64 m ∧ Own 3 wr LO u ((orK g ls O m 0).map Int.ofNat) ∧ (∀ q, u.ownBlock = some q → q = LO ∨ w2.heap.size ≤ q) ∧ Own 3 wr (LO + 1) (.slice aw g.length cw) (owL g ls O) ∧ w2.heap.size ≤ wr.heap.size ∧ Below LO w wr) (fun _ ww _ _ => ls.length + 1 - (intOf ww).toNat)
  case atStart => exact ⟨1, by omega, by omega, rfl, by rw [H0.out]; exact Ho2.out, fun q e => by simp [Value.ownBlock] at e; omega, Hw2.out, Nat.le_refl _, Hb2.out⟩
  case round =>
    obtain ⟨m, hm1, hm2, rfl, ho, hq, hw, hz, hb⟩ := hrel
    have Ho := Lib.hid ho; have Hq := Lib.hid hq; have Hw := Lib.hid hw; have Hb := Lib.hid hb
    clear ho hq hw hb
    by_cases hlt : m ≤ ls.length
    · have hlt' : (m : Int) ≤ (ls.length : Int) := by omega
      go_wp2
      go_loopw [7, 10] (fun u kk wr => ∃ k : Nat, k ≤ g.length ∧ kk = .int .i64 k ∧ Own 3 wr LO u ((orK g ls O m k).map Int.ofNat) ∧ (∀ q, u.ownBlock = some q → q = LO ∨ w2.heap.size ≤ q) ∧ Own 3 wr (LO + 1) (.slice aw g.length cw) (owL g ls O) ∧ w2.heap.size ≤ wr.heap.size ∧ Below LO w wr) (fun _ kk _ => g.length - (intOf kk).toNat)
      case atStart => exact ⟨0, by omega, rfl, Ho.out, Hq.out, Hw.out, hz, Hb.out⟩
      case round =>
        obtain ⟨k, hk, rfl, ho, hq, hw, hzr, hb⟩ := hrel
        have Ho3 := Lib.hid ho; have Hq3 := Lib.hid hq; have Hw3 := Lib.hid hw; have Hb3 := Lib.hid hb
        have hkl := Hlen.out m k hk
        clear ho hq hw hb
        by_cases hlk : k < g.length
        · have hlk' : (k : Int) < (g.length : Int) := by omega
          obtain ⟨gw, cw', ep, hgw, hgl, _, hcell, _⟩ := Own.row Hw3.out (by rw [owL_len]; omega)
          have hg2 : gw < w2.heap.size := (Hw2.out.lt gw (by rw [ep]; rfl)).2
          simp only [Value.slice.injEq, owL_len, true_and] at ep
          obtain ⟨rfl, rfl⟩ := ep
          have ck := hcell k (by rw [owL_len]; exact hlk)
          rw [show (owL g ls O)[k]'(by rw [owL_len]; exact hlk) = ((owN g ls O k : Nat) : Int) from fnL_get _] at ck
          have hxb := ow_bd (g := g) (ls := ls) HB15.out k
          have Hy := Lib.hid (Hyes.out m k); have Hn := Lib.hid (Hno.out m k)
          have hol : ((orK g ls O m k).map Int.ofNat).length ≤ 1099511627776 := by
            rw [List.length_map]
            have : (m - 1) * g.length ≤ 15 * 1048575 := Nat.mul_le_mul (by omega) hbig
            omega
          generalize owN g ls O k = X at *
          clear hcell
          by_cases hX : X = m
          · have hX' : ((X : Int) == (m : Int)) = true := by rw [beq_iff_eq]; omega
            have Hy2 := Lib.hid (show (orK g ls O m (k + 1)).map Int.ofNat = (orK g ls O m k).map Int.ofNat ++ [(k : Int)] by rw [Hy.out hX, List.map_append]; rfl)
            clear hX Hy Hn
            generalize (orK g ls O m k).map Int.ofNat = es at *
            have hwz : LO ≤ wr.heap.size := by omega
            have hq3 := Hq3.out
            go_wp2_with (at_builtin; refine wpList_push_at TIw rfl (.tmp 34) (.tmp 36) rfl LO u7 es _ rfl Ho3.out hol rfl hwz ?_; intro v5 w5 hown5 hg5 hloc5)
            have Ho5 := Lib.hid hown5
            have Hb5 := Lib.hid (Hb3.out.grown hg5 hwz (fun p e => (Ho3.out.lt p e).1))
            have Hq5 := Lib.hid (show ∀ q, v5.ownBlock = some q → q = LO ∨ w2.heap.size ≤ q from fun q e => by
              rcases hloc5 with h5 | ⟨p, h5, h6⟩
              · exact hq3 q (by rw [← h5]; exact e)
              · rw [h5] at e; cases e; exact .inr (by omega))
            have Hw5 := Lib.hid (Hw3.out.kept hg5 (.inr (fun e => by have e' : u7.ownBlock = some gw := e.symm; rcases hq3 gw e' with h | h <;> omega)))
            have hs5 := hg5.size
            clear hown5 hloc5 ck
            go_roundw
            case rel => exact ⟨k + 1, by omega, by go_num, by rw [Hy2.out]; exact Ho5.out, Hq5.out, Hw5.out, by omega, Hb5.out⟩
            case measure => simp [intOf]; omega
          · have hX' : ((X : Int) == (m : Int)) = false := by rw [beq_eq_false_iff_ne]; omega
            have Hn2 := Lib.hid (Hn.out hX)
            clear hX Hy Hn
            go_wp2
            go_roundw
            case rel => exact ⟨k + 1, by omega, by go_num, by rw [Hn2.out]; exact Ho3.out, Hq3.out, Hw3.out, hzr, Hb3.out⟩
            case measure => simp [intOf]; omega
        · have hkl : k = g.length := by omega
          subst hkl
          have Hr := Lib.hid (Hrow.out m hm1)
          go_wp2
          go_roundw
          case rel => exact ⟨m + 1, by omega, by omega, by go_num, by rw [← Hr.out]; exact Ho3.out, Hq3.out, Hw3.out, hzr, Hb3.out⟩
          case measure => simp [intOf]; omega
    · have hml : m = ls.length + 1 := by omega
      subst hml
      rw [Hend.out] at Ho
      go_wp2
      go_ret
      exact ⟨_, rfl, by rw [hLO]; exact Ho.out, by rw [hLO]; exact Hb.out⟩


set_option maxRecDepth 8000 in
set_option maxHeartbeats 2000000 in
theorem spec_OrderSlots (ac : Option Addr) (capc : Nat) (c : List Int) (g : List Vx) (v : Value) (fp : List Nat) (al : Option Addr) (cap : Nat) (ls : List Int) (w : World) (hn : c.length ≤ 1099511627776) (hbig : g.length ≤ 1048575) (hps : ∀ x ∈ g, x.ps.length ≤ 1099511627776) (hl : ls.length ≤ 1099511627776) (hc : IntsAt w ac c) (hg : Gr w g v fp) (hi : IntsAt w al ls) :
    Calls Tryd.prog 6 #[.slice ac c.length capc, v, .slice al ls.length cap] w (SlotsPost w c g ls) := by
  have hal : Below w.heap.size w (w.alloc (.cells #[] 32)) := (Below.refl _ _).alloc (Nat.le_refl _) _
  have Ho := Lib.hid (OwnN.empty 32 2 w)
  have hz0 : (w.alloc (.cells #[] 32)).heap.size = w.heap.size + 1 := by simp
  have HV := Lib.hid (spec_l21Ok ac capc c g v fp al cap ls _ hn (by omega) hps hl (hc.below hal) (hg.under hal) (hi.below hal))
  have Hal := Lib.hid hal
  unfold SlotsPost
  cases hw : waB c g ls with
  | false =>
    have hres := Lib.hid (show (osS c g ls).map (fun s => [s.1, s.2]) = [] by rw [osS_no hw]; rfl)
    rw [hw] at HV
    clear hc hg hi hps hw hal hz0
    go_enter Tryd.func6, Tryd.ntmps6
    go_wp2_with fail
    refine HV.out.mono ?_
    rintro e w1 ⟨rfl, hb1⟩
    have Hb1 := Lib.hid (below_step Hal.out Hal.out.size hb1)
    have Ho1 := Lib.hid (Ho.out.below hb1)
    clear hb1
    go_wp2
    go_ret
    exact ⟨_, rfl, by rw [hres.out]; exact Ho1.out, Hb1.out⟩
  | true =>
    have hres := Lib.hid (show (osS c g ls).map (fun s => [s.1, s.2]) = (osI c g ls).map (fun j => slN (g.getD j vx0)) by unfold osS; rw [List.map_map]; rfl)
    rw [hw] at HV
    have HO := Lib.hid (fun W (hb : Below w.heap.size w W) => spec_l22Order ac capc c g v fp al cap ls W hw hbig hps (hc.below hb) (hg.under hb) (hi.below hb))
    have hml := Nat.le_trans (osI_len (c := c) (ls := ls) hps) hbig
    have Hlt := Lib.hid (osI_lt (c := c) (ls := ls) hps)
    obtain ⟨va, vc, rfl⟩ := hg.slice
    have Hgr := Lib.hid (fun W (hb : Below w.heap.size w W) => hg.under hb)
    rw [hres.out]
    generalize osI c g ls = OI at *
    clear hc hg hi hps hw hres hal
    go_enter Tryd.func6, Tryd.ntmps6
    go_wp2_with fail
    generalize w.alloc (.cells #[] 32) = w0 at *
    refine HV.out.mono ?_
    rintro e w1 ⟨rfl, hb1⟩
    have hs1 := hb1.size
    have Hb1 := Lib.hid (below_step Hal.out Hal.out.size hb1)
    have Ho1 := Lib.hid (Ho.out.below hb1)
    clear hb1
    go_wp2_with fail
    refine (HO.out w1 Hb1.out).mono ?_
    rintro e w2 ⟨ul, rfl, hol, hb2⟩
    have hs2 := hb2.size
    have Hb2 := Lib.hid (below_step Hb1.out (by omega) hb2)
    have Ho2 := Lib.hid (Ho1.out.below hb2)
    have Hl2 := Lib.hid (hol.mono (show w.heap.size + 1 ≤ w1.heap.size by omega))
    obtain ⟨la, lc, rfl, _, _⟩ := hol.ints
    rw [List.length_map] at *
    have Hl0 := Lib.hid (show ∀ q, (Value.slice la OI.length lc).ownBlock = some q → q < w2.heap.size from fun q e => (hol.lt q e).2)
    clear hol hb2
    generalize hLO : w.heap.size = LO at *
    go_wp2_with fail
    go_loopw [7, 9] (fun u i wr => ∃ k : Nat, k ≤ OI.length ∧ i = .int .i64 k ∧ OwnN 32 2 wr LO u ((OI.take k).map (fun j => slN (g.getD j vx0))) ∧ Own 3 wr (LO + 1) (.slice la OI.length lc) (OI.map Int.ofNat) ∧ Below LO w wr) (fun _ i _ => OI.length - (intOf i).toNat)
    case atStart => exact ⟨0, by omega, rfl, Ho2.out, Hl2.out, Hb2.out⟩
    case round =>
      obtain ⟨k, hk, rfl, hu, hl', hb⟩ := hrel
      have Hu := Lib.hid hu; have Hb := Lib.hid hb; have Hl := Lib.hid hl'
      have hzr := hb.size
      by_cases hlt : k < OI.length
      · obtain ⟨gl, cl', ep, hgl0, hgl, _, hcell, _⟩ := Own.row hl' (by rw [List.length_map]; omega)
        simp only [Value.slice.injEq, List.length_map, true_and] at ep
        obtain ⟨rfl, rfl⟩ := ep
        have ck := hcell k (by rw [List.length_map]; exact hlt)
        rw [List.getElem_map] at ck
        have hj := Hlt.out _ (List.getElem_mem hlt)
        have hnx : (OI.take (k + 1)).map (fun j => slN (g.getD j vx0)) = (OI.take k).map (fun j => slN (g.getD j vx0)) ++ [slN (g.getD OI[k] vx0)] := by rw [List.take_succ_eq_append_getElem hlt, List.map_append, List.map_singleton]
        have hlk : ((OI.take k).map (fun j => slN (g.getD j vx0))).length ≤ k := by rw [List.length_map, List.length_take]; omega
        generalize (OI.take k).map (fun j => slN (g.getD j vx0)) = es at *
        generalize OI[k] = j at *
        rw [getV hj] at hnx
        have Hnx := Lib.hid hnx
        have ck : wr.cell? ⟨gl, k, none⟩ = some (.int .i64 (j : Int)) := ck
        obtain ⟨b, off, hag, hbl, hat⟩ := (Hgr.out wr hb).at (by omega)
        have hbLO : b < LO := by
          obtain ⟨b', off', e', hb', _⟩ := (Hgr.out w (Below.refl _ _)).at (by omega)
          rw [hag] at e'; simp at e'; omega
        subst hag
        obtain ⟨c0, c1, _, c3⟩ := hat j hj
        have hjl : (j : Int) < (g.length : Int) := by omega
        have hkl' : (k : Int) < (OI.length : Int) := by omega
        generalize g[j] = x at *
        obtain ⟨xr, xa, xp, xd⟩ := x
        dsimp only at *
        clear hcell hat hu hl' hb hnx
        go_wp2_with fail
        refine wp_region_held_drew (S := fun W => W.cell? ⟨gl, k, none⟩ = some (.int .i64 (j : Int)) ∧ W.cell? ⟨b, off + j * 4, none⟩ = some (.int .i64 xr) ∧ W.cell? ⟨b, off + j * 4 + 1, none⟩ = some (.int .i64 xa)) (by kernel_rfl) ⟨ck, c0, c1⟩ (fun hH => ?_)
        have Hud := Lib.hid (show OwnN 32 2 wr.drew LO u7 es from Hu.out.below (Below.refl _ _).drew)
        have Hbd := Lib.hid (show Below LO w wr.drew from Hb.out.drew)
        have Hld := Lib.hid (show Own 3 wr.drew _ _ _ from Hl.out.below (Below.refl _ _).drew)
        have hwz : LO ≤ wr.drew.heap.size := by rw [← hLO]; exact Hbd.out.size
        have hgl2 : gl < wr.drew.heap.size := hgl
        have hbl2 : b < wr.drew.heap.size := hbl
        generalize wr.drew = W0 at *
        refine takeH 0 (v := ?vss1) rfl (by kernel_rfl) (by kernel_rfl) (by kernel_rfl) (fun _ _ _ h => h) hH rfl ?yss1 ?rss1
        case yss1 => intro W hSw; go_simp; try with_reducible rfl
        try simp only [Act.put, List.setIfInBounds_toArray, List.set_cons_zero, List.set_cons_succ]
        refine takeH 1 (v := ?vss2) rfl (by kernel_rfl) (by kernel_rfl) (by kernel_rfl) (fun _ _ _ h => h) hH rfl ?yss2 ?rss2
        case yss2 => intro W hSw; go_simp; try with_reducible rfl
        try simp only [Act.put, List.setIfInBounds_toArray, List.set_cons_zero, List.set_cons_succ]
        refine takeH 2 (v := ?vss3) rfl (by kernel_rfl) (by kernel_rfl) (by kernel_rfl) (fun _ _ _ h => h) hH rfl ?yss3 ?rss3
        case yss3 => intro W hSw; go_simp; try with_reducible rfl
        try simp only [Act.put, List.setIfInBounds_toArray, List.set_cons_zero, List.set_cons_succ]
        refine takeH 3 (v := ?vss4) rfl (by kernel_rfl) (by kernel_rfl) (by kernel_rfl) (fun _ _ _ h => h) hH rfl ?yss4 ?rss4
        case yss4 => intro W hSw; go_simp; try with_reducible rfl
        try simp only [Act.put, List.setIfInBounds_toArray, List.set_cons_zero, List.set_cons_succ]
        refine takeH 4 (v := ?vss5) rfl (by kernel_rfl) (by kernel_rfl) (by kernel_rfl) (fun _ _ _ h => h) hH rfl ?yss5 ?rss5
        case yss5 => intro W hSw; go_simp; try with_reducible rfl
        try simp only [Act.put, List.setIfInBounds_toArray, List.set_cons_zero, List.set_cons_succ]
        refine takeH 5 (v := ?vss6) rfl (by kernel_rfl) (by kernel_rfl) (by kernel_rfl) (fun _ _ _ h => h) hH rfl ?yss6 ?rss6
        case yss6 => intro W hSw; go_simp; try with_reducible rfl
        try simp only [Act.put, List.setIfInBounds_toArray, List.set_cons_zero, List.set_cons_succ]
        refine takeH 6 (v := ?vss7) rfl (by kernel_rfl) (by kernel_rfl) (by kernel_rfl) (fun _ _ _ h => h) hH rfl ?yss7 ?rss7
        case yss7 => intro W hSw; go_simp; try with_reducible rfl
        try simp only [Act.put, List.setIfInBounds_toArray, List.set_cons_zero, List.set_cons_succ]
        refine takeH 7 (v := ?vss8) rfl (by kernel_rfl) (by kernel_rfl) (by kernel_rfl) (fun _ _ _ h => h) hH rfl ?yss8 ?rss8
        case yss8 => intro W hSw; go_simp; try with_reducible rfl
        try simp only [Act.put, List.setIfInBounds_toArray, List.set_cons_zero, List.set_cons_succ]
        refine takeH 8 (v := ?vss9) rfl (by kernel_rfl) (by kernel_rfl) (by kernel_rfl) (fun _ _ _ h => h) hH rfl ?yss9 ?rss9
        case yss9 => intro W hSw; go_simp; try with_reducible rfl
        try simp only [Act.put, List.setIfInBounds_toArray, List.set_cons_zero, List.set_cons_succ]
        refine takeH 9 (v := ?vss10) rfl (by kernel_rfl) (by kernel_rfl) (by kernel_rfl) (fun _ _ _ h => h) hH rfl ?yss10 ?rss10
        case yss10 => intro W hSw; go_simp; try with_reducible rfl
        try simp only [Act.put, List.setIfInBounds_toArray, List.set_cons_zero, List.set_cons_succ]
        refine takeH 10 (v := ?vss11) rfl (by kernel_rfl) (by kernel_rfl) (by kernel_rfl) (fun _ _ _ h => h) hH rfl ?yss11 ?rss11
        case yss11 => intro W hSw; go_simp; try with_reducible rfl
        try simp only [Act.put, List.setIfInBounds_toArray, List.set_cons_zero, List.set_cons_succ]
        refine takeH 11 (v := ?vss12) rfl (by kernel_rfl) (by kernel_rfl) (by kernel_rfl) (fun _ _ _ h => h) hH rfl ?yss12 ?rss12
        case yss12 => intro W hSw; go_simp; try with_reducible rfl
        try simp only [Act.put, List.setIfInBounds_toArray, List.set_cons_zero, List.set_cons_succ]
        refine takeH 12 (v := ?vss13) rfl (by kernel_rfl) (by kernel_rfl) (by kernel_rfl) (fun _ _ _ h => h) hH rfl ?yss13 ?rss13
        case yss13 => intro W hSw; go_simp; try with_reducible rfl
        try simp only [Act.put, List.setIfInBounds_toArray, List.set_cons_zero, List.set_cons_succ]
        refine takeH 13 (v := ?vss14) rfl (by kernel_rfl) (by kernel_rfl) (by kernel_rfl) (fun _ _ _ h => h) hH rfl ?yss14 ?rss14
        case yss14 => intro W hSw; go_simp; try with_reducible rfl
        try simp only [Act.put, List.setIfInBounds_toArray, List.set_cons_zero, List.set_cons_succ]
        refine takeH 14 (v := ?vss15) rfl (by kernel_rfl) (by kernel_rfl) (by kernel_rfl) (fun _ _ _ h => h) hH rfl ?yss15 ?rss15
        case yss15 => intro W hSw; go_simp; try with_reducible rfl
        try simp only [Act.put, List.setIfInBounds_toArray, List.set_cons_zero, List.set_cons_succ]
        refine takeH 15 (v := ?vss16) rfl (by kernel_rfl) (by kernel_rfl) (by kernel_rfl) (fun _ _ _ h => h) hH rfl ?yss16 ?rss16
        case yss16 => intro W hSw; go_simp; try with_reducible rfl
        try simp only [Act.put, List.setIfInBounds_toArray, List.set_cons_zero, List.set_cons_succ]
        refine takeH 16 (v := ?vss17) rfl (by kernel_rfl) (by kernel_rfl) (by kernel_rfl) (fun _ _ _ h => h) hH rfl ?yss17 ?rss17
        case yss17 => intro W hSw; go_simp; try with_reducible rfl
        try simp only [Act.put, List.setIfInBounds_toArray, List.set_cons_zero, List.set_cons_succ]
        refine takeH 17 (v := ?vss18) rfl (by kernel_rfl) (by kernel_rfl) (by kernel_rfl) (fun _ _ _ h => h) hH rfl ?yss18 ?rss18
        case yss18 => intro W hSw; go_simp; try with_reducible rfl
        try simp only [Act.put, List.setIfInBounds_toArray, List.set_cons_zero, List.set_cons_succ]
        refine callH 18 rfl (by kernel_rfl) rfl (fun K hK => ?_)
        go_simp
        have hal : Below W0.heap.size W0 (W0.alloc (.cells #[.int .i64 xr, .int .i64 xa] 32)) := (Below.refl _ _).alloc (Nat.le_refl _) _
        have Hal2 := Lib.hid hal
        have Hun := Lib.hid (Hud.out.below hal)
        have Hln := Lib.hid (Hld.out.below hal)
        have Hsrc := Lib.hid (show SrcN (W0.alloc (.cells #[.int .i64 xr, .int .i64 xa] 32)) ⟨W0.heap.size, 0, none⟩ [slN ⟨xr, xa, xp, xd⟩] from SrcN.new W0 32 [xr, xa])
        refine hK.out _ _ ⟨(hal.cell (p := ⟨gl, k, none⟩) hgl2).trans hH.1, (hal.cell (p := ⟨b, off + j * 4, none⟩) hbl2).trans hH.2.1, (hal.cell (p := ⟨b, off + j * 4 + 1, none⟩) hbl2).trans hH.2.2⟩ (fun hH => ?_)
        clear hK K
        try simp only [Act.put, List.setIfInBounds_toArray, List.set_cons_zero, List.set_cons_succ]
        clear hal
        refine callH 19 rfl (by kernel_rfl) rfl (fun K hK => ?_)
        refine op_app_N TSl sl_inf rfl (by decide) (by decide) (.tmp 27) (.tmp 45) rfl LO u7 es [slN ⟨xr, xa, xp, xd⟩] _ 1 rfl Hun.out rfl (by intro e he; simp at he; subst he; rfl) (.inr ⟨_, rfl, Hsrc.out⟩) (by simp; omega) (by rw [World.size_alloc]; omega) ?_
        intro v8 w8 hown8 hg8 hloc8
        have Hown8 := Lib.hid hown8
        have hap := Hun.out.apartI Hln.out (by decide)
        have Hl8 := Lib.hid (Hln.out.kept hg8 hap)
        have Hb8 := Lib.hid ((Hbd.out.alloc hwz _).grown hg8 (by rw [World.size_alloc]; omega) (fun p e => (Hun.out.lt p e).1))
        have hb2 : ∀ q, some ((⟨b, q, none⟩ : Addr).block) ≠ u7.ownBlock := fun q e => by have := (Hun.out.lt b e.symm).1; omega
        have hgn : ∀ q, some ((⟨gl, q, none⟩ : Addr).block) ≠ u7.ownBlock := fun q e => by rcases hap with h | h; (· simp [Value.ownBlock] at h); exact h (by rw [← e]; rfl)
        have d0 := hg8.cell hH.1 (hgn _)
        have d1 := hg8.cell hH.2.1 (hb2 _)
        have d2 := hg8.cell hH.2.2 (hb2 _)
        clear hown8 hg8 hloc8 hap hb2 hgn
        obtain ⟨a8, n8, e8, hm8⟩ := Hown8.out.slice
        rw [List.length_append, List.length_singleton] at e8
        subst e8
        clear hm8
        refine hK.out _ _ ⟨d0, d1, d2⟩ (fun hH => ?_)
        clear hK K
        try simp only [Act.put, List.setIfInBounds_toArray, List.set_cons_zero, List.set_cons_succ]
        refine takeH 20 (v := ?vss19) rfl (by kernel_rfl) (by kernel_rfl) (by kernel_rfl) (fun _ _ _ h => h) hH rfl ?yss19 ?rss19
        case yss19 => intro W hSw; go_simp; try with_reducible rfl
        try simp only [Act.put, List.setIfInBounds_toArray, List.set_cons_zero, List.set_cons_succ]
        refine wpAnyH_done (by kernel_rfl) ?_ _
        try simp only [Act.put]
        clear hH c0 c1 c3 ck
        go_wp2
        go_roundw
        case rel => exact ⟨k + 1, by omega, by go_num, by rw [Hnx.out]; exact Hown8.out, Hl8.out, Hb8.out⟩
        case measure => simp [intOf]; omega
      · have hkl : OI.take k = OI := List.take_of_length_le (by omega)
        rw [hkl] at Hu
        clear hkl hu hl' hb
        go_wp2
        go_ret
        exact ⟨_, rfl, by rw [hLO]; exact Hu.out, by rw [hLO]; exact Hb.out⟩

end Go.Proofs.YtjaacdapibokiaaDoor

/- Lists of slots in memory; the laws' tests on them, each by a walk of its text; condition: the lists are shorter than 2^40. -/
namespace Go.Proofs.YtjaacdapibokiaaDoor
open Go.RowKit

abbrev Sl := Int × Int
def slF (s : Sl) : List Fd := [.i s.1, .i s.2]
/-- A list of slots in memory. -/
def Sls (w : World) (l : List Sl) (v : Value) (fp : List Nat) : Prop := Rd w (rowsD (l.map slF)) v fp
theorem Sls.under {w w' : World} {l : List Sl} {v : Value} {fp : List Nat} (h : Sls w l v fp) (hb : Below w.heap.size w w') : Sls w' l v fp := Rd.under h hb
theorem Sls.slice {w : World} {l : List Sl} {v : Value} {fp : List Nat} (h : Sls w l v fp) : ∃ a cap, v = .slice a l.length cap := by
  obtain ⟨a, cap, rfl⟩ := Rd.slice h
  exact ⟨a, cap, by simp⟩
theorem Sls.at {w : World} {l : List Sl} {a : Option Addr} {n cap : Nat} {fp : List Nat} (h : Sls w l (.slice a n cap) fp) (hne : 0 < l.length) : ∃ b off, a = some ⟨b, off, none⟩ ∧ b < w.heap.size ∧ ∀ k (hk : k < l.length),
    w.cell? ⟨b, off + k * 2, none⟩ = some (.int .i64 l[k].1) ∧ w.cell? ⟨b, off + k * 2 + 1, none⟩ = some (.int .i64 l[k].2) := by
  obtain ⟨b, off, rfl, hb, hc⟩ := rows_at (es := l.map slF) (m := 2) h (by simpa using hne) (fun e he => by obtain ⟨x, _, rfl⟩ := List.mem_map.1 he; rfl)
  refine ⟨b, off, rfl, hb, fun k hk => ?_⟩
  have hk' : k < (l.map slF).length := by simpa using hk
  have he : (l.map slF)[k] = slF l[k] := by simp
  obtain ⟨c0, _, h0, r0⟩ := hc k hk' 0 (by rw [he]; simp [slF])
  obtain ⟨c1, _, h1, r1⟩ := hc k hk' 1 (by rw [he]; simp [slF])
  obtain rfl := rd_i r0 (x := l[k].1) (by simp only [he]; rfl)
  obtain rfl := rd_i r1 (x := l[k].2) (by simp only [he]; rfl)
  exact ⟨h0, h1⟩

theorem neq_sl (a b c d : Int) (w : World) : (binOp .neq 32 (.agg #[.int .i64 a, .int .i64 b]) (.agg #[.int .i64 c, .int .i64 d])).run Tryd.prog w = .ok (.bool (!decide (((a, b) : Sl) = (c, d)))) w := by
  have hS : Tryd.prog.underlying 32 = some (.struct (Tryd.prog.fieldsOf 32)) := by kernel_rfl
  have hp : Tryd.prog.stoodInHeld 32 = false := by kernel_rfl
  rw [run_neq_struct, show (10000 : Nat) = 9999 + 1 from rfl, run_equalIn_agg w 9999 32 _ _ hS hp]
  simp only [Program.fieldsOf, Tryd.underlying32]
  go_simp
  by_cases h1 : a = c <;> by_cases h2 : b = d <;> simp [h1, h2]
set_option maxHeartbeats 2000000 in
theorem laws_sameSlots (l m : List Sl) (va va2 : Option Addr) (vc vc2 : Nat) (fp fp2 : List Nat) (w : World) (hbig : l.length ≤ 1099511627776) (_hbig2 : m.length ≤ 1099511627776) (hr : Sls w l (.slice va l.length vc) fp) (hr2 : Sls w m (.slice va2 m.length vc2) fp2) :
    Calls Tryd.prog 7 #[.slice va l.length vc, .slice va2 m.length vc2] w fun e w' => e = .returned (.bool (decide (l = m))) ∧ Drawn w w' := by
  have Hr := Lib.hid hr; clear hr
  have Hr2 := Lib.hid hr2; clear hr2
  by_cases hl : l.length = m.length
  case neg =>
    have hne : ¬ l = m := fun e => hl (by rw [e])
    have hl' : ((l.length : Int) == (m.length : Int)) = false := by rw [beq_eq_false_iff_ne]; omega
    have Hz := Lib.hid (decide_eq_false hne)
    clear hne
    go_enter Tryd.func7, Tryd.ntmps7
    go_wp2
    go_ret
    exact ⟨by first | rfl | exact ret_bool (by rw [Hz.out]), Drawn.refl _⟩
  have hl' : ((l.length : Int) == (m.length : Int)) = true := by rw [beq_iff_eq]; omega
  have Hl := Lib.hid hl
  go_enter Tryd.func7, Tryd.ntmps7
  go_wp2
  go_loopw [5] (fun i wr => ∃ k : Nat, k ≤ l.length ∧ i = .int .i64 k ∧ Hid (∀ j (h : j < l.length) (h' : j < m.length), j < k → l[j] = m[j]) ∧ Drawn w wr) (fun i _ => l.length - (intOf i).toNat)
  case atStart => exact ⟨0, by omega, rfl, Lib.hid (fun _ _ _ h => by omega), Drawn.refl _⟩
  case round =>
    obtain ⟨k, hk, rfl, Hup, hwr⟩ := hrel
    by_cases hlt : k < l.length
    · have hlt2 : k < m.length := by omega
      obtain ⟨b, off, rfl, hb, hat⟩ := (show Sls wr l (.slice va l.length vc) fp from Hr.out.under (hwr.below _)).at (by omega)
      obtain ⟨c0, c1⟩ := hat k hlt
      obtain ⟨b2, off2, rfl, hb2, hat2⟩ := (show Sls wr m (.slice va2 m.length vc2) fp2 from Hr2.out.under (hwr.below _)).at (by omega)
      obtain ⟨d0, d1⟩ := hat2 k hlt2
      have Hwr := Lib.hid hwr
      have Hne := Lib.hid (fun (h : ¬ l[k] = m[k]) => show decide (l = m) = false from decide_eq_false fun e => h (by simp only [e]))
      have Hnx := Lib.hid (fun (h : l[k] = m[k]) => show ∀ j (h : j < l.length) (h' : j < m.length), j < k + 1 → l[j] = m[j] from fun j h1 h2 h3 => by
        by_cases e : j = k
        · subst e; exact h
        · exact Hup.out j h1 h2 (by omega))
      clear hat hat2 hwr Hup hl hl'
      generalize l[k] = x at *
      generalize m[k] = y at *
      obtain ⟨xm, xv⟩ := x
      obtain ⟨ym, yv⟩ := y
      dsimp only at *
      have hq := fun W => neq_sl xm xv ym yv W
      have hlt' : (k : Int) < (l.length : Int) := by omega
      have hlt2' : (k : Int) < (m.length : Int) := by omega
      by_cases e : ((xm, xv) : Sl) = (ym, yv)
      · rw [decide_eq_true e] at hq
        have Hn := Lib.hid (Hnx.out e)
        clear e Hne Hnx
        go_wp2_with fail
        go_quiet (fail)
        clear hq
        go_wp2
        go_roundw
        case rel => exact ⟨k + 1, by omega, by go_num, Hn, Hwr.out.drewN _⟩
        case measure => simp [intOf]; omega
      · rw [decide_eq_false e] at hq
        have Hz := Lib.hid (Hne.out e)
        clear e Hne Hnx
        go_wp2_with fail
        go_quiet (fail)
        clear hq
        go_wp2
        go_ret
        exact ⟨by first | rfl | exact ret_bool (by rw [Hz.out]), Hwr.out.drewN _⟩
    · have Hwr := Lib.hid hwr; clear hwr
      have Hz := Lib.hid (show decide (l = m) = true from decide_eq_true (List.ext_getElem Hl.out fun j h1 h2 => Hup.out j h1 h2 (by omega)))
      clear Hup hl hl'
      go_wp2
      go_ret
      exact ⟨by first | rfl | exact ret_bool (by rw [Hz.out]), Hwr.out⟩

end Go.Proofs.YtjaacdapibokiaaDoor

/- Lists of slots: from what a call owns, a first part, sameness of a list with itself; what the laws of chapter 22 say of the order; condition: the lists are shorter than 2^40. -/
namespace Go.Proofs.YtjaacdapibokiaaDoor
open Go.RowKit

theorem sls_of {E : TypeId} {w : World} {B : Nat} {v : Value} {l : List Sl} (h : OwnN E 2 w B v (l.map fun s => [s.1, s.2])) : ∃ a cap fp, v = .slice a l.length cap ∧ l.length ≤ cap ∧ Sls w l v fp := by
  obtain ⟨fp, hr⟩ := (h.ownR (Ei := E) (Nat.le_refl _)).reads
  obtain ⟨a, cap, rfl, hc⟩ := h.slice
  rw [List.length_map] at hr hc ⊢
  refine ⟨a, cap, fp, rfl, hc, ?_⟩
  unfold Sls
  rw [List.map_map] at hr
  exact hr
theorem sl_cut {w : World} {l : List Sl} {a : Option Addr} {cap : Nat} {fp : List Nat} (h : Sls w l (.slice a l.length cap) fp) {k : Nat} (hk : k ≤ l.length) : ∃ fq, Sls w (l.take k) (.slice a (l.take k).length cap) fq := by
  rw [List.length_take, Nat.min_eq_left hk]
  by_cases h0 : k = 0
  · subst h0
    refine ⟨[], ?_⟩
    unfold Sls rowsD
    rw [List.take_zero]
    refine .nil _ _ fun e => ?_
    subst e
    exact Rd.nilcap h
  · obtain ⟨b, off, rfl, _⟩ := h.at (by omega)
    have hrow : ∀ e ∈ (l.map slF).map (fun e => e.map Fd.dt), e.length = 2 := by
      intro e he
      rw [List.map_map] at he
      obtain ⟨x, _, rfl⟩ := List.mem_map.1 he
      rfl
    have hz : ((l.map slF).map fun e => e.map Fd.dt).length = l.length := by simp
    obtain ⟨fq, hq⟩ := Rd.cut (g := b) (off := off) (n := l.length) (cap := cap) h hrow 0 k off cap (by omega) (fun _ => by omega) (fun _ => by omega)
    refine ⟨fq, ?_⟩
    unfold Sls rowsD
    rw [List.map_take, List.map_take]
    rw [List.drop_zero] at hq
    exact hq.1


section
variable {c : List Int} {g : List Vx} {ls : List Int}
theorem os_wa {m : Nat} (h : m < (osS c g ls).length) : waB c g ls = true := by
  cases e : waB c g ls with
  | true => rfl
  | false => rw [osS_no e] at h; simp at h
variable (hps : ∀ x ∈ g, x.ps.length ≤ 1099511627776)
include hps
/-- What is known of the m-th slot. -/
theorem os_at {m : Nat} (h : m < (osS c g ls).length) : ∃ j, ∃ hj : j < g.length, ∃ hm : m < (ordI g ls (cwN c g ls)).length, (ordI g ls (cwN c g ls))[m] = j ∧ (osS c g ls)[m] = (g[j].r, g[j].a) ∧ gfZ c g g[j].r g[j].a = (j : Int) := by
  have hwa := os_wa h
  have ok := good21 hwa hps
  have hcok := (cwN_ok hwa hps).2
  have hI := osI_yes hwa
  have hm : m < (ordI g ls (cwN c g ls)).length := by rw [osS_len, hI] at h; exact h
  obtain ⟨hj, _⟩ := ordI_lt hcok hm
  refine ⟨_, hj, hm, rfl, ?_, ?_⟩
  · unfold osS
    simp only [List.getElem_map, hI]
    unfold slA
    rw [getV hj]
  · unfold gfZ
    rw [if_pos ok.gb]
    obtain ⟨k, hk, e, e2⟩ := findZ_mem ok.srt (List.getElem_mem hj)
    rw [e, pair_uni ok.srt hk hj (by rw [e2]) (by rw [e2])]
theorem os_once {m : Nat} (h : m < (osS c g ls).length) : ∃ j : Nat, j < g.length ∧ gfZ c g (osS c g ls)[m].1 (osS c g ls)[m].2 = (j : Int) ∧ (osS c g ls)[m] ∉ (osS c g ls).take m := by
  obtain ⟨j, hj, hm, e1, e2, e3⟩ := os_at hps h
  refine ⟨j, hj, by rw [e2]; exact e3, fun hmem => ?_⟩
  have hwa := os_wa h
  have ok := good21 hwa hps
  have hcok := (cwN_ok hwa hps).2
  obtain ⟨i, hi, e⟩ := List.mem_iff_getElem.1 hmem
  rw [List.length_take] at hi
  rw [List.getElem_take] at e
  obtain ⟨i', hi', him, f1, f2, _⟩ := os_at hps (show i < (osS c g ls).length by omega)
  rw [f2, e2] at e
  have := ordI_once ok hcok (show i < m by omega) hm (by rw [f1]; exact hi') (by rw [e1]; exact hj)
  simp only [f1, e1] at this
  exact this ⟨congrArg Prod.fst e, congrArg Prod.snd e⟩
theorem os_dig {m : Nat} (h : m < (osS c g ls).length) : ∃ j, ∃ hj : j < g.length, gfZ c g (osS c g ls)[m].1 (osS c g ls)[m].2 = (j : Int) ∧ (osD c g ls).getD m 0 = g[j].d := by
  obtain ⟨j, hj, hm, e1, e2, e3⟩ := os_at hps h
  refine ⟨j, hj, by rw [e2]; exact e3, ?_⟩
  have hwa := os_wa h
  have hI := osI_yes hwa
  unfold osD
  rw [hI]
  simp only [List.getD, List.getElem?_map, List.getElem?_eq_getElem hm, Option.map_some, Option.getD_some, e1]
  rw [List.getElem?_eq_getElem hj]; rfl
end

end Go.Proofs.YtjaacdapibokiaaDoor

/- The order of a part of a graph, as slots; plain facts, nothing here is walked. -/
namespace Go.Proofs.YtjaacdapibokiaaDoor
open Go.RowKit

theorem os_part {c : List Int} {g g' : List Vx} {ls : List Int} (hgb : graphB c g = true) (hps : ∀ x ∈ g, x.ps.length ≤ 1099511627776) (hsub : ∀ x ∈ g', x ∈ g) : osS c g' ls <+: osS c g ls := by
  cases hw : waB c g' ls with
  | false => rw [osS_no hw]; exact List.nil_prefix
  | true =>
    have hwg : waB c g ls = true := by
      have h := hw
      unfold waB at h ⊢
      simp only [Bool.and_eq_true] at h ⊢
      exact ⟨hgb, h.2⟩
    have hps' : ∀ x ∈ g', x.ps.length ≤ 1099511627776 := fun x hx => hps x (hsub x hx)
    have ok := good21 hwg hps
    have ok' := good21 hw hps'
    have h' := (cwN_ok hw hps').2
    have hp : cwN c g' ls <+: cwN c g ls := by
      unfold cwN
      exact List.IsPrefix.map Int.toNat (cw_part (ls := ls) hgb hps hsub)
    rw [osS_ordV hw, osS_ordV hwg]
    exact List.IsPrefix.map _ (ord_part ok ok' hsub (fun u hu => ⟨(h'.mem u hu).1, (h'.mem u hu).2.2⟩) hp)
theorem pre_two {α : Type} {a b c : List α} (h1 : a <+: c) (h2 : b <+: c) : a <+: b ∨ b <+: a := List.prefix_or_prefix_of_prefix h1 h2

section
variable {c : List Int} {g : List Vx} {ls : List Int} {sr sa : Int}
theorem ow_neg (h : owZ c g ls sr sa < 0) (h2 : 0 ≤ gfZ c g sr sa) : lvB c ls = false := by
  unfold gfZ at h2
  by_cases hgb : graphB c g = true
  · rw [if_pos hgb] at h2
    unfold owZ at h
    by_cases hw : waB c g ls = true ∧ 0 ≤ findZ g sr sa
    · rw [if_pos hw] at h; omega
    · unfold lvB
      have hn : ldsB c.length ls = false := by
        cases e : ldsB c.length ls with
        | false => rfl
        | true => exact absurd ⟨by unfold waB; rw [hgb, e]; rfl, h2⟩ hw
      rw [hn]; simp
  · rw [if_neg hgb] at h2; omega
theorem ow_pos (hps : ∀ x ∈ g, x.ps.length ≤ 1099511627776) (h : 0 ≤ owZ c g ls sr sa) : (0 < owZ c g ls sr sa ↔ (sr, sa) ∈ osS c g ls) ∧ (0 < owZ c g ls sr sa → hasB (cwZ c g ls) (owZ c g ls sr sa) = true) := by
  have hz : waB c g ls = true ∧ 0 ≤ findZ g sr sa := by
    by_cases e : waB c g ls = true ∧ 0 ≤ findZ g sr sa
    · exact e
    · unfold owZ at h; rw [if_neg e] at h; omega
  have ok := good21 hz.1 hps
  obtain ⟨hcw, hcok⟩ := cwN_ok hz.1 hps
  have h1 : ∀ v ∈ cwN c g ls, 1 ≤ v := fun v hv => (hcok.mem v hv).1
  obtain ⟨j, hj, ej, hsame⟩ : ∃ j : Nat, ∃ hj : j < g.length, findZ g sr sa = j ∧ sameRA sr sa g[j] = true := by
    rcases findZ_cases g sr sa with ⟨e, _⟩ | ⟨j, hj, e, h1, _⟩
    · omega
    · exact ⟨j, hj, e, h1⟩
  have hra : g[j].r = sr ∧ g[j].a = sa := of_decide_eq_true hsame
  have hZ : owZ c g ls sr sa = (owN g ls (cwN c g ls) j : Int) := by unfold owZ; rw [if_pos hz, ej, Int.toNat_natCast]
  rw [hZ]
  refine ⟨?_, fun hp => ?_⟩
  · have hm := ord_mem (g := g) (ls := ls) (k := j) h1
    constructor
    · intro hp
      have : j ∈ ordI g ls (cwN c g ls) := hm.2 ⟨hj, by omega⟩
      unfold osS
      rw [osI_yes hz.1]
      refine List.mem_map.2 ⟨j, this, ?_⟩
      unfold slA; rw [getV hj, hra.1, hra.2]
    · intro hmem
      unfold osS at hmem
      rw [osI_yes hz.1] at hmem
      obtain ⟨k, hk, e⟩ := List.mem_map.1 hmem
      have hkl := ((ord_mem (g := g) (ls := ls) h1).1 hk).1
      unfold slA at e
      rw [getV hkl] at e
      have e1 := congrArg Prod.fst e
      have e2 := congrArg Prod.snd e
      simp only at e1 e2
      have : k = j := pair_uni ok.srt hkl hj (by omega) (by omega)
      subst this
      have := ((ord_mem (g := g) (ls := ls) h1).1 hk).2
      omega
  · have := (ow_find (g := g) (ls := ls) (O := cwN c g ls) (k := j) (by omega)).1
    rw [hcw]
    exact decide_eq_true (List.mem_map.2 ⟨_, this, rfl⟩)
end

end Go.Proofs.YtjaacdapibokiaaDoor

/- What the laws of chapter 22 say of committed waves: their past and a quorum of the round before are ordered; plain facts, nothing here is walked. -/
namespace Go.Proofs.YtjaacdapibokiaaDoor
open Go.RowKit

theorem idx_mem {bs : List Bool} {n : Nat} {x : Int} (h : x ∈ idxTo bs n) : ∃ j : Nat, j < n ∧ x = j ∧ bs.getD j false = true := by
  unfold idxTo at h
  obtain ⟨j, hj, rfl⟩ := List.mem_map.1 h
  obtain ⟨h1, h2⟩ := List.mem_filter.1 hj
  exact ⟨j, List.mem_range.1 h1, rfl, h2⟩
section
variable {c : List Int} {g : List Vx} {ls : List Int} (hps : ∀ x ∈ g, x.ps.length ≤ 1099511627776)
include hps
omit hps in
theorem os_of {j : Nat} (hw : waB c g ls = true) (hj : j < g.length) (h : j ∈ ordI g ls (cwN c g ls)) : (g[j].r, g[j].a) ∈ osS c g ls := by
  unfold osS
  rw [osI_yes hw]
  refine List.mem_map.2 ⟨j, h, ?_⟩
  unfold slA; rw [getV hj]
/-- The m-th committed wave. -/
theorem cw_at {m : Nat} (hm : m < (cwZ c g ls).length) : ∃ k : Nat, ∃ _hw : waB c g ls = true, (cwZ c g ls).getD m 0 = (k : Int) ∧ k ∈ cwN c g ls ∧ 1 ≤ k ∧ k ≤ ls.length ∧ k ≤ 15 := by
  cases hw : waB c g ls with
  | false => rw [cw_none hw] at hm; simp at hm
  | true =>
  obtain ⟨hO, ok⟩ := cwN_ok hw hps
  have hl : (cwZ c g ls).length = (cwN c g ls).length := by rw [hO, List.length_map]
  have hmem := List.getElem_mem (show m < (cwN c g ls).length by omega)
  have h1 := ok.mem _ hmem
  have h15 := (good21 hw hps).l15
  refine ⟨_, rfl, ?_, hmem, h1.1, h1.2.1, by omega⟩
  rw [getD_get hm]
  simp [hO]
theorem os_past {m : Nat} (hm : m < (cwZ c g ls).length) : ∃ k : Nat, (cwZ c g ls).getD m 0 = (k : Int) ∧ 1 ≤ k ∧ k ≤ ls.length ∧ k ≤ 15 ∧ ∀ x ∈ gpZ c g (2 * (k : Int) - 1) (ls.getD (k - 1) 0), ∃ j, ∃ hj : j < g.length, x = (j : Int) ∧ (2 * (k : Int) - 7 ≤ g[j].r → (g[j].r, g[j].a) ∈ osS c g ls) := by
  obtain ⟨k, hw, e, hk, h1, h2, h3⟩ := cw_at hps hm
  have ok := good21 hw hps
  have hcok := (cwN_ok hw hps).2
  refine ⟨k, e, h1, h2, h3, fun x hx => ?_⟩
  have hgp : gpZ c g (2 * (k : Int) - 1) (ls.getD (k - 1) 0) = idxTo (pastB g (ldZ g ls k)) g.length := by unfold gpZ; rw [if_pos ok.gb]; rfl
  rw [hgp] at hx
  obtain ⟨j, hj, rfl, hb⟩ := idx_mem hx
  refine ⟨j, hj, rfl, fun hr => os_of hw hj ?_⟩
  have h0 := (hcok.mem k hk).2.2
  have hh : hitB g ls k j = true := by
    unfold hitB; rw [hb, getV hj, decide_eq_true hr]; rfl
  exact (ord_past ok hcok hk hj ((hit_iff ok h0 hj).1 hh).1 hr).1
/-- The authors of the round before, among the first n members. -/
def quA (c : List Int) (g : List Vx) (ls : List Int) (k : Nat) (a : Nat) : Bool := decide ((2 * (k : Int) - 2, (a : Int)) ∈ osS c g ls)
theorem os_quorum {m : Nat} (hm : m < (cwZ c g ls).length) : ∃ k : Nat, (cwZ c g ls).getD m 0 = (k : Int) ∧ 1 ≤ k ∧ k ≤ ls.length ∧ k ≤ 15 ∧ orNo c (2 * totalZ c / 3 + 1) ≤ mwZ c (rangeF (quA c g ls k) c.length) := by
  obtain ⟨k, hw, e, hk, h1, h2, h3⟩ := cw_at hps hm
  have ok := good21 hw hps
  have hcok := (cwN_ok hw hps).2
  refine ⟨k, e, h1, h2, h3, ?_⟩
  rw [mwZ_rangeF ok.hv]
  obtain ⟨hLg, hLr, _⟩ := ldV_at (hcok.mem k hk).2.2
  have hvx := graph_vtx' ok.gb _ hLg
  unfold vtxB at hvx
  simp only [Bool.and_eq_true] at hvx
  have hasc := ascP_of hvx.2.2.1
  have hq := hvx.2.2.2.2
  unfold quoB at hq
  rw [if_neg (by omega)] at hq
  have hq' := of_decide_eq_true hq
  unfold quorumZ at hq'
  have hle : weightZ c (ldV g ls k).ps ≤ weightZ c (rangeF (quA c g ls k) c.length) := by
    rw [weight_isum c c.length _ hasc, weight_isum c c.length _ (ascP_rangeF _ _)]
    refine isum_le fun i hi => ?_
    unfold wAt
    by_cases hb : hasB (ldV g ls k).ps i = true
    · rw [if_pos hb]
      have hmem : (i : Int) ∈ (ldV g ls k).ps := of_decide_eq_true hb
      obtain ⟨j, hj, er, ea, hin⟩ := ord_parents ok hcok hk hmem
      have hs := os_of hw hj hin
      rw [er, ea] at hs
      have : hasB (rangeF (quA c g ls k) c.length) i = true := decide_eq_true (mem_rangeF.2 ⟨hi, decide_eq_true hs⟩)
      rw [if_pos this]; exact Int.le_refl _
    · rw [if_neg hb]
      split
      · exact c_nonneg ok.hv i hi
      · exact Int.le_refl _
  unfold orNo
  split
  · omega
  · have := (weight_bd (a := rangeF (quA c g ls k) c.length) ok.hv (ascP_rangeF _ _)).1; omega
end

end Go.Proofs.YtjaacdapibokiaaDoor

/- What the laws of chapter 22 say of neighbours in the order and of the places of committed leaders; plain facts, nothing here is walked. -/
namespace Go.Proofs.YtjaacdapibokiaaDoor
open Go.RowKit

section
variable {c : List Int} {g : List Vx} {ls : List Int} (hps : ∀ x ∈ g, x.ps.length ≤ 1099511627776)
include hps
theorem ow_at {m : Nat} (h : m < (osS c g ls).length) : ∃ j, ∃ hj : j < g.length, ∃ hm : m < (ordI g ls (cwN c g ls)).length, (ordI g ls (cwN c g ls))[m] = j ∧ (osS c g ls)[m] = (g[j].r, g[j].a) ∧ owZ c g ls (osS c g ls)[m].1 (osS c g ls)[m].2 = (owN g ls (cwN c g ls) j : Int) := by
  obtain ⟨j, hj, hm, e1, e2, e3⟩ := os_at hps h
  have hwa := os_wa h
  have ok := good21 hwa hps
  unfold gfZ at e3
  rw [if_pos ok.gb] at e3
  refine ⟨j, hj, hm, e1, e2, ?_⟩
  rw [e2]
  unfold owZ
  rw [if_pos ⟨hwa, by rw [e3]; omega⟩, e3, Int.toNat_natCast]
/-- P92: of two neighbours in the order. -/
theorem os_asc {m : Nat} (h : m + 1 < (osS c g ls).length) :
    ¬ owZ c g ls (osS c g ls)[m + 1].1 (osS c g ls)[m + 1].2 < owZ c g ls (osS c g ls)[m].1 (osS c g ls)[m].2 ∧
    (owZ c g ls (osS c g ls)[m].1 (osS c g ls)[m].2 = owZ c g ls (osS c g ls)[m + 1].1 (osS c g ls)[m + 1].2 → ¬ (osS c g ls)[m + 1].1 < (osS c g ls)[m].1 ∧ ((osS c g ls)[m].1 = (osS c g ls)[m + 1].1 → ¬ (osS c g ls)[m + 1].2 ≤ (osS c g ls)[m].2)) := by
  have hwa := os_wa h
  have ok := good21 hwa hps
  have hcok := (cwN_ok hwa hps).2
  obtain ⟨i, hi, hmi, a1, a2, a3⟩ := ow_at hps (show m < (osS c g ls).length by omega)
  obtain ⟨j, hj, hmj, b1, b2, b3⟩ := ow_at hps h
  have ha := ordI_asc hcok (show m < m + 1 by omega) hmj
  rw [a1, b1] at ha
  rw [a3, b3, a2, b2]
  refine ⟨by omega, fun e => ?_⟩
  have hij : i < j := by omega
  have hb := befB_iff.1 (List.pairwise_iff_getElem.1 ok.srt i j hi hj hij)
  dsimp only
  exact ⟨by omega, fun e2 => by omega⟩
theorem os_asc' {m : Nat} {x y : Sl} (hx : (osS c g ls)[m]? = some x) (hy : (osS c g ls)[m + 1]? = some y) : ¬ owZ c g ls y.1 y.2 < owZ c g ls x.1 x.2 ∧ (owZ c g ls x.1 x.2 = owZ c g ls y.1 y.2 → ¬ y.1 < x.1 ∧ (x.1 = y.1 → ¬ y.2 ≤ x.2)) := by
  obtain ⟨h, rfl⟩ := List.getElem?_eq_some_iff.1 hy
  obtain ⟨h', rfl⟩ := List.getElem?_eq_some_iff.1 hx
  exact os_asc hps h
end
/-- Behind i slots, just the first n committed leaders stand there. -/
def cnS (c : List Int) (g : List Vx) (ls : List Int) (n i : Nat) : Prop := CntO g ls (cwN c g ls) n i
theorem cwN_len (c : List Int) (g : List Vx) (ls : List Int) : (cwN c g ls).length = (cwZ c g ls).length := by unfold cwN; rw [List.length_map]
theorem cs_zero (c : List Int) (g : List Vx) (ls : List Int) : cnS c g ls 0 0 := cnt_zero
section
variable {c : List Int} {g : List Vx} {ls : List Int} (hps : ∀ x ∈ g, x.ps.length ≤ 1099511627776)
include hps
theorem cs_end {n : Nat} (h : cnS c g ls n (osS c g ls).length) : n = (cwZ c g ls).length := by
  cases hw : waB c g ls with
  | false =>
    have h1 := h.1
    rw [cwN_len, cw_none hw] at h1
    rw [cw_none hw]; simpa using h1
  | true =>
    rw [← cwN_len]
    refine cnt_end (good21 hw hps) (cwN_ok hw hps).2 ?_
    unfold cnS at h
    rw [osS_len, osI_yes hw] at h
    exact h
theorem cs_step {n i : Nat} (h : cnS c g ls n i) (hi : i < (osS c g ls).length) : n ≤ (cwZ c g ls).length ∧ (¬ n < (cwZ c g ls).length → cnS c g ls n (i + 1)) ∧
    (n < (cwZ c g ls).length → ∃ k : Nat, (cwZ c g ls).getD n 0 = (k : Int) ∧ 1 ≤ k ∧ k ≤ ls.length ∧ k ≤ 15 ∧
      ((osS c g ls)[i].1 = 2 * (k : Int) - 1 → (osS c g ls)[i].2 = ls.getD (k - 1) 0 → cnS c g ls (n + 1) (i + 1)) ∧
      (((osS c g ls)[i].1 = 2 * (k : Int) - 1 → (osS c g ls)[i].2 ≠ ls.getD (k - 1) 0) → cnS c g ls n (i + 1))) := by
  have hw := os_wa hi
  have ok := good21 hw hps
  obtain ⟨hO, hcok⟩ := cwN_ok hw hps
  have hasc : ∀ m, n < m → m < (cwN c g ls).length → posO g ls (cwN c g ls) n < posO g ls (cwN c g ls) m := fun m h1 h2 => pos_asc ok hcok h1 h2
  rw [← cwN_len]
  refine ⟨h.1, fun hn => cnt_no h (fun h2 => absurd h2 hn) hasc, fun hn => ?_⟩
  have hmem := List.getElem_mem hn
  have h1 := hcok.mem _ hmem
  have h15 := ok.l15
  obtain ⟨j, hj, hm, e1, e2, _⟩ := os_at hps hi
  have hp := pos_iff ok hcok hn hm (by rw [e1]; exact hj)
  simp only [e1] at hp
  refine ⟨(cwN c g ls)[n], ?_, h1.1, h1.2.1, by omega, fun h3 h4 => ?_, fun h3 => ?_⟩
  · rw [getD_get (by rw [← cwN_len]; exact hn)]
    simp [hO]
  · rw [e2] at h3 h4
    exact cnt_yes ok hcok h hn (hp.1 ⟨h3, h4⟩)
  · rw [e2] at h3
    exact cnt_no h (fun _ h5 => by obtain ⟨h6, h7⟩ := hp.2 h5; exact h3 h6 h7) hasc
end

end Go.Proofs.YtjaacdapibokiaaDoor
