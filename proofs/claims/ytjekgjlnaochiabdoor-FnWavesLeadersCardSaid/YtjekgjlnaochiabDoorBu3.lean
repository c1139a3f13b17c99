/- Texts that the laws of this folder share, one behind another; no conditions. -/
import Derived.Test.YtjekgjlnaochiabDoorRows
import Derived.Test.YtjekgjlnaochiabDoorBu2
import Derived.Test.YtjekgjlnaochiabDoorBu1
import Derived.Deep.QuietTactic
import Derived.BigQuiet
import Derived.Test.YtjekgjlnaochiabDoorBu0
import Derived.LaidEqlPtr
import Derived.Deep.MidRow
import Derived.Laws.Rows
import Derived.Shelf.Slices.Reverse
import Derived.Sort.OwnSortedInts

/- impl's marking of a vertex's past along pointers, by a walk of its text (it calls itself: by the vertex's round); the graph is valid. -/
namespace Go.Proofs.YtjekgjlnaochiabDoor
open Go.RowKit

/-- The number of a mark. -/
def plM (r a : Int) : Nat := r.toNat * 7 + a.toNat
theorem plM_inj {r a r' a' : Int} (hr : 0 ≤ r) (ha : 0 ≤ a) (ha' : a ≤ 6) (hr2 : 0 ≤ r') (ha2 : 0 ≤ a') (ha2' : a' ≤ 6) (h : plM r a = plM r' a') : r = r' ∧ a = a' := by
  unfold plM at h; omega
theorem plM_bd {r a : Int} (h : r ≤ 30) (ha : a ≤ 6) : plM r a < 217 := by unfold plM; omega
/-- Each parent of a vertex is there. -/
def Par (g : List Vx) : Prop := ∀ y ∈ g, ∀ p ∈ y.ps, ∃ z ∈ g, z.r = y.r - 1 ∧ z.a = p
/-- What is marked in the first n rounds has its parents marked. -/
def ClsM (g : List Vx) (bs : Nat → Bool) (n : Int) : Prop := ∀ z ∈ g, z.r ≤ n → bs (plM z.r z.a) = true → ∀ p ∈ z.ps, bs (plM (z.r - 1) p) = true
/-- A set of vertices that is closed. -/
def ClsP (g : List Vx) (P : Vx → Prop) : Prop := ∀ y ∈ g, P y → ∀ p ∈ y.ps, ∀ z ∈ g, z.r = y.r - 1 → z.a = p → P z
def setM (bs : Nat → Bool) (i : Nat) : Nat → Bool := fun j => if j = i then true else bs j
def marksV (bs : Nat → Bool) : Array Value := arrP 217 fun i => .bool (bs i)
theorem marksV_set (bs : Nat → Bool) (i : Nat) : (marksV bs).setIfInBounds i (.bool true) = marksV (setM bs i) := by
  unfold marksV; rw [arrP_set]; congr 1; funext j
  unfold setM
  by_cases h : j = i <;> simp [h]
/-- What marking a vertex's past does to the marks. -/
structure Mkd (g : List Vx) (y : Vx) (bs bs' : Nat → Bool) : Prop where
  up : ∀ i, bs i = true → bs' i = true
  it : bs' (plM y.r y.a) = true
  cls : ClsM g bs' y.r
  new : ∀ i, bs' i = true → bs i = true ∨ i = plM y.r y.a ∨ i < y.r.toNat * 7
  only : ∀ P, ClsP g P → P y → ∀ z ∈ g, bs' (plM z.r z.a) = true → bs (plM z.r z.a) = true ∨ P z
theorem mkd_old {g : List Vx} {y : Vx} {bs : Nat → Bool} (h : bs (plM y.r y.a) = true) (hc : ClsM g bs y.r) : Mkd g y bs bs :=
  ⟨fun _ h => h, h, hc, fun _ h => .inl h, fun _ _ _ _ _ h => .inl h⟩
/-- Behind the first k parents. -/
structure Mkk (g : List Vx) (y : Vx) (bs bs' : Nat → Bool) (k : Nat) : Prop where
  up : ∀ i, bs i = true → bs' i = true
  it : bs' (plM y.r y.a) = true
  ps : ∀ j (h : j < y.ps.length), j < k → bs' (plM (y.r - 1) y.ps[j]) = true
  cls : ClsM g bs' (y.r - 1)
  new : ∀ i, bs' i = true → bs i = true ∨ i = plM y.r y.a ∨ i < y.r.toNat * 7
  only : ∀ P, ClsP g P → P y → ∀ z ∈ g, bs' (plM z.r z.a) = true → bs (plM z.r z.a) = true ∨ P z
theorem mkk_start {g : List Vx} {y : Vx} {bs : Nat → Bool} (hs : Srt g) (hin : ∀ z ∈ g, inPl z) (hy : y ∈ g) (hc : ClsM g bs y.r) : Mkk g y bs (setM bs (plM y.r y.a)) 0 := by
  refine ⟨fun i h => ?_, ?_, fun j _ h => by omega, fun z hz hr hm p hp => ?_, fun i h => ?_, fun P hP hPy z hz hm => ?_⟩
  · unfold setM; split
    · rfl
    · exact h
  · unfold setM; rw [if_pos rfl]
  · have iy := hin y hy
    have iz := hin z hz
    unfold inPl at iy iz
    unfold setM at hm ⊢
    rw [if_neg (fun e => by have := (plM_inj iz.1 iz.2.2.1 iz.2.2.2 iy.1 iy.2.2.1 iy.2.2.2 e).1; omega)] at hm
    split
    · rfl
    · exact hc z hz (by omega) hm p hp
  · unfold setM at h
    split at h
    · rename_i e; exact .inr (.inl e)
    · exact .inl h
  · unfold setM at hm
    split at hm
    · rename_i e
      have iy := hin y hy
      have iz := hin z hz
      unfold inPl at iy iz
      obtain ⟨e1, e2⟩ := plM_inj iz.1 iz.2.2.1 iz.2.2.2 iy.1 iy.2.2.1 iy.2.2.2 e
      rw [srt_uni hs hz hy e1 e2]
      exact .inr hPy
    · exact .inl hm
theorem mkk_step {g : List Vx} {y z : Vx} {bs b1 b2 : Nat → Bool} {k : Nat} (hin : ∀ z ∈ g, inPl z) (hy : y ∈ g) (h : Mkk g y bs b1 k) (hz : z ∈ g) (hk : k < y.ps.length) (hr : z.r = y.r - 1) (ha : z.a = y.ps[k]) (h2 : Mkd g z b1 b2) : Mkk g y bs b2 (k + 1) := by
  have iz := hin z hz
  unfold inPl at iz
  refine ⟨fun i hi => h2.up i (h.up i hi), h2.up _ h.it, fun j hj hjk => ?_, by rw [← hr]; exact h2.cls, fun i hi => ?_, fun P hP hPy x hx hm => ?_⟩
  · by_cases e : j = k
    · subst e; rw [← hr, ← ha]; exact h2.it
    · exact h2.up _ (h.ps j hj (by omega))
  · rcases h2.new i hi with h' | h' | h'
    · exact h.new i h'
    · exact .inr (.inr (by rw [h']; unfold plM; omega))
    · exact .inr (.inr (by omega))
  · have hPz : P z := hP y hy hPy _ (List.getElem_mem hk) z hz hr ha
    rcases h2.only P hP hPz x hx hm with h' | h'
    · exact h.only P hP hPy x hx h'
    · exact .inr h'
theorem mkk_end {g : List Vx} {y : Vx} {bs bs' : Nat → Bool} (hs : Srt g) (hin : ∀ z ∈ g, inPl z) (hy : y ∈ g) (hc : ClsM g bs y.r) (h : Mkk g y bs bs' y.ps.length) : Mkd g y bs bs' := by
  refine ⟨h.up, h.it, fun z hz hr hm p hp => ?_, h.new, h.only⟩
  have iy := hin y hy
  have iz := hin z hz
  unfold inPl at iy iz
  by_cases e : z.r ≤ y.r - 1
  · exact h.cls z hz e hm p hp
  · rcases h.new _ hm with h' | h' | h'
    · exact h.up _ (hc z hz hr h' p hp)
    · obtain ⟨e1, e2⟩ := plM_inj iz.1 iz.2.2.1 iz.2.2.2 iy.1 iy.2.2.1 iy.2.2.2 h'
      have := srt_uni hs hz hy e1 e2
      subst this
      obtain ⟨j, hj, rfl⟩ := List.mem_iff_getElem.1 hp
      exact h.ps j hj hj
    · unfold plM at h'; omega

theorem run_mark (M : Nat) (r a : Int) (hr : 0 ≤ r) (hr2 : r ≤ 30) (ha : 0 ≤ a) (ha2 : a ≤ 6) : ∃ o1, (∀ w, (Instr.indexAt 130 (.pointer (some ⟨M, 0, none⟩)) (.int .i64 r)).run Tryd.prog w = .ok (.pointer (some ⟨M, o1, none⟩)) w) ∧
    ∀ w, (Instr.indexAt 128 (.pointer (some ⟨M, o1, none⟩)) (.int .i64 a)).run Tryd.prog w = .ok (.pointer (some ⟨M, plM r a, none⟩)) w := by
  refine ⟨0 + r.toNat * 7, fun w => ?_, fun w => ?_⟩
  · exact run_index_z (s := 7) Tryd.underlying130 (by kernel_rfl) (by omega) (by omega) w
  · have := run_index_z (P := Tryd.prog) (B := M) (o := 0 + r.toNat * 7) (s := 1) (k := a.toNat) (z := a) Tryd.underlying128 (by kernel_rfl) (by omega) (by omega) w
    rw [this]
    unfold plM
    rw [Nat.mul_one, Nat.zero_add]
def MarkPost (w : World) (M : Nat) (g : List Vx) (y : Vx) (bs : Nat → Bool) : Ending → World → Prop := fun e w' =>
  e = .returned (.tuple #[]) ∧ w.grownBy w' (some M) ∧ ∃ bs', Str w' M 130 (marksV bs') ∧ Mkd g y bs bs'
set_option maxRecDepth 8000 in
set_option maxHeartbeats 4000000 in
theorem mark_past (w0 wl : World) (hi G : Nat) (mv : Value) (h : Nat → Value) (g : List Vx) (M : Nat) (hL : Lk w0 wl hi G mv h g) (hM : hi ≤ M) (hsrt : Srt g) (hin : ∀ y ∈ g, inPl y) (hpar : Par g) (hr0 : ∀ y ∈ g, y.r = 0 → y.ps.length = 0) (hgp : ∀ y ∈ g, y.ps.length ≤ 1099511627776) :
    ∀ (n : Nat) (y : Vx) (q : Nat) (w : World) (bs : Nat → Bool), y ∈ g → y.r.toNat = n → h (plN y.r y.a) = ptrV q → wl.grownBy w (some M) → Str w M 130 (marksV bs) → ClsM g bs y.r →
      Calls Tryd.prog 94 #[.pointer (some ⟨q, 0, none⟩), .pointer (some ⟨M, 0, none⟩)] w (MarkPost w M g y bs) := by
  have hself : ∀ y ∈ g, ∀ p ∈ y.ps, ∃ z ∈ g, z.r = y.r - 1 ∧ z.a = p := hpar
  have HL := Lib.hid hL; clear hL
  have Hsrt := Lib.hid hsrt; clear hsrt
  have Hin := Lib.hid hin; clear hin
  have Hpar := Lib.hid hself; clear hself hpar
  have Hr0 := Lib.hid hr0; clear hr0
  have Hgp := Lib.hid hgp; clear hgp
  intro n
  induction n using Nat.strongRecOn with
  | _ n ih =>
  intro y q w bs hy hn hq hg hM2 hc
  have iy := Hin.out y hy
  unfold inPl at iy
  obtain ⟨q', hq', nd⟩ := HL.out.has y hy
  have hqq : q' = q := by rw [hq] at hq'; unfold ptrV at hq'; simp at hq'; exact hq'.symm
  subst hqq
  obtain ⟨pa, pc, pv, qs, sq, iq, srq, own, hob, hql, hqp⟩ := nd.ex
  have hqM : q' < M := Nat.lt_of_lt_of_le nd.lt hM
  obtain ⟨pp, pcap, rfl, _⟩ := own.slice
  have HN := Lib.hid (fun W (hW : wl.grownBy W (some M)) => (⟨sq.kept hW (by intro e; cases e; omega), own.kept hW (by
    cases hv : (Value.slice pp qs.length pcap).ownBlock with
    | none => exact .inl rfl
    | some b => refine .inr fun e => ?_; cases e; have := (hob _ hv).2; omega)⟩ : Str W q' 71 #[.int .i64 y.r, .int .i64 y.a, .slice pa y.ps.length pc, .int .i64 y.d, .slice pp qs.length pcap] ∧ OwnP 66 W w0.heap.size (.slice pp qs.length pcap) qs))
  have hqlen : qs.length ≤ 1099511627776 := by have := Hgp.out y hy; omega
  obtain ⟨o1, ho1, ho2⟩ := run_mark M y.r y.a iy.1 iy.2.1 iy.2.2.1 iy.2.2.2
  have sqw := (HN.out w hg).1
  have e0 := sqw.cell 0 (v := .int .i64 y.r) rfl
  have e1 := sqw.cell 1 (v := .int .i64 y.a) rfl
  have em := hM2.cell (plM y.r y.a) (v := .bool (bs (plM y.r y.a))) (arrP_get (plM_bd iy.2.1 iy.2.2.2))
  have hmlt : M < w.heap.size := hM2.lt
  have HG := Lib.hid hg
  have HM2 := Lib.hid hM2
  have Hc := Lib.hid hc
  have Hn := Lib.hid hn
  have Hqp := Lib.hid hqp
  have Hql := Lib.hid hql
  have Hih := Lib.hid ih
  have Hiy := Lib.hid iy
  clear hg hM2 hc hn hqp hql sq iq srq own hob nd hq hq' sqw ih iy
  cases hb : bs (plM y.r y.a) with
  | true =>
    rw [hb] at em
    have Hd := Lib.hid (mkd_old hb Hc.out)
    clear hb
    go_enter Tryd.func94, Tryd.ntmps94
    go_wp2_with fail
    refine wp_region_held_drew (S := fun w' => w'.cell? ⟨q', 0, none⟩ = some (.int .i64 y.r) ∧ w'.cell? ⟨q', 1, none⟩ = some (.int .i64 y.a) ∧ w'.cell? ⟨M, plM y.r y.a, none⟩ = some (.bool true)) (by kernel_rfl) ⟨e0, e1, em⟩ (fun hH => ?_)
    refine takeH 0 (v := ?va0) rfl (by kernel_rfl) (by kernel_rfl) (by kernel_rfl) (fun _ _ _ h => h) hH rfl ?ya0 ?ra0
    case ya0 => intro W hSw; go_simp; try with_reducible rfl
    try simp only [Act.put, List.setIfInBounds_toArray, List.set_cons_zero, List.set_cons_succ]
    refine takeH 1 (v := ?va1) rfl (by kernel_rfl) (by kernel_rfl) (by kernel_rfl) (fun _ _ _ h => h) hH rfl ?ya1 ?ra1
    case ya1 => intro W hSw; go_simp; try with_reducible rfl
    try simp only [Act.put, List.setIfInBounds_toArray, List.set_cons_zero, List.set_cons_succ]
    refine takeH 2 (v := ?va2) rfl (by kernel_rfl) (by kernel_rfl) (by kernel_rfl) (fun _ _ _ h => h) hH rfl ?ya2 ?ra2
    case ya2 => intro W hSw; go_simp; try with_reducible rfl
    try simp only [Act.put, List.setIfInBounds_toArray, List.set_cons_zero, List.set_cons_succ]
    refine takeH 3 (v := ?va3) rfl (by kernel_rfl) (by kernel_rfl) (by kernel_rfl) (fun _ _ _ h => h) hH rfl ?ya3 ?ra3
    case ya3 => intro W hSw; go_simp; try with_reducible rfl
    try simp only [Act.put, List.setIfInBounds_toArray, List.set_cons_zero, List.set_cons_succ]
    refine takeH 4 (v := ?va4) rfl (by kernel_rfl) (by kernel_rfl) (by kernel_rfl) (fun _ _ _ h => h) hH rfl ?ya4 ?ra4
    case ya4 => intro W hSw; go_simp; try with_reducible rfl
    try simp only [Act.put, List.setIfInBounds_toArray, List.set_cons_zero, List.set_cons_succ]
    refine takeH 5 (v := ?va5) rfl (by kernel_rfl) (by kernel_rfl) (by kernel_rfl) (fun _ _ _ h => h) hH rfl ?ya5 ?ra5
    case ya5 => intro W hSw; go_simp; try with_reducible rfl
    try simp only [Act.put, List.setIfInBounds_toArray, List.set_cons_zero, List.set_cons_succ]
    refine takeH 6 (v := ?va6) rfl (by kernel_rfl) (by kernel_rfl) (by kernel_rfl) (fun _ _ _ h => h) hH rfl ?ya6 ?ra6
    case ya6 => intro W hSw; go_simp; try with_reducible rfl
    try simp only [Act.put, List.setIfInBounds_toArray, List.set_cons_zero, List.set_cons_succ]
    refine takeH 7 (v := ?va7) rfl (by kernel_rfl) (by kernel_rfl) (by kernel_rfl) (fun _ _ _ h => h) hH rfl ?ya7 ?ra7
    case ya7 => intro W hSw; go_simp; try with_reducible rfl
    try simp only [Act.put, List.setIfInBounds_toArray, List.set_cons_zero, List.set_cons_succ]
    refine takeH 8 (v := ?va8) rfl (by kernel_rfl) (by kernel_rfl) (by kernel_rfl) (fun _ _ _ h => h) hH rfl ?ya8 ?ra8
    case ya8 => intro W hSw; go_simp; try with_reducible rfl
    try simp only [Act.put, List.setIfInBounds_toArray, List.set_cons_zero, List.set_cons_succ]
    refine takeH 9 (v := ?va9) rfl (by kernel_rfl) (by kernel_rfl) (by kernel_rfl) (fun _ _ _ h => h) hH rfl ?ya9 ?ra9
    case ya9 => intro W hSw; go_simp; try with_reducible rfl
    try simp only [Act.put, List.setIfInBounds_toArray, List.set_cons_zero, List.set_cons_succ]
    refine takeH 10 (v := ?va10) rfl (by kernel_rfl) (by kernel_rfl) (by kernel_rfl) (fun _ _ _ h => h) hH rfl ?ya10 ?ra10
    case ya10 => intro W hSw; go_simp; try with_reducible rfl
    try simp only [Act.put, List.setIfInBounds_toArray, List.set_cons_zero, List.set_cons_succ]
    refine takeH 11 (v := ?va11) rfl (by kernel_rfl) (by kernel_rfl) (by kernel_rfl) (fun _ _ _ h => h) hH rfl ?ya11 ?ra11
    case ya11 => intro W hSw; go_simp; try with_reducible rfl
    try simp only [Act.put, List.setIfInBounds_toArray, List.set_cons_zero, List.set_cons_succ]
    refine takeH 12 (v := ?va12) rfl (by kernel_rfl) (by kernel_rfl) (by kernel_rfl) (fun _ _ _ h => h) hH rfl ?ya12 ?ra12
    case ya12 => intro W hSw; go_simp; try with_reducible rfl
    try simp only [Act.put, List.setIfInBounds_toArray, List.set_cons_zero, List.set_cons_succ]
    refine takeH 13 (v := ?va13) rfl (by kernel_rfl) (by kernel_rfl) (by kernel_rfl) (fun _ _ _ h => h) hH rfl ?ya13 ?ra13
    case ya13 => intro W hSw; go_simp; try with_reducible rfl
    try simp only [Act.put, List.setIfInBounds_toArray, List.set_cons_zero, List.set_cons_succ]
    refine takeH 14 (v := ?va14) rfl (by kernel_rfl) (by kernel_rfl) (by kernel_rfl) (fun _ _ _ h => h) hH rfl ?ya14 ?ra14
    case ya14 => intro W hSw; go_simp; try with_reducible rfl
    try simp only [Act.put, List.setIfInBounds_toArray, List.set_cons_zero, List.set_cons_succ]
    refine wpAnyH_done (by kernel_rfl) ?_ _
    try simp only [Act.put]
    have hdr : w.grownBy w.drew (some M) := below_rowP (Below.refl _ _).drew _
    have hst : Str w.drew M 130 (marksV bs) := HM2.out
    generalize w.drew = W1 at *
    go_wp2
    go_end0
    exact ⟨rfl, hdr, bs, hst, Hd.out⟩
  | false =>
    rw [hb] at em
    have Hk0 := Lib.hid (mkk_start Hsrt.out Hin.out hy Hc.out)
    clear hb
    go_enter Tryd.func94, Tryd.ntmps94
    go_wp2_with fail
    refine wp_region_held_drew (S := fun w' => w'.cell? ⟨q', 0, none⟩ = some (.int .i64 y.r) ∧ w'.cell? ⟨q', 1, none⟩ = some (.int .i64 y.a) ∧ w'.cell? ⟨M, plM y.r y.a, none⟩ = some (.bool false)) (by kernel_rfl) ⟨e0, e1, em⟩ (fun hH => ?_)
    refine takeH 0 (v := ?vb0) rfl (by kernel_rfl) (by kernel_rfl) (by kernel_rfl) (fun _ _ _ h => h) hH rfl ?yb0 ?rb0
    case yb0 => intro W hSw; go_simp; try with_reducible rfl
    try simp only [Act.put, List.setIfInBounds_toArray, List.set_cons_zero, List.set_cons_succ]
    refine takeH 1 (v := ?vb1) rfl (by kernel_rfl) (by kernel_rfl) (by kernel_rfl) (fun _ _ _ h => h) hH rfl ?yb1 ?rb1
    case yb1 => intro W hSw; go_simp; try with_reducible rfl
    try simp only [Act.put, List.setIfInBounds_toArray, List.set_cons_zero, List.set_cons_succ]
    refine takeH 2 (v := ?vb2) rfl (by kernel_rfl) (by kernel_rfl) (by kernel_rfl) (fun _ _ _ h => h) hH rfl ?yb2 ?rb2
    case yb2 => intro W hSw; go_simp; try with_reducible rfl
    try simp only [Act.put, List.setIfInBounds_toArray, List.set_cons_zero, List.set_cons_succ]
    refine takeH 3 (v := ?vb3) rfl (by kernel_rfl) (by kernel_rfl) (by kernel_rfl) (fun _ _ _ h => h) hH rfl ?yb3 ?rb3
    case yb3 => intro W hSw; go_simp; try with_reducible rfl
    try simp only [Act.put, List.setIfInBounds_toArray, List.set_cons_zero, List.set_cons_succ]
    refine takeH 4 (v := ?vb4) rfl (by kernel_rfl) (by kernel_rfl) (by kernel_rfl) (fun _ _ _ h => h) hH rfl ?yb4 ?rb4
    case yb4 => intro W hSw; go_simp; try with_reducible rfl
    try simp only [Act.put, List.setIfInBounds_toArray, List.set_cons_zero, List.set_cons_succ]
    refine takeH 5 (v := ?vb5) rfl (by kernel_rfl) (by kernel_rfl) (by kernel_rfl) (fun _ _ _ h => h) hH rfl ?yb5 ?rb5
    case yb5 => intro W hSw; go_simp; try with_reducible rfl
    try simp only [Act.put, List.setIfInBounds_toArray, List.set_cons_zero, List.set_cons_succ]
    refine takeH 6 (v := ?vb6) rfl (by kernel_rfl) (by kernel_rfl) (by kernel_rfl) (fun _ _ _ h => h) hH rfl ?yb6 ?rb6
    case yb6 => intro W hSw; go_simp; try with_reducible rfl
    try simp only [Act.put, List.setIfInBounds_toArray, List.set_cons_zero, List.set_cons_succ]
    refine takeH 7 (v := ?vb7) rfl (by kernel_rfl) (by kernel_rfl) (by kernel_rfl) (fun _ _ _ h => h) hH rfl ?yb7 ?rb7
    case yb7 => intro W hSw; go_simp; try with_reducible rfl
    try simp only [Act.put, List.setIfInBounds_toArray, List.set_cons_zero, List.set_cons_succ]
    refine takeH 8 (v := ?vb8) rfl (by kernel_rfl) (by kernel_rfl) (by kernel_rfl) (fun _ _ _ h => h) hH rfl ?yb8 ?rb8
    case yb8 => intro W hSw; go_simp; try with_reducible rfl
    try simp only [Act.put, List.setIfInBounds_toArray, List.set_cons_zero, List.set_cons_succ]
    refine takeH 9 (v := ?vb9) rfl (by kernel_rfl) (by kernel_rfl) (by kernel_rfl) (fun _ _ _ h => h) hH rfl ?yb9 ?rb9
    case yb9 => intro W hSw; go_simp; try with_reducible rfl
    try simp only [Act.put, List.setIfInBounds_toArray, List.set_cons_zero, List.set_cons_succ]
    refine takeH 10 (v := ?vb10) rfl (by kernel_rfl) (by kernel_rfl) (by kernel_rfl) (fun _ _ _ h => h) hH rfl ?yb10 ?rb10
    case yb10 => intro W hSw; go_simp; try with_reducible rfl
    try simp only [Act.put, List.setIfInBounds_toArray, List.set_cons_zero, List.set_cons_succ]
    refine takeH 11 (v := ?vb11) rfl (by kernel_rfl) (by kernel_rfl) (by kernel_rfl) (fun _ _ _ h => h) hH rfl ?yb11 ?rb11
    case yb11 => intro W hSw; go_simp; try with_reducible rfl
    try simp only [Act.put, List.setIfInBounds_toArray, List.set_cons_zero, List.set_cons_succ]
    refine takeH 12 (v := ?vb12) rfl (by kernel_rfl) (by kernel_rfl) (by kernel_rfl) (fun _ _ _ h => h) hH rfl ?yb12 ?rb12
    case yb12 => intro W hSw; go_simp; try with_reducible rfl
    try simp only [Act.put, List.setIfInBounds_toArray, List.set_cons_zero, List.set_cons_succ]
    refine takeH 13 (v := ?vb13) rfl (by kernel_rfl) (by kernel_rfl) (by kernel_rfl) (fun _ _ _ h => h) hH rfl ?yb13 ?rb13
    case yb13 => intro W hSw; go_simp; try with_reducible rfl
    try simp only [Act.put, List.setIfInBounds_toArray, List.set_cons_zero, List.set_cons_succ]
    refine takeH 14 (v := ?vb14) rfl (by kernel_rfl) (by kernel_rfl) (by kernel_rfl) (fun _ _ _ h => h) hH rfl ?yb14 ?rb14
    case yb14 => intro W hSw; go_simp; try with_reducible rfl
    try simp only [Act.put, List.setIfInBounds_toArray, List.set_cons_zero, List.set_cons_succ]
    refine wpAnyH_done (by kernel_rfl) ?_ _
    try simp only [Act.put]
    have hdr : w.grownBy w.drew (some M) := below_rowP (Below.refl _ _).drew _
    have hst : Str w.drew M 130 (marksV bs) := HM2.out
    obtain ⟨e0, e1, em⟩ := hH
    generalize w.drew = W1 at *
    have HG1 := Lib.hid (grownBy_trans HG.out hdr)
    have Hdr := Lib.hid hdr
    have gm : W1.drew.cell? ⟨M, plM y.r y.a, none⟩ = some (.bool false) := em
    have gf : W1.drew.frozen? ⟨M, plM y.r y.a, none⟩ = false := hst.frozen _
    have Hst := Lib.hid hst
    clear hst hdr em
    go_wp2_with fail
    refine wp_region_L 14 (fun w' => w'.cell? ⟨q', 0, none⟩ = some (.int .i64 y.r) ∧ w'.cell? ⟨q', 1, none⟩ = some (.int .i64 y.a)) (by kernel_rfl) ⟨e0, e1⟩ (fun hH => ?_)
    refine takeL 0 (v := ?vc0) rfl (by kernel_rfl) (by kernel_rfl) (by kernel_rfl) (by kernel_rfl) (by kernel_rfl) (fun _ _ _ h => h) hH rfl ?yc0 ?rc0
    case yc0 => intro w hSw; go_simp; try with_reducible rfl
    try simp only [Act.put, List.setIfInBounds_toArray, List.set_cons_zero, List.set_cons_succ]
    refine takeL 1 (v := ?vc1) rfl (by kernel_rfl) (by kernel_rfl) (by kernel_rfl) (by kernel_rfl) (by kernel_rfl) (fun _ _ _ h => h) hH rfl ?yc1 ?rc1
    case yc1 => intro w hSw; go_simp; try with_reducible rfl
    try simp only [Act.put, List.setIfInBounds_toArray, List.set_cons_zero, List.set_cons_succ]
    refine takeL 2 (v := ?vc2) rfl (by kernel_rfl) (by kernel_rfl) (by kernel_rfl) (by kernel_rfl) (by kernel_rfl) (fun _ _ _ h => h) hH rfl ?yc2 ?rc2
    case yc2 => intro w hSw; go_simp; try with_reducible rfl
    try simp only [Act.put, List.setIfInBounds_toArray, List.set_cons_zero, List.set_cons_succ]
    refine takeL 3 (v := ?vc3) rfl (by kernel_rfl) (by kernel_rfl) (by kernel_rfl) (by kernel_rfl) (by kernel_rfl) (fun _ _ _ h => h) hH rfl ?yc3 ?rc3
    case yc3 => intro w hSw; go_simp; try with_reducible rfl
    try simp only [Act.put, List.setIfInBounds_toArray, List.set_cons_zero, List.set_cons_succ]
    refine takeL 4 (v := ?vc4) rfl (by kernel_rfl) (by kernel_rfl) (by kernel_rfl) (by kernel_rfl) (by kernel_rfl) (fun _ _ _ h => h) hH rfl ?yc4 ?rc4
    case yc4 => intro w hSw; go_simp; try with_reducible rfl
    try simp only [Act.put, List.setIfInBounds_toArray, List.set_cons_zero, List.set_cons_succ]
    refine takeL 5 (v := ?vc5) rfl (by kernel_rfl) (by kernel_rfl) (by kernel_rfl) (by kernel_rfl) (by kernel_rfl) (fun _ _ _ h => h) hH rfl ?yc5 ?rc5
    case yc5 => intro w hSw; go_simp; try with_reducible rfl
    try simp only [Act.put, List.setIfInBounds_toArray, List.set_cons_zero, List.set_cons_succ]
    refine takeL 6 (v := ?vc6) rfl (by kernel_rfl) (by kernel_rfl) (by kernel_rfl) (by kernel_rfl) (by kernel_rfl) (fun _ _ _ h => h) hH rfl ?yc6 ?rc6
    case yc6 => intro w hSw; go_simp; try with_reducible rfl
    try simp only [Act.put, List.setIfInBounds_toArray, List.set_cons_zero, List.set_cons_succ]
    refine takeL 7 (v := ?vc7) rfl (by kernel_rfl) (by kernel_rfl) (by kernel_rfl) (by kernel_rfl) (by kernel_rfl) (fun _ _ _ h => h) hH rfl ?yc7 ?rc7
    case yc7 => intro w hSw; go_simp; try with_reducible rfl
    try simp only [Act.put, List.setIfInBounds_toArray, List.set_cons_zero, List.set_cons_succ]
    refine takeL 8 (v := ?vc8) rfl (by kernel_rfl) (by kernel_rfl) (by kernel_rfl) (by kernel_rfl) (by kernel_rfl) (fun _ _ _ h => h) hH rfl ?yc8 ?rc8
    case yc8 => intro w hSw; go_simp; try with_reducible rfl
    try simp only [Act.put, List.setIfInBounds_toArray, List.set_cons_zero, List.set_cons_succ]
    refine takeL 9 (v := ?vc9) rfl (by kernel_rfl) (by kernel_rfl) (by kernel_rfl) (by kernel_rfl) (by kernel_rfl) (fun _ _ _ h => h) hH rfl ?yc9 ?rc9
    case yc9 => intro w hSw; go_simp; try with_reducible rfl
    try simp only [Act.put, List.setIfInBounds_toArray, List.set_cons_zero, List.set_cons_succ]
    refine takeL 10 (v := ?vc10) rfl (by kernel_rfl) (by kernel_rfl) (by kernel_rfl) (by kernel_rfl) (by kernel_rfl) (fun _ _ _ h => h) hH rfl ?yc10 ?rc10
    case yc10 => intro w hSw; go_simp; try with_reducible rfl
    try simp only [Act.put, List.setIfInBounds_toArray, List.set_cons_zero, List.set_cons_succ]
    refine callL 11 rfl (by kernel_rfl) rfl (fun K hK => ?_)
    go_simp
    refine hK.out _ _ hH (fun hH => ?_)
    clear hK K
    try simp only [Act.put, List.setIfInBounds_toArray, List.set_cons_zero, List.set_cons_succ]
    refine callL 12 rfl (by kernel_rfl) rfl (fun K hK => ?_)
    go_simp
    refine hK.out _ _ hH (fun hH => ?_)
    clear hK K
    try simp only [Act.put, List.setIfInBounds_toArray, List.set_cons_zero, List.set_cons_succ]
    refine callL 13 rfl (by kernel_rfl) rfl (fun K hK => ?_)
    go_simp
    refine hK.out _ _ hH (fun hH => ?_)
    clear hK K
    try simp only [Act.put, List.setIfInBounds_toArray, List.set_cons_zero, List.set_cons_succ]
    refine lastL rfl (by kernel_rfl) (by kernel_rfl) (by kernel_rfl) rfl (fun K hK => ?_)
    go_simp
    refine hK.out _ _ ?_
    clear hK K
    try simp only [Act.put, List.setIfInBounds_toArray, List.set_cons_zero, List.set_cons_succ]
    have hs2 : Str (W1.setCell ⟨M, plM y.r y.a, none⟩ (.bool true)).drew M 130 (marksV (setM bs (plM y.r y.a))) := by
      have := Str.set (W := W1) Hst.out (plM y.r y.a) (.bool true)
      rw [marksV_set] at this
      exact this
    have hg2 : W1.grownBy (W1.setCell ⟨M, plM y.r y.a, none⟩ (.bool true)).drew (some M) := grownBy_trans (grownBy_set W1 M (plM y.r y.a) (.bool true)) (below_rowP (Below.refl _ _).drew _)
    generalize (W1.setCell ⟨M, plM y.r y.a, none⟩ (.bool true)).drew = W2 at *
    have HG2 := Lib.hid (grownBy_trans HG1.out hg2)
    have Hg2 := Lib.hid (grownBy_trans Hdr.out hg2)
    have Hs2 := Lib.hid hs2
    have e4 := (HN.out W2 HG2.out).1.cell 4 (v := .slice pp qs.length pcap) rfl
    clear hs2 hg2 gm gf e0 e1 hH
    go_wp2_with fail
    go_loopw [40] (fun i wr => ∃ (k : Nat) (b2 : Nat → Bool), k ≤ qs.length ∧ i = .int .i64 k ∧ wl.grownBy wr (some M) ∧ w.grownBy wr (some M) ∧ Str wr M 130 (marksV b2) ∧ Mkk g y bs b2 k) (fun i _ => qs.length - (intOf i).toNat)
    case atStart => exact ⟨0, _, by omega, rfl, HG2.out, Hg2.out, Hs2.out, Hk0.out⟩
    case round =>
      obtain ⟨k, b2, hk, rfl, hgl, hgw, hsm, hmk⟩ := hrel
      by_cases hlt : k < qs.length
      · obtain ⟨gb, cap, ep, _, _, hcell⟩ := (HN.out wr hgl).2.cell k hlt
        have hkp : k < y.ps.length := by have := Hql.out; omega
        obtain ⟨z, hz, hzr, hza⟩ := Hpar.out y hy y.ps[k] (List.getElem_mem hkp)
        have hr1 : 1 ≤ y.r := by
          by_cases e : y.r = 0
          · have := Hr0.out y hy e; omega
          · have := Hiy.out.1; omega
        have hzq : h (plN z.r z.a) = ptrV qs[k] := by rw [hzr, hza]; exact Hqp.out k hlt hkp
        have iz := Hin.out z hz
        unfold inPl at iz
        have Hcall := Lib.hid (Hih.out z.r.toNat (by have := Hn.out; omega) z qs[k] wr b2 hz rfl hzq hgl hsm (by rw [hzr]; exact hmk.cls))
        have Hstep := Lib.hid (fun b3 => mkk_step (b2 := b3) Hin.out hy hmk hz hkp hzr hza)
        have Hgl := Lib.hid hgl
        have Hgw := Lib.hid hgw
        simp only [Value.slice.injEq, true_and] at ep
        obtain ⟨rfl, rfl⟩ := ep
        unfold ptrV at hcell
        generalize qs[k] = qk at *
        clear hgl hgw hsm hmk hzr hza hzq iz hr1 hkp
        go_wp2_with fail
        refine Hcall.out.mono ?_
        rintro e w2 ⟨rfl, hg3, b3, hs3, hd3⟩
        have Hg3 := Lib.hid hg3
        have Hs3 := Lib.hid hs3
        have Hd3 := Lib.hid hd3
        clear hg3 hs3 hd3 hcell
        go_wp2
        go_roundw
        case rel => exact ⟨k + 1, b3, by omega, by go_num, grownBy_trans Hgl.out Hg3.out, grownBy_trans Hgw.out Hg3.out, Hs3.out, Hstep.out _ Hd3.out⟩
        case measure => simp [intOf]; omega
      · have hke : k = y.ps.length := by have := Hql.out; omega
        rw [hke] at hmk
        have Hmk := Lib.hid (mkk_end Hsrt.out Hin.out hy Hc.out hmk)
        have Hgw := Lib.hid hgw
        have Hsm := Lib.hid hsm
        clear hmk hgl hgw hsm hke
        go_wp2
        go_end0
        exact ⟨rfl, Hgw.out, b2, Hsm.out, Hmk.out⟩

end Go.Proofs.YtjekgjlnaochiabDoor

/- What the laws of graphs say of the reference's answers, and the past of a vertex: it is closed, it ends with the vertex; plain facts on lists, nothing here is walked. -/
namespace Go.Proofs.YtjekgjlnaochiabDoor
open Go.RowKit

theorem Own.cap' {E : TypeId} {w : World} {B : Nat} {v : Value} {xs : List Int} (h : Own E w B v xs) : ∀ a n c, v = .slice a n c → xs.length ≤ c := fun a n c e => by subst e; exact h.cap
/-- In a valid graph a vertex is found where it stands. -/
theorem find_uni {c : List Int} {g : List Vx} {r a : Int} (h : graphB c g = true) (k : Nat) (hk : k < g.length) : (g[k].r = r ∧ g[k].a = a) ↔ (k : Int) = findZ g r a := by
  have hs := List.pairwise_iff_getElem.1 (graph_sorted h)
  rcases findZ_cases g r a with ⟨e, hno⟩ | ⟨j, hj, e, hyes, hbef⟩
  · constructor
    · intro hh
      have := hno _ (List.getElem_mem hk)
      exact absurd (decide_eq_true hh) (by unfold sameRA at this; rw [this]; simp)
    · intro hh; omega
  · have hj2 : g[j].r = r ∧ g[j].a = a := of_decide_eq_true hyes
    constructor
    · intro hh
      rcases Nat.lt_trichotomy j k with hlt | heq | hgt
      · have := of_decide_eq_true (hs j k hj hk hlt)
        omega
      · omega
      · have := of_decide_eq_true (hs k j hk hj hgt)
        omega
    · intro hh
      have : k = j := by omega
      subst this
      exact hj2
theorem find_lt (g : List Vx) (r a : Int) : findZ g r a < g.length := by
  rcases findZ_cases g r a with ⟨e, _⟩ | ⟨j, hj, e, _⟩ <;> omega
theorem parent_lt {c : List Int} {g : List Vx} (h : graphB c g = true) {i j : Nat} (hi : i < g.length) {p : Int} (hj : j < g.length) (e : findZ g (g[i].r - 1) p = j) : j < i := by
  have hs := List.pairwise_iff_getElem.1 (graph_sorted h)
  rcases findZ_cases g (g[i].r - 1) p with ⟨e', _⟩ | ⟨j', hj', e', hyes, _⟩
  · omega
  · have : j' = j := by omega
    subst this
    have hr : g[j'].r = g[i].r - 1 := (of_decide_eq_true hyes).1
    rcases Nat.lt_trichotomy j' i with hlt | heq | hgt
    · exact hlt
    · subst heq; omega
    · have := of_decide_eq_true (hs i j' hi hj hgt)
      omega
theorem setB_get (bs : List Bool) (i j : Nat) : (bs.set i true).getD j false = true ↔ bs.getD j false = true ∨ (i = j ∧ j < bs.length) := by
  simp only [List.getD_eq_getElem?_getD, List.getElem?_set]
  by_cases e : i = j
  · subst e
    rw [if_pos rfl]
    by_cases h : i < bs.length
    · rw [if_pos h]; simp [h]
    · rw [if_neg h, List.getElem?_eq_none (by omega)]; simp [h]
  · rw [if_neg e]; simp [e]
theorem foldB_get (g : List Vx) (r : Int) : ∀ (ps : List Int) (bs : List Bool) (j : Nat), (ps.foldl (putB g r) bs).getD j false = true ↔ bs.getD j false = true ∨ ∃ p ∈ ps, (findZ g (r - 1) p).toNat = j ∧ j < bs.length
  | [], bs, j => by simp
  | p :: ps, bs, j => by
    rw [List.foldl_cons, foldB_get g r ps, putB_len]
    unfold putB
    rw [setB_get]
    constructor
    · rintro ((h | h) | ⟨q, hq, h⟩)
      · exact .inl h
      · exact .inr ⟨p, by simp, h⟩
      · exact .inr ⟨q, List.mem_cons_of_mem _ hq, h⟩
    · rintro (h | ⟨q, hq, h⟩)
      · exact .inl (.inl h)
      · rcases List.mem_cons.1 hq with rfl | hq
        · exact .inl (.inr h)
        · exact .inr ⟨q, hq, h⟩
/-- From row n on, the parents of what is marked are marked. -/
def ClosedFrom (g : List Vx) (bs : List Bool) (n : Nat) : Prop := ∀ i (hi : i < g.length), n ≤ i → bs.getD i false = true → ∀ k (hk : k < g[i].ps.length), bs.getD (findZ g (g[i].r - 1) g[i].ps[k]).toNat false = true
theorem fromB_len (g : List Vx) (bs : List Bool) (x : Vx) (i : Nat) : (fromB g bs x i 0).length = bs.length := by
  have hf : ∀ (r : Int) (ps : List Int) (bs : List Bool), (ps.foldl (putB g r) bs).length = bs.length := by
    intro r ps
    induction ps with
    | nil => intro bs; rfl
    | cons p ps ih => intro bs; rw [List.foldl_cons, ih, putB_len]
  unfold fromB
  split
  · exact hf _ _ _
  · rfl
theorem down_closed {c : List Int} {g : List Vx} (h : graphB c g = true) : ∀ (n : Nat) (bs : List Bool), n ≤ g.length → bs.length = g.length → ClosedFrom g bs n → ClosedFrom g (downB g n bs) 0 ∧ (∀ j, bs.getD j false = true → (downB g n bs).getD j false = true) ∧ ∀ j, n ≤ j → (downB g n bs).getD j false = true → bs.getD j false = true
  | 0, bs, _, _, hc => ⟨hc, fun _ h => h, fun _ _ h => h⟩
  | n + 1, bs, hn, hl, hc => by
    have hnl : n < g.length := by omega
    have hpar := fun k hk => graph_parents h n hnl k hk
    rw [downB, getV hnl]
    have hget : ∀ j, (fromB g bs g[n] n 0).getD j false = true ↔ bs.getD j false = true ∨ (bs.getD n false = true ∧ ∃ p ∈ g[n].ps, (findZ g (g[n].r - 1) p).toNat = j ∧ j < bs.length) := by
      intro j
      unfold fromB
      split
      · rename_i hb
        rw [List.drop_zero, foldB_get]
        exact ⟨fun h => h.imp id (fun h => ⟨hb, h⟩), fun h => h.imp id (·.2)⟩
      · rename_i hb
        exact ⟨.inl, fun h => h.elim id fun h => absurd h.1 hb⟩
    have hlow : ∀ j, n ≤ j → (fromB g bs g[n] n 0).getD j false = true → bs.getD j false = true := by
      intro j hj hb
      rcases (hget j).1 hb with hb | ⟨_, p, hp, e, hjl⟩
      · exact hb
      · obtain ⟨k, hk, rfl⟩ := List.mem_iff_getElem.1 hp
        obtain ⟨j', hj', e'⟩ := hpar k hk
        have := parent_lt h hnl hj' e'
        rw [e'] at e
        have : j' = j := by simpa using e
        omega
    have hcl : ClosedFrom g (fromB g bs g[n] n 0) n := by
      intro i hi hni hb k hk
      have hbi := hlow i hni hb
      rcases Nat.eq_or_lt_of_le hni with heq | hlt
      · subst heq
        obtain ⟨j', hj', e'⟩ := hpar k hk
        rw [hget]
        exact .inr ⟨hbi, g[n].ps[k], List.getElem_mem hk, rfl, by rw [e', hl]; simpa using hj'⟩
      · rw [hget]
        exact .inl (hc i hi (by omega) hbi k hk)
    obtain ⟨h1, h2, h3⟩ := down_closed h n _ (by omega) (by rw [fromB_len]; exact hl) hcl
    exact ⟨h1, fun j hb => h2 j ((hget j).2 (.inl hb)), fun j hj hb => hlow j (by omega) (h3 j (by omega) hb)⟩
theorem fromB_get {g : List Vx} {bs : List Bool} {x : Vx} {n : Nat} (j : Nat) : (fromB g bs x n 0).getD j false = true ↔ bs.getD j false = true ∨ (bs.getD n false = true ∧ ∃ p ∈ x.ps, (findZ g (x.r - 1) p).toNat = j ∧ j < bs.length) := by
  unfold fromB
  split
  · rename_i hb
    rw [List.drop_zero, foldB_get]
    exact ⟨fun h => h.imp id (fun h => ⟨hb, h⟩), fun h => h.imp id (·.2)⟩
  · rename_i hb
    exact ⟨.inl, fun h => h.elim id fun h => absurd h.1 hb⟩
/-- What is marked is the vertex itself or a parent of what is marked from row n on. -/
def ProvFrom (g : List Vx) (a : Nat) (bs : List Bool) (n : Nat) : Prop := ∀ j, bs.getD j false = true → j = a ∨ ∃ i, ∃ hi : i < g.length, n ≤ i ∧ bs.getD i false = true ∧ ∃ p ∈ g[i].ps, (findZ g (g[i].r - 1) p).toNat = j
theorem down_prov {g : List Vx} {a : Nat} : ∀ (n : Nat) (bs : List Bool), n ≤ g.length → bs.length = g.length → ProvFrom g a bs n → ProvFrom g a (downB g n bs) 0
  | 0, _, _, _, h => h
  | n + 1, bs, hn, hl, h => by
    have hnl : n < g.length := by omega
    rw [downB, getV hnl]
    refine down_prov n _ (by omega) (by rw [fromB_len]; exact hl) fun j hj => ?_
    rcases (fromB_get j).1 hj with hb | ⟨hb, p, hp, e, _⟩
    · rcases h j hb with e | ⟨i, hi, hni, hbi, hp⟩
      · exact .inl e
      · exact .inr ⟨i, hi, by omega, (fromB_get i).2 (.inl hbi), hp⟩
    · exact .inr ⟨n, hnl, Nat.le_refl _, (fromB_get n).2 (.inl hb), p, hp, e⟩
/-- Each marked vertex but the last has a later marked one that refers to it. -/
theorem past_least {c : List Int} {g : List Vx} (h : graphB c g = true) {a : Nat} (ha : a < g.length) (j : Nat) (hj : (pastB g (a : Int)).getD j false = true) (hne : j ≠ a) :
    ∃ i, ∃ hi : i < g.length, j < i ∧ (pastB g (a : Int)).getD i false = true ∧ ∃ hjl : j < g.length, g[i].r = g[j].r + 1 ∧ g[j].a ∈ g[i].ps := by
  have e : pastB g (a : Int) = downB g (a + 1) ((List.replicate g.length false).set a true) := by unfold pastB; rw [if_neg (by omega)]; rfl
  have hp : ProvFrom g a (pastB g (a : Int)) 0 := by
    rw [e]
    refine down_prov (a + 1) _ (by omega) (by simp) fun j hb => ?_
    rw [setB_get] at hb
    rcases hb with hb | hb
    · rw [List.getD_eq_getElem?_getD, List.getElem?_replicate] at hb
      split at hb <;> simp at hb
    · exact .inl hb.1.symm
  rcases hp j hj with e1 | ⟨i, hi, _, hbi, p, hpm, ej⟩
  · exact absurd e1 hne
  · obtain ⟨k, hk, rfl⟩ := List.mem_iff_getElem.1 hpm
    obtain ⟨j', hj', e'⟩ := graph_parents h i hi k hk
    rw [e'] at ej
    have : j' = j := by simpa using ej
    subst this
    have hlt := parent_lt h hi hj' e'
    rcases findZ_cases g (g[i].r - 1) g[i].ps[k] with ⟨e2, _⟩ | ⟨j2, hj2, e2, hy, _⟩
    · omega
    · have : j2 = j' := by omega
      subst this
      have hy2 : g[j2].r = g[i].r - 1 ∧ g[j2].a = g[i].ps[k] := of_decide_eq_true hy
      exact ⟨i, hi, hlt, hbi, hj2, by omega, by rw [hy2.2]; exact List.getElem_mem hk⟩
/-- The past of a vertex that is there: it is closed, it has the vertex, and none behind it. -/
theorem past_closed {c : List Int} {g : List Vx} (h : graphB c g = true) {a : Nat} (ha : a < g.length) : ClosedFrom g (pastB g a) 0 ∧ (pastB g a).getD a false = true ∧ ∀ j, a < j → (pastB g a).getD j false = false := by
  have e : pastB g (a : Int) = downB g (a + 1) ((List.replicate g.length false).set a true) := by unfold pastB; rw [if_neg (by omega)]; rfl
  have hb : ∀ j, ((List.replicate g.length false).set a true).getD j false = true ↔ a = j := by
    intro j
    rw [setB_get]
    have : (List.replicate g.length false).getD j false = false := by
      rw [List.getD_eq_getElem?_getD, List.getElem?_replicate]
      split <;> rfl
    rw [this]
    simp
    omega
  obtain ⟨h1, h2, h3⟩ := down_closed h (a + 1) ((List.replicate g.length false).set a true) (by omega) (by simp) (fun i hi hni hbi => by have := (hb i).1 hbi; omega)
  rw [e]
  refine ⟨h1, h2 a ((hb a).2 rfl), fun j hj => Bool.eq_false_iff.2 fun hh => ?_⟩
  have := (hb j).1 (h3 j hj hh)
  omega

theorem idxTo_mem {bs : List Bool} {n m : Nat} : (m : Int) ∈ idxTo bs n ↔ m < n ∧ bs.getD m false = true := by
  unfold idxTo
  rw [List.mem_map]
  constructor
  · rintro ⟨k, hk, e⟩
    have : k = m := by have : (k : Int) = m := e; omega
    subst this
    have := List.mem_filter.1 hk
    exact ⟨List.mem_range.1 this.1, this.2⟩
  · rintro ⟨h1, h2⟩
    exact ⟨m, List.mem_filter.2 ⟨List.mem_range.2 h1, h2⟩, rfl⟩
theorem idxTo_all {bs : List Bool} {n : Nat} : ∀ x ∈ idxTo bs n, ∃ m : Nat, x = m ∧ m < n ∧ bs.getD m false = true := by
  intro x hx
  have hx' := hx
  unfold idxTo at hx
  obtain ⟨k, _, rfl⟩ := List.mem_map.1 hx
  exact ⟨k, rfl, idxTo_mem.1 hx'⟩
theorem idxTo_asc (bs : List Bool) (n : Nat) : (idxTo bs n).Pairwise (· < ·) := by
  unfold idxTo
  rw [List.pairwise_map]
  refine (List.Pairwise.filter _ List.pairwise_lt_range).imp fun {a b} h => ?_
  show (a : Int) < b
  omega
/-- What the law of the past asks of the indexes. -/
theorem past_law {c : List Int} {g : List Vx} {r b : Int} {L : List Int} (hL : gpZ c g r b = L) (hne : 0 < L.length) : graphB c g = true ∧ ∃ a : Nat, a < g.length ∧ findZ g r b = a ∧
    (∀ i (hi : i < L.length), ∃ m : Nat, ∃ hm : m < g.length, L[i] = m ∧ ∀ k (hk : k < g[m].ps.length), ∃ j : Nat, j < g.length ∧ findZ g (g[m].r - 1) g[m].ps[k] = j ∧ (j : Int) ∈ L) ∧
    (∀ i (hi : i < L.length), 0 < i → L[i - 1]'(by omega) < L[i]) ∧ L[L.length - 1]'(by omega) = a := by
  cases hgb : graphB c g with
  | false =>
    exfalso
    unfold gpZ at hL
    rw [hgb] at hL
    subst hL
    simp at hne
  | true =>
    have e : idxTo (pastB g (findZ g r b)) g.length = L := by rw [← hL]; unfold gpZ; rw [if_pos hgb]
    rcases findZ_cases g r b with ⟨ez, _⟩ | ⟨a, ha, ez, _⟩
    · exfalso
      rw [ez] at e
      have hall := idxTo_all (bs := pastB g (-1)) (n := g.length)
      rw [e] at hall
      obtain ⟨m, _, _, hm⟩ := hall _ (List.getElem_mem hne)
      unfold pastB at hm
      rw [if_pos (by omega), List.getD_eq_getElem?_getD, List.getElem?_replicate] at hm
      split at hm <;> simp at hm
    · rw [ez] at e
      obtain ⟨h1, h2, h3⟩ := past_closed hgb ha
      have hpw := idxTo_asc (pastB g (a : Int)) g.length
      have hall := idxTo_all (bs := pastB g (a : Int)) (n := g.length)
      have hmem := fun m => idxTo_mem (bs := pastB g (a : Int)) (n := g.length) (m := m)
      rw [e] at hpw hall
      simp only [e] at hmem
      have hasc := List.pairwise_iff_getElem.1 hpw
      refine ⟨rfl, a, ha, ez, fun i hi => ?_, fun i hi h0 => hasc (i - 1) i (by omega) hi (by omega), ?_⟩
      · obtain ⟨m, em, hm, hb⟩ := hall _ (List.getElem_mem hi)
        refine ⟨m, hm, em, fun k hk => ?_⟩
        obtain ⟨j, hj, ej⟩ := graph_parents hgb m hm k hk
        have := h1 m hm (by omega) hb k hk
        rw [ej] at this
        exact ⟨j, hj, ej, (hmem j).2 ⟨hj, this⟩⟩
      · obtain ⟨i, hi, ei⟩ := List.mem_iff_getElem.1 ((hmem a).2 ⟨ha, h2⟩)
        obtain ⟨m, em, hm, hb⟩ := hall _ (List.getElem_mem (show L.length - 1 < L.length by omega))
        have hma : m ≤ a := by
          refine Nat.le_of_not_lt fun hlt => ?_
          rw [h3 m hlt] at hb
          simp at hb
        rcases Nat.eq_or_lt_of_le (show i ≤ L.length - 1 by omega) with hq | hq
        · simp only [← hq, ei]
        · have := hasc i (L.length - 1) hi (by omega) hq
          omega

/-- What P47 asks of the indexes. -/
theorem least_law {c : List Int} {g : List Vx} {r b : Int} {L : List Int} (hL : gpZ c g r b = L) (i : Nat) (hi : i + 1 < L.length) :
    ∃ k, ∃ hk : k < L.length, i < k ∧ ∃ m : Nat, ∃ hm : m < g.length, L[i] = m ∧ ∃ m' : Nat, ∃ hm' : m' < g.length, L[k] = m' ∧ g[m'].r = g[m].r + 1 ∧ g[m].a ∈ g[m'].ps := by
  obtain ⟨hgb, a, ha, hfa, hrow, hasc, hlast⟩ := past_law hL (by omega)
  have e : idxTo (pastB g (a : Int)) g.length = L := by rw [← hL]; unfold gpZ; rw [if_pos hgb, hfa]
  have hpw := idxTo_asc (pastB g (a : Int)) g.length
  have hall := idxTo_all (bs := pastB g (a : Int)) (n := g.length)
  have hmem := fun m => idxTo_mem (bs := pastB g (a : Int)) (n := g.length) (m := m)
  rw [e] at hpw hall
  simp only [e] at hmem
  have hasc := List.pairwise_iff_getElem.1 hpw
  obtain ⟨m, em, hm, hb⟩ := hall _ (List.getElem_mem (show i < L.length by omega))
  have hne : m ≠ a := by
    intro h
    have := hasc i (L.length - 1) (by omega) (by omega) (by omega)
    omega
  obtain ⟨m', hm', hlt, hb', _, h1, h2⟩ := past_least hgb ha m hb hne
  obtain ⟨k, hk, ek⟩ := List.mem_iff_getElem.1 ((hmem m').2 ⟨hm', hb'⟩)
  refine ⟨k, hk, ?_, m, hm, em, m', hm', ek, h1, h2⟩
  rcases Nat.lt_trichotomy i k with h | h | h
  · exact h
  · subst h; omega
  · have := hasc k i hk (by omega) h
    omega

end Go.Proofs.YtjekgjlnaochiabDoor

/- impl's GraphPast, by a walk of its text; conditions: lists are shorter than 2^40 (a graph: 2^20). -/
namespace Go.Proofs.YtjekgjlnaochiabDoor
open Go.RowKit

theorem own_ne_str {E t : TypeId} {w : World} {B M : Nat} {v : Value} {xs : List Int} {vs : Array Value} (h : Own E w B v xs) (s : Str w M t vs) (hne : E ≠ t) : v.ownBlock ≠ some M := by
  intro e
  rcases h.2 with ⟨rfl, _⟩ | ⟨g, cap, cur, rfl, _, hg, _⟩
  · cases e
  · cases e
    have := hg.symm.trans s
    simp at this
    exact hne this.2
theorem pair_uni {g : List Vx} (h : Srt g) {i j : Nat} (hi : i < g.length) (hj : j < g.length) (hr : g[i].r = g[j].r) (ha : g[i].a = g[j].a) : i = j := by
  have hs := List.pairwise_iff_getElem.1 h
  rcases Nat.lt_trichotomy i j with h1 | h1 | h1
  · have := befB_iff.1 (hs i j hi hj h1); omega
  · exact h1
  · have := befB_iff.1 (hs j i hj hi h1); omega
/-- The marks are the past, as the reference reckons it. -/
theorem marks_past {c : List Int} {g : List Vx} (h : graphB c g = true) {a : Nat} (ha : a < g.length) {bs : Nat → Bool} (hm : Mkd g g[a] (fun _ => false) bs) (hr : ∀ z ∈ g, z.r ≤ g[a].r ∨ True) : ∀ j (hj : j < g.length), bs (plM g[j].r g[j].a) = (pastB g a).getD j false := by
  have hs := graph_sorted h
  obtain ⟨hcl, hca, hcb⟩ := past_closed h ha
  have hfind : ∀ j (hj : j < g.length), findZ g g[j].r g[j].a = j := fun j hj => by
    obtain ⟨k, hk, e, e2⟩ := findZ_mem hs (List.getElem_mem hj)
    rw [e, pair_uni hs hk hj (by rw [e2]) (by rw [e2])]
  have h1 : ∀ j (hj : j < g.length), bs (plM g[j].r g[j].a) = true → (pastB g a).getD j false = true := by
    intro j hj hb
    rcases hm.only (fun z => ∃ i, ∃ hi : i < g.length, g[i] = z ∧ (pastB g a).getD i false = true) (fun y hy hP p hp z hz er ea => by
      obtain ⟨i, hi, rfl, hb⟩ := hP
      obtain ⟨k, hk, rfl⟩ := List.mem_iff_getElem.1 hp
      obtain ⟨j, hj, e, e2⟩ := findZ_mem hs hz
      rw [er, ea] at e
      have := hcl i hi (Nat.zero_le _) hb k hk
      rw [e, Int.toNat_natCast] at this
      exact ⟨j, hj, e2, this⟩) ⟨a, ha, rfl, hca⟩ g[j] (List.getElem_mem hj) hb with h0 | ⟨i, hi, e, hb⟩
    · cases h0
    · rwa [pair_uni hs hi hj (by rw [e]) (by rw [e])] at hb
  have h2 : ∀ n j, (hj : j < g.length) → g.length - j ≤ n → (pastB g a).getD j false = true → bs (plM g[j].r g[j].a) = true ∧ g[j].r ≤ g[a].r := by
    intro n
    induction n with
    | zero => intro j hj hn; omega
    | succ n ih =>
      intro j hj hn hb
      by_cases e : j = a
      · subst e; exact ⟨hm.it, Int.le_refl _⟩
      · obtain ⟨i, hi, hji, hbi, _, er, ep⟩ := past_least h ha j hb e
        obtain ⟨i1, i2⟩ := ih i hi (by omega) hbi
        have := hm.cls g[i] (List.getElem_mem hi) i2 i1 g[j].a ep
        rw [show g[i].r - 1 = g[j].r by omega] at this
        exact ⟨this, by omega⟩
  intro j hj
  cases hb : (pastB g a).getD j false with
  | true => exact (h2 (g.length - j) j hj (Nat.le_refl _) hb).1
  | false =>
    cases hb2 : bs (plM g[j].r g[j].a) with
    | false => rfl
    | true => rw [h1 j hj hb2] at hb; cases hb
theorem pastB_none (g : List Vx) : idxTo (pastB g (-1)) g.length = [] := by
  unfold idxTo pastB
  rw [if_pos (by omega)]
  rw [List.map_eq_nil_iff, List.filter_eq_nil_iff]
  intro i hi
  have hi' := List.mem_range.1 hi
  simp [List.getD, hi']

end Go.Proofs.YtjekgjlnaochiabDoor

/- impl's test of leaders, by walks of its texts; condition: lists are shorter than 2^40. -/
namespace Go.Proofs.YtjekgjlnaochiabDoor
open Go.RowKit

set_option maxHeartbeats 1000000 in
theorem committee_hasLeaders (ac : Option Addr) (capc : Nat) (n : Nat) (al : Option Addr) (cap : Nat) (ls : List Int) (w : World) (_hn : n ≤ 1099511627776) (hbig : ls.length ≤ 1099511627776) (hc : IntsAt w al ls) :
    Calls Tryd.prog 85 #[.slice ac n capc, .slice al ls.length cap] w fun e w' => e = .returned (.bool (ldsB n ls)) ∧ w = w' := by
  have Hc := Lib.hid hc; clear hc
  by_cases h15 : ls.length ≤ 15
  case neg =>
    have hz := Lib.hid (show ldsB n ls = false by unfold ldsB; rw [decide_eq_false h15]; simp)
    have h15' : decide ((15 : Int) < (ls.length : Int)) = true := decide_eq_true (by omega)
    have h15'' : (15 : Int) < (ls.length : Int) := by omega
    go_enter Tryd.func85, Tryd.ntmps85
    go_wp2
    go_ret
    exact ⟨by rw [hz.out]; rfl, rfl⟩
  have hz := Lib.hid (show ldsB n ls = allB (okLd n ls) ls.length by unfold ldsB; rw [decide_eq_true h15]; simp)
  have h15' : ¬ (15 : Int) < (ls.length : Int) := by omega
  go_enter Tryd.func85, Tryd.ntmps85
  go_wp2
  go_loopw [12] (fun i wr => ∃ k : Nat, k ≤ ls.length ∧ i = .int .i64 k ∧ Hid (Upto (okLd n ls) k) ∧ w = wr) (fun i _ => ls.length - (intOf i).toNat)
  case atStart => exact ⟨0, by omega, rfl, Lib.hid (upto_zero _), rfl⟩
  case round =>
    obtain ⟨k, hk, rfl, hup, rfl⟩ := hrel
    by_cases hlt : k < ls.length
    · obtain ⟨b, off, rfl, hb, hat⟩ := Hc.out.cell (by omega)
      have hcell := hat k hlt
      have hgd := getD_get hlt
      have hok : okLd n ls k = decide (0 ≤ ls[k] ∧ ls[k] ≤ (n : Int) - 1) := by unfold okLd; rw [hgd]
      have Hok := Lib.hid hok
      clear hat hgd hok
      generalize ls[k] = x at *
      by_cases h1 : x < 0
      · have hres := Lib.hid (show ldsB n ls = false by rw [hz.out]; exact allB_no hlt (Hok.out.trans (decide_eq_false (by omega))))
        go_wp2
        go_ret
        exact ⟨by rw [hres.out]; rfl, rfl⟩
      by_cases h2 : (n : Int) ≤ x
      · have hres := Lib.hid (show ldsB n ls = false by rw [hz.out]; exact allB_no hlt (Hok.out.trans (decide_eq_false (by omega))))
        go_wp2
        go_ret
        exact ⟨by rw [hres.out]; rfl, rfl⟩
      have Hs := Lib.hid (upto_step hup.out (Hok.out.trans (decide_eq_true (by omega))))
      go_wp2
      go_roundw
      case rel => exact ⟨k + 1, by omega, by go_num, Lib.hid Hs.out, trivial⟩
      case measure => simp [intOf]; omega
    · have hres := Lib.hid (show ldsB n ls = true by rw [hz.out, allB_yes hup.out (by omega)])
      go_wp2
      go_ret
      exact ⟨by rw [hres.out]; rfl, rfl⟩

theorem impl_LeadersValid (ac : Option Addr) (capc : Nat) (c : List Int) (al : Option Addr) (cap : Nat) (ls : List Int) (w : World) (hn : c.length ≤ 1099511627776) (hl : ls.length ≤ 1099511627776) (hc : IntsAt w ac c) (hi : IntsAt w al ls) :
    Calls Tryd.prog 59 #[.slice ac c.length capc, .slice al ls.length cap] w fun e w' => e = .returned (.bool (lvB c ls)) ∧ w = w' := by
  have HV := Lib.hid (impl_CommitteeValid ac capc c w hn hc)
  have HL := Lib.hid (committee_hasLeaders ac capc c.length al cap ls w hn hl hi)
  have Hres := Lib.hid (show lvB c ls = (validB c && ldsB c.length ls) from rfl)
  clear hc hi
  go_enter Tryd.func59, Tryd.ntmps59
  go_wp2_with fail
  refine HV.out.mono ?_
  rintro e w1 ⟨rfl, rfl⟩
  cases h1 : validB c with
  | false =>
    go_wp2
    go_ret
    exact ⟨ret_bool (by rw [Hres.out, h1]; rfl), rfl⟩
  | true =>
  go_wp2_with fail
  refine HL.out.mono ?_
  rintro e w2 ⟨rfl, rfl⟩
  go_wp2
  go_ret
  exact ⟨ret_bool (by rw [Hres.out, h1]; rfl), rfl⟩

end Go.Proofs.YtjekgjlnaochiabDoor

/- impl's graph with its leaders, each by a walk of its text; conditions: lists are shorter than 2^40 (a graph: 2^20). -/
namespace Go.Proofs.YtjekgjlnaochiabDoor
open Go.RowKit

/-- The graph with its leaders. -/
structure Lg (w0 w : World) (hi G q : Nat) (mv : Value) (h : Nat → Value) (g : List Vx) (al : Option Addr) (cap : Nat) (ls : List Int) : Prop where
  lk : Lk w0 w hi G mv h g
  st : Str w q 87 #[.pointer (some ⟨G, 0, none⟩), .slice al ls.length cap]
  hq : hi ≤ q
theorem Lg.under {w0 w w' : World} {hi G q : Nat} {mv : Value} {h : Nat → Value} {g : List Vx} {al : Option Addr} {cap : Nat} {ls : List Int} (l : Lg w0 w hi G q mv h g al cap ls) (hb : Below w.heap.size w w') : Lg w0 w' hi G q mv h g al cap ls :=
  ⟨l.lk.under hb, (hb.block _ l.st.lt).trans l.st, l.hq⟩
set_option maxRecDepth 8000 in
theorem ledGraphOf_no (ac : Option Addr) (capc : Nat) (c : List Int) (g : List Vx) (v : Value) (fp : List Nat) (al : Option Addr) (cap : Nat) (ls : List Int) (eN eI : Addr) (w : World) (hn : c.length ≤ 1099511627776) (hbig : g.length ≤ 1048576) (hps : ∀ x ∈ g, x.ps.length ≤ 1099511627776) (hl : ls.length ≤ 1099511627776) (hc : IntsAt w ac c) (hg : Gr w g v fp) (hi : IntsAt w al ls) (hs : Sen w eN eI) (hno : waB c g ls = false) :
    Calls Tryd.prog 34 #[.slice ac c.length capc, v, .slice al ls.length cap] w fun e w' => e = .returned (.tuple #[.pointer none, .iface 133 (.pointer (some eI))]) ∧ Below w.heap.size w w' := by
  cases hgb : graphB c g with
  | false =>
    have H := Lib.hid (graphOf_no ac capc c g v fp w hn hbig hps hc hg hgb)
    have Hs := Lib.hid hs
    clear hc hg hps hi hs hno hgb
    go_enter Tryd.func34, Tryd.ntmps34
    go_wp2_with fail
    refine H.out.mono ?_
    rintro e w1 ⟨rfl, hb⟩
    have hgI := (Hs.out.below hb).gI
    have Hb := Lib.hid hb; clear hb
    go_wp2_with fail
    go_quiet (fail)
    go_wp2
    go_ret2
    exact ⟨rfl, below_step Hb.out Hb.out.size (((Drawn.refl _).drewN _).below _)⟩
  | true =>
    have hlv : lvB c ls = false := by
      unfold waB at hno; rw [hgb] at hno
      unfold lvB
      rw [show ldsB c.length ls = false by simpa using hno]; simp
    have H := Lib.hid (graphOf_yes ac capc c g v fp w hn hbig hps hc hg hgb)
    have HL := Lib.hid (fun W (hb : Below w.heap.size w W) => impl_LeadersValid ac capc c al cap ls W hn hl (hc.below hb) (hi.below hb))
    rw [hlv] at HL
    have Hs := Lib.hid hs
    clear hc hg hps hi hs hno hgb hlv
    go_enter Tryd.func34, Tryd.ntmps34
    go_wp2_with fail
    refine H.out.mono ?_
    rintro e w1 ⟨G, rfl, hb, _⟩
    have hgI := (Hs.out.below hb).gI
    have Hb := Lib.hid hb; clear hb
    go_wp2_with fail
    refine (HL.out w1 Hb.out).mono ?_
    rintro e w2 ⟨rfl, rfl⟩
    go_wp2_with fail
    go_quiet (fail)
    go_wp2
    go_ret2
    exact ⟨rfl, below_step Hb.out Hb.out.size (((Drawn.refl _).drewN _).below _)⟩
set_option maxRecDepth 8000 in
theorem ledGraphOf_yes (ac : Option Addr) (capc : Nat) (c : List Int) (g : List Vx) (v : Value) (fp : List Nat) (al : Option Addr) (cap : Nat) (ls : List Int) (w : World) (hn : c.length ≤ 1099511627776) (hbig : g.length ≤ 1048576) (hps : ∀ x ∈ g, x.ps.length ≤ 1099511627776) (hl : ls.length ≤ 1099511627776) (hc : IntsAt w ac c) (hg : Gr w g v fp) (hi : IntsAt w al ls) (hyes : waB c g ls = true) :
    Calls Tryd.prog 34 #[.slice ac c.length capc, v, .slice al ls.length cap] w fun e w' => ∃ q G hi' h, e = .returned (.tuple #[.pointer (some ⟨q, 0, none⟩), .nilIface]) ∧ Below w.heap.size w w' ∧ w.heap.size ≤ q ∧ Lg w w' hi' G q (.slice ac c.length capc) h g al cap ls := by
  have hgb : graphB c g = true := by unfold waB at hyes; simp only [Bool.and_eq_true] at hyes; exact hyes.1
  have hv : validB c = true := by have h := hgb; unfold graphB at h; simp only [Bool.and_eq_true] at h; exact h.1
  have hlv : lvB c ls = true := by
    unfold waB at hyes; simp only [Bool.and_eq_true] at hyes
    unfold lvB; rw [hv, hyes.2]; rfl
  have H := Lib.hid (graphOf_yes ac capc c g v fp w hn hbig hps hc hg hgb)
  have HL := Lib.hid (fun W (hb : Below w.heap.size w W) => impl_LeadersValid ac capc c al cap ls W hn hl (hc.below hb) (hi.below hb))
  rw [hlv] at HL
  clear hc hg hps hi hyes hgb hlv hv
  go_enter Tryd.func34, Tryd.ntmps34
  go_wp2_with fail
  refine H.out.mono ?_
  rintro e w1 ⟨G, rfl, hb, hG, hi', h, hL⟩
  have HLk := Lib.hid hL
  have Hb := Lib.hid hb; clear hb hL
  go_wp2_with fail
  refine (HL.out w1 Hb.out).mono ?_
  rintro e w2 ⟨rfl, rfl⟩
  have hal : Below w1.heap.size w1 (w1.alloc (.cells #[.pointer (some ⟨G, 0, none⟩), .slice al ls.length cap] 87)) := (Below.refl _ _).alloc (Nat.le_refl _) _
  have Hal := Lib.hid hal; clear hal
  have HS := Lib.hid (Str.new w1 87 #[.pointer (some ⟨G, 0, none⟩), .slice al ls.length cap])
  go_wp2
  go_ret2
  exact ⟨w1.heap.size, G, hi', h, rfl, below_step Hb.out Hb.out.size Hal.out, Hb.out.size, HLk.out.under Hal.out, HS.out, HLk.out.le⟩

end Go.Proofs.YtjekgjlnaochiabDoor

/- impl's leader vertex of a wave, by walks of its text; condition: there are at most 15 leaders, each from 0 to 6. -/
namespace Go.Proofs.YtjekgjlnaochiabDoor
open Go.RowKit

section
variable {w0 w : World} {hi G q : Nat} {mv : Value} {h : Nat → Value} {g : List Vx} {al : Option Addr} {cap : Nat} {ls : List Int} {eN eI : Addr}
set_option maxRecDepth 8000 in
theorem led_leader_bad (l : Lg w0 w hi G q mv h g al cap ls) (hs : Sen w eN eI) (k : Int) (_hl : ls.length ≤ 15) (hk : ¬ (1 ≤ k ∧ k ≤ ls.length)) :
    Calls Tryd.prog 48 #[.pointer (some ⟨q, 0, none⟩), .int .i64 k] w fun e w' => e = .returned (.tuple #[.pointer none, .iface 133 (.pointer (some eI))]) ∧ Drawn w w' := by
  have c1 := l.st.cell 1 (v := .slice al ls.length cap) rfl
  have hgI := hs.gI
  by_cases h1 : k < 1
  · have h1' : decide (k < 1) = true := decide_eq_true h1
    clear hs l hk
    go_enter Tryd.func48, Tryd.ntmps48
    go_wp2_with fail
    go_quiet (fail)
    go_wp2
    go_ret2
    exact ⟨rfl, (Drawn.refl _).drewN _⟩
  · have h1' : decide (k < 1) = false := decide_eq_false h1
    have h2 : (ls.length : Int) < k := by omega
    have h2' : decide ((ls.length : Int) < k) = true := decide_eq_true h2
    clear hs l hk
    go_enter Tryd.func48, Tryd.ntmps48
    go_wp2_with fail
    go_quiet (fail)
    go_wp2
    go_ret2
    exact ⟨rfl, (Drawn.refl _).drewN _⟩

/-- What the walk needs of a wave that exists. -/
theorem led_at (l : Lg w0 w hi G q mv h g al cap ls) (k : Nat) (hk : 1 ≤ k ∧ k ≤ ls.length) (hl : ls.length ≤ 15) (hls : ∀ j (hj : j < ls.length), 0 ≤ ls[j] ∧ ls[j] ≤ 6) (hi' : IntsAt w al ls) :
    ∃ (L : Int) (b off : Nat), L = ls.getD (k - 1) 0 ∧ 0 ≤ L ∧ L ≤ 6 ∧ al = some ⟨b, off, none⟩ ∧ w.cell? ⟨b, off + (k - 1), none⟩ = some (.int .i64 L) ∧ w.cell? ⟨G, plN (2 * (k : Int) - 1) L, none⟩ = some (h (plN (2 * (k : Int) - 1) L)) := by
  obtain ⟨b, off, rfl, hb, hat⟩ := hi'.cell (by omega)
  have h0 := hls (k - 1) (by omega)
  have hgd : ls.getD (k - 1) 0 = ls[k - 1]'(by omega) := getD_get (by omega)
  refine ⟨ls[k - 1]'(by omega), b, off, hgd.symm, h0.1, h0.2, rfl, hat (k - 1) (by omega), ?_⟩
  exact l.lk.cell (plN_bd (by omega) h0.2).2
set_option maxRecDepth 8000 in
set_option maxHeartbeats 1000000 in
theorem led_leader (l : Lg w0 w hi G q mv h g al cap ls) (hs : Sen w eN eI) (k : Nat) (hk : 1 ≤ k ∧ k ≤ ls.length) (hl : ls.length ≤ 15) (hls : ∀ j (hj : j < ls.length), 0 ≤ ls[j] ∧ ls[j] ≤ 6) (hi' : IntsAt w al ls) (hp : ∀ y ∈ g, inPl y) :
    Calls Tryd.prog 48 #[.pointer (some ⟨q, 0, none⟩), .int .i64 k] w fun e w' => ((ldZ g ls k = -1 ∧ e = .returned (.tuple #[.pointer none, .iface 133 (.pointer (some eN))])) ∨
      ∃ (j : Nat) (hj : j < g.length) (p : Nat), ldZ g ls k = j ∧ h (plN g[j].r g[j].a) = ptrV p ∧ e = .returned (.tuple #[.pointer (some ⟨p, 0, none⟩), .nilIface])) ∧ Drawn w w' := by
  obtain ⟨L, b, off, hL, hL0, hL6, rfl, hlc, hpc⟩ := led_at l k hk hl hls hi'
  obtain ⟨hk1, hk2⟩ := hk
  have c0 := l.st.cell 0 (v := .pointer (some ⟨G, 0, none⟩)) rfl
  have c1 := l.st.cell 1 (v := .slice (some ⟨b, off, none⟩) ls.length cap) rfl
  have hgN := hs.gN
  obtain ⟨o1, ho1, ho2⟩ := run_place G (2 * (k : Int) - 1) L (by omega) (by omega) hL0 hL6
  have Hz := Lib.hid (show ldZ g ls k = findZ g (2 * (k : Int) - 1) L by unfold ldZ; rw [hL])
  have e1 : IntKind.i64.wrap ((k : Int) - 1) = k - 1 := IntWalk.i64_in _ (by omega)
  have e2 : ((k : Int) - 1).toNat = k - 1 := by omega
  have e3 : 0 ≤ (k : Int) - 1 := by omega
  have e4 : (k : Int) - 1 < ls.length := by omega
  have e5 : 1 ≤ (k : Int) := by omega
  have e6 : (k : Int) ≤ 15 := by omega
  have e7 : decide ((k : Int) < 1) = false := decide_eq_false (by omega)
  have e8 : decide ((ls.length : Int) < (k : Int)) = false := decide_eq_false (by omega)
  have Hcase := Lib.hid (findZ_cases g (2 * (k : Int) - 1) L)
  have HLk := Lib.hid l
  have Hp := Lib.hid hp
  clear hs hls hi' hL l hp
  by_cases hz : ∃ (j : Nat) (hj : j < g.length), findZ g (2 * (k : Int) - 1) L = j ∧ g[j].r = 2 * (k : Int) - 1 ∧ g[j].a = L
  · obtain ⟨j, hj, ez, er, ea⟩ := hz
    obtain ⟨p, hq', _⟩ := HLk.out.lk.has g[j] (List.getElem_mem hj)
    have Hq := Lib.hid hq'
    rw [er, ea] at hq'
    rw [hq'] at hpc
    unfold ptrV at hpc
    have Hr := Lib.hid (show ldZ g ls k = j by rw [Hz.out, ez])
    clear hq' er ea ez
    go_enter Tryd.func48, Tryd.ntmps48
    go_wp2_with fail
    go_quiet (fail)
    go_wp2
    go_ret2
    exact ⟨.inr ⟨j, hj, p, Hr.out, Hq.out, rfl⟩, (Drawn.refl _).drewN _⟩
  · have hno : findZ g (2 * (k : Int) - 1) L = -1 ∧ ∀ y ∈ g, ¬ (y.r = 2 * (k : Int) - 1 ∧ y.a = L) := by
      rcases Hcase.out with ⟨e, hn⟩ | ⟨j, hj, e, hy, _⟩
      · exact ⟨e, fun y hy e2 => by have := hn y hy; unfold sameRA at this; simp at this; omega⟩
      · exact absurd ⟨j, hj, e, of_decide_eq_true hy⟩ hz
    have Hr := Lib.hid (show ldZ g ls k = -1 by rw [Hz.out]; exact hno.1)
    rw [HLk.out.lk.non _ _ (by omega) (by omega) hL0 hL6 hno.2] at hpc
    clear hno hz
    go_enter Tryd.func48, Tryd.ntmps48
    go_wp2_with fail
    go_quiet (fail)
    go_wp2_with fail
    go_quiet (fail)
    go_wp2
    go_ret2
    exact ⟨.inl ⟨Hr.out, rfl⟩, ((Drawn.refl _).drewN _).drewN _⟩
end

end Go.Proofs.YtjekgjlnaochiabDoor

/- impl's votes for a leader vertex and the library's search among pointers, each by a walk of its text; conditions: the graph and the leaders are valid, lists are shorter than 2^40. -/
namespace Go.Proofs.YtjekgjlnaochiabDoor
open Go.RowKit

/-- All that holds of a valid graph with valid leaders. -/
structure Good21 (c : List Int) (g : List Vx) (ls : List Int) : Prop where
  gb : graphB c g = true
  hv : validB c = true
  srt : Srt g
  pl : ∀ y ∈ g, inPl y
  aut : ∀ y ∈ g, 0 ≤ y.a ∧ y.a < (c.length : Int)
  par : Par g
  r0 : ∀ y ∈ g, y.r = 0 → y.ps.length = 0
  ps : ∀ y ∈ g, y.ps.length ≤ 1099511627776
  l15 : ls.length ≤ 15
  l6 : ∀ j (hj : j < ls.length), 0 ≤ ls[j] ∧ ls[j] ≤ 6
theorem good21 {c : List Int} {g : List Vx} {ls : List Int} (h : waB c g ls = true) (hps : ∀ x ∈ g, x.ps.length ≤ 1099511627776) : Good21 c g ls := by
  unfold waB at h; simp only [Bool.and_eq_true] at h
  obtain ⟨hgb, hl⟩ := h
  have hv : validB c = true := by have h := hgb; unfold graphB at h; simp only [Bool.and_eq_true] at h; exact h.1
  have hvx := graph_vtx hgb
  have hc7 := (validB_len hv).2
  obtain ⟨h15, h6⟩ := ldAt hl
  refine ⟨hgb, hv, graph_sorted hgb, fun y hy => vtx_pl hv (hvx y hy), fun y hy => by have := vtx_author (hvx y hy); exact this, ?_, fun y hy e => vtx_r0 (hvx y hy) e, hps, h15, fun j hj => by have := h6 j hj; omega⟩
  intro y hy p hp
  obtain ⟨i, hi, rfl⟩ := List.mem_iff_getElem.1 hy
  obtain ⟨k, hk, rfl⟩ := List.mem_iff_getElem.1 hp
  obtain ⟨j, hj, e⟩ := graph_parents hgb i hi k hk
  rcases findZ_cases g (g[i].r - 1) g[i].ps[k] with ⟨e', _⟩ | ⟨j', hj', e', hs, _⟩
  · omega
  · exact ⟨g[j'], List.getElem_mem hj', (of_decide_eq_true hs).1, (of_decide_eq_true hs).2⟩

/-! the votes, place by place -/
theorem votSum_filter {f : Vx → Int} {p : Vx → Bool} : ∀ (g : List Vx), (∀ y ∈ g, p y = false → f y = 0) → ((g.filter p).map f).sum = (g.map f).sum
  | [], _ => rfl
  | x :: g, h => by
    have ih := votSum_filter g fun y hy => h y (List.mem_cons_of_mem _ hy)
    cases hp : p x with
    | true => rw [List.filter_cons, if_pos hp, List.map_cons, List.map_cons, List.sum_cons, List.sum_cons, ih]
    | false => rw [List.filter_cons, if_neg (by rw [hp]; simp), List.map_cons, List.sum_cons, ih, h x (by simp) hp]; omega
def votP (c : List Int) (L : Int) (r : Nat) (g : List Vx) (a : Nat) : Int := ((outZ g r a).map (votC c L r)).sum
theorem votP_zero {c : List Int} {L : Int} {r : Nat} {g : List Vx} (h : ∀ v ∈ g, inPl v) : votP c L r g 0 = 0 := by
  unfold votP
  have : ∀ (l : List Vx), (∀ y ∈ l, y.r < (r : Int)) → (l.map (votC c L r)).sum = 0 := by
    intro l
    induction l with
    | nil => intro _; rfl
    | cons x l ih =>
      intro hl
      rw [List.map_cons, List.sum_cons, ih fun y hy => hl y (List.mem_cons_of_mem _ hy)]
      have := hl x (by simp)
      unfold votC
      rw [if_neg (by omega)]; omega
  refine this _ fun y hy => ?_
  unfold outZ at hy
  obtain ⟨hm, hp⟩ := List.mem_filter.1 hy
  have := h y hm
  unfold inPl at this
  unfold plB at hp
  simp at hp; omega
theorem votP_all {c : List Int} {L : Int} {r : Nat} {g : List Vx} (h : ∀ v ∈ g, inPl v) : votP c L r g 7 = votTo c L r g g.length := by
  unfold votP votTo outZ
  rw [List.take_length]
  refine votSum_filter g fun y hy hp => ?_
  have := h y hy
  unfold inPl at this
  unfold plB at hp
  simp at hp
  unfold votC
  rw [if_neg (by omega)]
theorem votP_yes {c : List Int} {L : Int} {r a : Nat} {g : List Vx} {y : Vx} (hs : Srt g) (hy : y ∈ g) (hr : y.r = r) (ha : y.a = a) : votP c L r g (a + 1) = votP c L r g a + (if hasB y.ps L = true then c.getD a 0 else 0) := by
  unfold votP
  rw [outZ_yes hs hy hr ha, List.map_append, List.sum_append]
  congr 1
  show votC c L r y + 0 = _
  unfold votC
  rw [ha, Int.toNat_natCast]
  by_cases hh : hasB y.ps L = true
  · rw [if_pos ⟨hr, hh⟩, if_pos hh]; omega
  · rw [if_neg (fun e => hh e.2), if_neg hh]; rfl
theorem votP_no {c : List Int} {L : Int} {r a : Nat} {g : List Vx} (hs : Srt g) (hn : ∀ v ∈ g, ¬ (v.r = (r : Int) ∧ v.a = (a : Int))) : votP c L r g (a + 1) = votP c L r g a := by
  unfold votP
  rw [outZ_no hs hn]
theorem votP_bd {c : List Int} {L : Int} {r a : Nat} {g : List Vx} (hv : validB c = true) : 0 ≤ votP c L r g a ∧ votP c L r g a ≤ 9 * g.length := by
  have h := votTo_bd (c := c) (L := L) (r := r) (g := outZ g r a) hv _ (Nat.le_refl _)
  have hl := outZ_len g r a
  unfold votTo at h
  rw [List.take_length] at h
  unfold votP
  omega

/-- A pointer is among a vertex's parents exactly if its author is. -/
theorem nd_has {w0 w : World} {hi G : Nat} {mv : Value} {h : Nat → Value} {g : List Vx} (l : Lk w0 w hi G mv h g) (hpar : Par g) {y z : Vx} (hy : y ∈ g) (hz : z ∈ g) (hr : z.r = y.r - 1) {p : Nat} (hp : h (plN z.r z.a) = ptrV p) {qs : List Nat} (hl : qs.length = y.ps.length)
    (hq : ∀ j (hj : j < qs.length) (hj' : j < y.ps.length), h (plN (y.r - 1) y.ps[j]) = ptrV qs[j]) : p ∈ qs ↔ hasB y.ps z.a = true := by
  have hinj : ∀ a b : Nat, ptrV a = ptrV b → a = b := fun a b e => by unfold ptrV at e; simpa using e
  constructor
  · intro hm
    obtain ⟨i, hi', e⟩ := List.mem_iff_getElem.1 hm
    have hii : i < y.ps.length := by omega
    obtain ⟨x, hx, hxr, hxa⟩ := hpar y hy y.ps[i] (List.getElem_mem hii)
    obtain ⟨qx, hqx, nx⟩ := l.has x hx
    obtain ⟨qz, hqz, nz⟩ := l.has z hz
    have h1 := hq i hi' hii
    rw [hxr, hxa, h1] at hqx
    have e1 := hinj _ _ hqx
    rw [hp] at hqz
    have e2 := hinj _ _ hqz
    have e3 : qx = qz := by rw [← e1, ← e2, e]
    obtain ⟨_, _, _, _, sx, _⟩ := nx.ex
    obtain ⟨_, _, _, _, sz, _⟩ := nz.ex
    rw [e3] at sx
    have e4 := (sx.cell 1 (v := .int .i64 x.a) rfl).symm.trans (sz.cell 1 (v := .int .i64 z.a) rfl)
    have e5 : x.a = z.a := by simpa using e4
    rw [← e5, hxa]
    exact hasB_yes hii
  · intro hh
    have hm : z.a ∈ y.ps := of_decide_eq_true hh
    obtain ⟨i, hi', e⟩ := List.mem_iff_getElem.1 hm
    have h1 := hq i (by omega) hi'
    rw [e, ← hr, hp] at h1
    rw [hinj _ _ h1]
    exact List.getElem_mem _

theorem lv_size : (Tryd.prog.info? 71).map (·.size) = some 5 := by kernel_rfl
set_option maxRecDepth 8000 in
theorem lib_IndexP (pp : Option Addr) (pcap : Nat) (qs : List Nat) (p B : Nat) (w : World) (hbig : qs.length ≤ 1099511627776) (ho : OwnP 66 w B (.slice pp qs.length pcap) qs) (hb : ∀ x, x = p ∨ x ∈ qs → ∃ c t, w.heap[x]? = some (.cells c t (0, 0))) :
    Calls Tryd.prog 88 #[.slice pp qs.length pcap, .pointer (some ⟨p, 0, none⟩)] w fun e w' => (∃ z : Int, e = .returned (.int .i64 z) ∧ (p ∈ qs → 0 ≤ z) ∧ (p ∉ qs → z = -1)) ∧ w = w' := by
  obtain ⟨i5, hi5, hsz⟩ := Option.map_eq_some_iff.1 lv_size
  have Ho := Lib.hid ho; have Hb := Lib.hid hb
  clear ho hb
  go_enter Tryd.func88, Tryd.ntmps88
  go_wp2
  go_loopw [8] (fun i wr => ∃ k : Nat, k ≤ qs.length ∧ i = .int .i64 k ∧ Hid (∀ j (hj : j < qs.length), j < k → qs[j] ≠ p) ∧ w = wr) (fun i _ => qs.length - (intOf i).toNat)
  case atStart => exact ⟨0, by omega, rfl, Lib.hid (fun j _ h => by omega), rfl⟩
  case round =>
    obtain ⟨k, hk, rfl, hup, rfl⟩ := hrel
    by_cases hlt : k < qs.length
    · obtain ⟨gb, cap', hpe, _, _, hcell⟩ := Ho.out.cell k hlt
      obtain ⟨rfl, rfl⟩ : pp = some ⟨gb, 0, none⟩ ∧ pcap = cap' := by simpa using hpe
      unfold ptrV at hcell
      clear hpe
      by_cases e : qs[k] = p
      · have hcell2 : w.cell? ⟨gb, k, none⟩ = some (.pointer (some ⟨p, 0, none⟩)) := by rw [hcell, e]
        have heq := run_eql_ptr_same (P := Tryd.prog) w ⟨p, 0, none⟩ Tryd.underlying66 hi5
        have hm : p ∈ qs := by rw [← e]; exact List.getElem_mem hlt
        have Hm := Lib.hid hm
        clear hcell hm e
        go_wp2
        go_ret
        exact ⟨⟨_, rfl, fun _ => by omega, fun h => absurd Hm.out h⟩, rfl⟩
      · obtain ⟨ca, ta, ha⟩ := Hb.out p (.inl rfl)
        obtain ⟨cb, tb, hb⟩ := Hb.out qs[k] (.inr (List.getElem_mem hlt))
        have heq := run_eql_ptr_other (P := Tryd.prog) w (a := ⟨p, 0, none⟩) (b := ⟨qs[k], 0, none⟩) Tryd.underlying66 hi5 (by rw [hsz]; decide) (fun h => e (by injection h with h1; exact h1.symm)) ha hb
        have Hs := Lib.hid (show ∀ j (hj : j < qs.length), j < k + 1 → qs[j] ≠ p from fun j hj hjk => by
          by_cases e2 : j = k
          · subst e2; exact e
          · exact hup.out j hj (by omega))
        clear e ha hb hup
        generalize qs[k] = y at *
        go_wp2
        go_roundw
        case rel => exact ⟨k + 1, by omega, by go_num, Lib.hid Hs.out, trivial⟩
        case measure => simp [intOf]; omega
    · go_wp2
      go_ret
      refine ⟨⟨_, rfl, fun h => ?_, fun _ => rfl⟩, rfl⟩
      obtain ⟨j, hj, e⟩ := List.mem_iff_getElem.1 h
      exact absurd e (hup.out j hj (by omega))

theorem lib_ContainsP (pp : Option Addr) (pcap : Nat) (qs : List Nat) (p B : Nat) (w : World) (hbig : qs.length ≤ 1099511627776) (ho : OwnP 66 w B (.slice pp qs.length pcap) qs) (hb : ∀ x, x = p ∨ x ∈ qs → ∃ c t, w.heap[x]? = some (.cells c t (0, 0))) :
    Calls Tryd.prog 72 #[.slice pp qs.length pcap, .pointer (some ⟨p, 0, none⟩)] w fun e w' => e = .returned (.bool (decide (p ∈ qs))) ∧ w = w' := by
  have H := Lib.hid (lib_IndexP pp pcap qs p B w hbig ho hb)
  clear ho hb
  go_enter Tryd.func72, Tryd.ntmps72
  go_wp2_with fail
  refine H.out.mono ?_
  rintro e w1 ⟨⟨z, rfl, h1, h2⟩, rfl⟩
  by_cases hm : p ∈ qs
  · have hz := h1 hm
    have Hr := Lib.hid (show decide (p ∈ qs) = true from decide_eq_true hm)
    have hz' : decide (0 ≤ z) = true := decide_eq_true hz
    clear h1 h2 hm
    go_wp2
    go_ret
    exact ⟨by rw [Hr.out]; rfl, rfl⟩
  · have hz := h2 hm
    subst hz
    have Hr := Lib.hid (show decide (p ∈ qs) = false from decide_eq_false hm)
    clear h1 h2 hm
    go_wp2
    go_ret
    exact ⟨by rw [Hr.out]; rfl, rfl⟩

end Go.Proofs.YtjekgjlnaochiabDoor

/- impl's votes for a wave's leader vertex and whether it is committed directly, by walks of their texts; conditions: the graph and the leaders are valid, lists are shorter than 2^40. -/
namespace Go.Proofs.YtjekgjlnaochiabDoor
open Go.RowKit

section
variable {w0 w : World} {hi G q : Nat} {ac : Option Addr} {capc : Nat} {c : List Int} {h : Nat → Value} {g : List Vx} {al : Option Addr} {cap : Nat} {ls : List Int} {eN eI : Addr}
theorem run_row (G : Nat) (r : Int) (k : Nat) (hr : r = k) (hk : k < 31) : ∀ w, (Instr.indexAt 96 (.pointer (some ⟨G, 1, none⟩)) (.int .i64 r)).run Tryd.prog w = .ok (.pointer (some ⟨G, 1 + k * 7, none⟩)) w :=
  fun w => run_index_z (s := 7) Tryd.underlying96 (by kernel_rfl) hr hk w
set_option maxRecDepth 8000 in
theorem led_votes_bad {mv : Value} (l : Lg w0 w hi G q mv h g al cap ls) (hs : Sen w eN eI) (k : Int) (hl : ls.length ≤ 15) (hk : ¬ (1 ≤ k ∧ k ≤ ls.length)) :
    Calls Tryd.prog 51 #[.pointer (some ⟨q, 0, none⟩), .int .i64 k] w fun e w' => e = .returned (.tuple #[.int .i64 0, .iface 133 (.pointer (some eI))]) ∧ Drawn w w' := by
  have H := Lib.hid (led_leader_bad l hs k hl hk)
  clear hs l hk
  go_enter Tryd.func51, Tryd.ntmps51
  go_wp2_with fail
  refine H.out.mono ?_
  rintro e w1 ⟨rfl, hd⟩
  go_wp2
  go_ret2
  exact ⟨rfl, hd⟩
set_option maxRecDepth 8000 in
set_option maxHeartbeats 2000000 in
theorem led_votes (l : Lg w0 w hi G q (.slice ac c.length capc) h g al cap ls) (hs : Sen w eN eI) (k : Nat) (hk : 1 ≤ k ∧ k ≤ ls.length) (ok : Good21 c g ls) (hbg : g.length ≤ 1048576) (hc : IntsAt w ac c) (hi' : IntsAt w al ls) :
    Calls Tryd.prog 51 #[.pointer (some ⟨q, 0, none⟩), .int .i64 k] w fun e w' => ((ldZ g ls k = -1 ∧ e = .returned (.tuple #[.int .i64 0, .iface 133 (.pointer (some eN))])) ∨
      (0 ≤ ldZ g ls k ∧ e = .returned (.tuple #[.int .i64 (voZ c g ls k), .nilIface]))) ∧ Drawn w w' := by
  have H := Lib.hid (led_leader l hs k hk ok.l15 ok.l6 hi' ok.pl)
  have HLg := Lib.hid l
  have Hok := Lib.hid ok
  have Hc := Lib.hid hc
  have h15 := ok.l15
  obtain ⟨hk1, hk2⟩ := hk
  clear hs l ok hc hi'
  go_enter Tryd.func51, Tryd.ntmps51
  go_wp2_with fail
  refine H.out.mono ?_
  rintro e w1 ⟨hcase, hd⟩
  have Hd := Lib.hid hd; clear hd
  rcases hcase with ⟨hz, rfl⟩ | ⟨j, hj, p, hz, hp, rfl⟩
  · have Hz := Lib.hid hz; clear hz
    go_wp2
    go_ret2
    exact ⟨.inl ⟨Hz.out, rfl⟩, Hd.out⟩
  have HL1 := Lib.hid (HLg.out.under (Hd.out.below _))
  have hz2 : g[j].r = 2 * (k : Int) - 1 ∧ g[j].a = ls.getD (k - 1) 0 := by
    rcases findZ_cases g (2 * (k : Int) - 1) (ls.getD (k - 1) 0) with ⟨e, _⟩ | ⟨j', hj', e, hsm, _⟩
    · exact absurd (show ldZ g ls k = -1 from e) (by omega)
    · have : j' = j := by have e9 : ldZ g ls k = j' := e; omega
      subst this
      exact of_decide_eq_true hsm
  have Hz := Lib.hid (show 0 ≤ ldZ g ls k ∧ voZ c g ls k = votTo c (ls.getD (k - 1) 0) (2 * (k : Int)) g g.length from ⟨by omega, by unfold voZ; rw [if_pos (by omega)]⟩)
  generalize ls.getD (k - 1) 0 = L at *
  have Hhas := Lib.hid (fun (y : Vx) (hy : y ∈ g) (hr : y.r = 2 * (k : Int)) (qs : List Nat) hl hq => nd_has HL1.out.lk Hok.out.par (z := g[j]) hy (List.getElem_mem hj) (by omega) hp (qs := qs) hl hq)
  have hpB : ∃ c t, w1.heap[p]? = some (.cells c t (0, 0)) := by
    obtain ⟨qz, hqz, nz⟩ := HL1.out.lk.has g[j] (List.getElem_mem hj)
    rw [hp] at hqz
    have e : p = qz := by unfold ptrV at hqz; simpa using hqz
    obtain ⟨_, _, _, _, sz, _⟩ := nz.ex
    rw [e]; exact ⟨_, _, sz⟩
  have Hptr := Lib.hid (show ∀ y ∈ g, ∃ qy, h (plN y.r y.a) = ptrV qy ∧ ∃ c t, w1.heap[qy]? = some (.cells c t (0, 0)) from fun y hy => by
    obtain ⟨qz, hqz, nz⟩ := HL1.out.lk.has y hy
    obtain ⟨_, _, _, _, sz, _⟩ := nz.ex
    exact ⟨qz, hqz, _, _, sz⟩)
  rw [hz2.2] at Hhas
  have HpB := Lib.hid hpB
  have q0 := HL1.out.st.cell 0 (v := .pointer (some ⟨G, 0, none⟩)) rfl
  have g0 := HL1.out.lk.cell (k := 0) (by omega)
  rw [HL1.out.lk.mem] at g0
  have hrow := run_row G (2 * (k : Int)) (2 * k) (by omega) (by omega)
  have hrange : w1.rangeAt G (1 + 2 * k * 7) (arrP 7 fun a => h (1 + (2 * k * 7 + a))).toList := by
    have h1 := World.rangeAt_of_block HL1.out.lk.str (1 + 2 * k * 7) 7
    rw [arrP_extract 218 h (1 + 2 * k * 7) 7 (by omega)] at h1
    have e : (fun a => h (1 + 2 * k * 7 + a)) = fun a => h (1 + (2 * k * 7 + a)) := by funext a; rw [Nat.add_assoc]
    rw [e] at h1
    exact h1
  have Hrange := Lib.hid hrange
  have e5 : 1 ≤ (k : Int) := by omega
  have e6 : (k : Int) ≤ 15 := by omega
  have ew : IntKind.i64.wrap (2 * (k : Int)) = 2 * (k : Int) := IntWalk.i64_in _ (by omega)
  have Hhj := Lib.hid hj
  have Hhp := Lib.hid hp
  have Hz0 := Lib.hid hz
  have Hz2 := Lib.hid hz2
  have Hw1 := Lib.hid (show Below w.heap.size w w1 from Hd.out.below _)
  clear hrange hpB hz hp hz2
  go_wp2_with (refine wpList_load_mid rfl 94 _ rfl G (1 + 2 * k * 7) rfl (arrP 7 fun a => h (1 + (2 * k * 7 + a))).toList _ Hrange.out Tryd.underlying94 rfl (by rw [Array.length_toList, arrP_size]; kernel_rfl) ?_)
  generalize hrw : arrP 7 (fun a => h (1 + (2 * k * 7 + a))) = row at *
  have hget : ∀ a, a < 7 → row[a]? = some (h (1 + (2 * k * 7 + a))) := fun a ha => by rw [← hrw]; exact arrP_get ha
  have Hget := Lib.hid hget
  clear hget hrw Hrange hrow ew
  go_loopw [8, 30] (fun n i wr => ∃ a : Nat, a ≤ 7 ∧ i = .int .i64 a ∧ n = .int .i64 (votP c L (2 * k) g a) ∧ w1 = wr) (fun _ i _ => 7 - (intOf i).toNat)
  case atStart => exact ⟨0, by omega, rfl, by rw [votP_zero Hok.out.pl], rfl⟩
  case round =>
    obtain ⟨a, ha, rfl, rfl, rfl⟩ := hrel
    have hbd := votP_bd (c := c) (L := L) (r := 2 * k) (a := a) (g := g) Hok.out.hv
    by_cases hla : a < 7
    · have hla' : (a : Int) < 7 := by omega
      have hx2 := fun W => run_index_one (P := Tryd.prog) (cs := row) Tryd.underlying94 Tryd.underlying66 rfl (by kernel_rfl) hla (Hget.out a hla) W
      rcases HL1.out.lk.cases (2 * k) a (by omega) hla with ⟨y, hy, er, ea, qy, hqy, hn⟩ | ⟨hq, hn⟩
      · have er' : y.r = 2 * (k : Int) := by rw [er]; omega
        rw [hqy] at hx2
        unfold ptrV at hx2
        obtain ⟨pa, pc, pv, qs, sq, iq, srq, own, hob, hql, hqp⟩ := hn.ex
        obtain ⟨pp, pcap, rfl, _⟩ := own.slice
        have c4 := sq.cell 4 (v := .slice pp qs.length pcap) rfl
        have hqB : ∀ x, x = p ∨ x ∈ qs → ∃ c t, w1.heap[x]? = some (.cells c t (0, 0)) := by
          rintro x (rfl | hx)
          · exact HpB.out
          · obtain ⟨i, hi2, rfl⟩ := List.mem_iff_getElem.1 hx
            have hii : i < y.ps.length := by omega
            obtain ⟨z, hz, hzr, hza⟩ := Hok.out.par y hy y.ps[i] (List.getElem_mem hii)
            obtain ⟨qz, hqz, cz, tz, hzB⟩ := Hptr.out z hz
            rw [hzr, hza, hqp i hi2 hii] at hqz
            have e : qs[i] = qz := by unfold ptrV at hqz; simpa using hqz
            rw [e]; exact ⟨cz, tz, hzB⟩
        have HC := Lib.hid (lib_ContainsP pp pcap qs p w0.heap.size w1 (by have := Hok.out.ps y hy; omega) own hqB)
        have hiff := Hhas.out y hy er' qs hql hqp
        have hau := Hok.out.aut y hy
        have Hs := Lib.hid (votP_yes (c := c) (L := L) Hok.out.srt hy er ea)
        have Hiff := Lib.hid hiff
        have hA : (a : Int) < c.length := by omega
        obtain ⟨bc, oc, rfl, hbc, hac⟩ := (Hc.out.below Hw1.out).cell (by omega)
        have hcc := hac a (by omega)
        have hcg : c.getD a 0 = c[a]'(by omega) := getD_get (by omega)
        rw [← hcg] at hcc
        have hcb : 0 ≤ c.getD a 0 ∧ c.getD a 0 ≤ 9 := by rw [hcg]; have := validB_good Hok.out.hv a (by omega); omega
        clear hac hcg hau hiff hqB hob own srq iq sq hql hqp hn hqy er er' ea hy
        generalize c.getD a 0 = cA at *
        generalize votP c L (2 * k) g a = V at *
        cases hh : decide (p ∈ qs) with
        | true =>
          rw [hh] at HC
          have HV := Lib.hid (show votP c L (2 * k) g (a + 1) = V + cA by rw [Hs.out, if_pos (Hiff.out.1 (of_decide_eq_true hh))])
          clear hh Hs Hiff
          go_wp2_with fail
          refine HC.out.mono ?_
          rintro e w2 ⟨rfl, rfl⟩
          go_wp2
          go_roundw
          case rel => exact ⟨a + 1, by omega, by go_num, by rw [HV.out], trivial⟩
          case measure => simp [intOf]; omega
        | false =>
          rw [hh] at HC
          have HV := Lib.hid (show votP c L (2 * k) g (a + 1) = V by rw [Hs.out, if_neg (fun e => of_decide_eq_false hh (Hiff.out.2 e))]; omega)
          clear hh Hs Hiff
          go_wp2_with fail
          refine HC.out.mono ?_
          rintro e w2 ⟨rfl, rfl⟩
          go_wp2
          go_roundw
          case rel => exact ⟨a + 1, by omega, by go_num, by rw [HV.out], trivial⟩
          case measure => simp [intOf]; omega
      · rw [hq] at hx2
        have HV := Lib.hid (votP_no (c := c) (L := L) (r := 2 * k) (a := a) Hok.out.srt hn)
        clear hq hn
        generalize votP c L (2 * k) g a = V at *
        go_wp2
        go_roundw
        case rel => exact ⟨a + 1, by omega, by go_num, by rw [HV.out], trivial⟩
        case measure => simp [intOf]; omega
    · have ha7 : a = 7 := by omega
      subst ha7
      have Hv := Lib.hid (show voZ c g ls k = votP c L (2 * k) g 7 by rw [Hz.out.2, votP_all Hok.out.pl]; rfl)
      generalize votP c L (2 * k) g 7 = V at *
      go_wp2
      go_ret2
      exact ⟨.inr ⟨Hz.out.1, by rw [Hv.out]; rfl⟩, Hd.out⟩
end

section
variable {w0 w : World} {hi G q : Nat} {ac : Option Addr} {capc : Nat} {c : List Int} {h : Nat → Value} {g : List Vx} {al : Option Addr} {cap : Nat} {ls : List Int} {eN eI : Addr}
set_option maxRecDepth 8000 in
theorem led_direct_bad {mv : Value} (l : Lg w0 w hi G q mv h g al cap ls) (hs : Sen w eN eI) (k : Int) (hl : ls.length ≤ 15) (hk : ¬ (1 ≤ k ∧ k ≤ ls.length)) :
    Calls Tryd.prog 54 #[.pointer (some ⟨q, 0, none⟩), .int .i64 k] w fun e w' => e = .returned (.bool false) ∧ Drawn w w' := by
  have H := Lib.hid (led_votes_bad l hs k hl hk)
  clear hs l hk
  go_enter Tryd.func54, Tryd.ntmps54
  go_wp2_with fail
  refine H.out.mono ?_
  rintro e w1 ⟨rfl, hd⟩
  go_wp2
  go_ret
  exact ⟨rfl, hd⟩
set_option maxRecDepth 8000 in
set_option maxHeartbeats 1000000 in
theorem led_direct (l : Lg w0 w hi G q (.slice ac c.length capc) h g al cap ls) (hs : Sen w eN eI) (k : Nat) (hk : 1 ≤ k ∧ k ≤ ls.length) (ok : Good21 c g ls) (hbg : g.length ≤ 1048576) (hc : IntsAt w ac c) (hi' : IntsAt w al ls) :
    Calls Tryd.prog 54 #[.pointer (some ⟨q, 0, none⟩), .int .i64 k] w fun e w' => e = .returned (.bool (decide (totalZ c / 3 + 1 ≤ voZ c g ls k))) ∧ Drawn w w' := by
  have H := Lib.hid (led_votes l hs k hk ok hbg hc hi')
  have HL := Lib.hid l
  have HS := Lib.hid (fun W (hb : Below w.heap.size w W) => committee_support ac capc c W ok.hv (hc.below hb))
  have hbd := totalZ_bd ok.hv
  clear hs l hk ok hc hi'
  go_enter Tryd.func54, Tryd.ntmps54
  go_wp2_with fail
  refine H.out.mono ?_
  rintro e w1 ⟨hcase, hd⟩
  have Hd := Lib.hid hd; clear hd
  rcases hcase with ⟨hz, rfl⟩ | ⟨hz, rfl⟩
  · have Hr := Lib.hid (show decide (totalZ c / 3 + 1 ≤ voZ c g ls k) = false from decide_eq_false (by unfold voZ; rw [if_neg (by omega)]; omega))
    clear hz
    go_wp2
    go_ret
    exact ⟨by rw [Hr.out]; rfl, Hd.out⟩
  · clear hz
    have q0 := (HL.out.under (Hd.out.below _)).st.cell 0 (v := .pointer (some ⟨G, 0, none⟩)) rfl
    have g0 := (HL.out.under (Hd.out.below _)).lk.cell (k := 0) (by omega)
    rw [(HL.out.under (Hd.out.below _)).lk.mem] at g0
    generalize hV : voZ c g ls k = V at *
    have HV := Lib.hid hV; clear hV
    go_wp2_with fail
    refine (HS.out w1 (Hd.out.below _)).mono ?_
    rintro e w2 ⟨rfl, rfl⟩
    go_wp2
    go_ret
    exact ⟨by rw [HV.out]; rfl, Hd.out⟩
end

end Go.Proofs.YtjekgjlnaochiabDoor

/- impl's test of one vertex depending on another, by a walk of its text; conditions: the graph is valid, lists are shorter than 2^40. -/
namespace Go.Proofs.YtjekgjlnaochiabDoor
open Go.RowKit

set_option maxRecDepth 8000 in
set_option maxHeartbeats 1000000 in
theorem lv_dependsOn {w0 w : World} {hi G : Nat} {mv : Value} {c : List Int} {h : Nat → Value} {g : List Vx} {ls : List Int} (l : Lk w0 w hi G mv h g) (ok : Good21 c g ls) {a b : Nat} (ha : a < g.length) (hb : b < g.length) {q p : Nat} (hq : h (plN g[a].r g[a].a) = ptrV q) (hp : h (plN g[b].r g[b].a) = ptrV p) :
    Calls Tryd.prog 86 #[.pointer (some ⟨q, 0, none⟩), .pointer (some ⟨p, 0, none⟩)] w fun e w' => e = .returned (.bool ((pastB g a).getD b false)) ∧ Below w.heap.size w w' := by
  have hz72 : Tryd.zeroCells130 = marksV fun _ => false := by kernel_rfl
  have hbM : Below w.heap.size w (w.alloc (.cells Tryd.zeroCells130 130)) := (Below.refl _ _).alloc (Nat.le_refl _) _
  have sM := Str.new w 130 Tryd.zeroCells130
  rw [hz72] at sM
  have HMc := Lib.hid (mark_past w0 w hi G mv h g w.heap.size l l.le ok.srt ok.pl ok.par ok.r0 ok.ps g[a].r.toNat g[a] q (w.alloc (.cells Tryd.zeroCells130 130)) (fun _ => false) (List.getElem_mem ha) rfl hq (below_rowP hbM _) (by rw [hz72]; exact sM) (fun z _ _ hb => by cases hb))
  have Hmp := Lib.hid (fun bs hm => marks_past (bs := bs) ok.gb ha hm (fun _ _ => .inr trivial) b hb)
  have HL := Lib.hid l
  have HbM := Lib.hid hbM
  have ip := ok.pl _ (List.getElem_mem hb)
  unfold inPl at ip
  obtain ⟨o1, hm1, hm2⟩ := run_mark w.heap.size g[b].r g[b].a ip.1 ip.2.1 ip.2.2.1 ip.2.2.2
  have hbd := plM_bd ip.2.1 ip.2.2.2
  have Hpp : Hid (∃ pa pc pv, Str w p 71 #[.int .i64 g[b].r, .int .i64 g[b].a, .slice pa g[b].ps.length pc, .int .i64 g[b].d, pv] ∧ p < hi) := by
    obtain ⟨p', hp', n⟩ := l.has g[b] (List.getElem_mem hb)
    rw [hp] at hp'
    have e : p = p' := by unfold ptrV at hp'; simpa using hp'
    subst e
    obtain ⟨pa, pc, pv, _, s, _⟩ := n.ex
    exact Lib.hid ⟨pa, pc, pv, s, n.lt⟩
  clear l ok hbM sM ip hq hp hz72
  go_enter Tryd.func86, Tryd.ntmps86
  go_wp2_with fail
  refine HMc.out.mono ?_
  rintro e w3 ⟨rfl, hg3, bs, hs3, hmk⟩
  have Hp := Lib.hid (Hmp.out bs hmk)
  have hb3 : Below w.heap.size w w3 := HbM.out.grown hg3 HbM.out.size (fun g e => by cases e; omega)
  have em := hs3.cell (plM g[b].r g[b].a) (v := .bool (bs (plM g[b].r g[b].a))) (arrP_get hbd)
  rw [Hp.out] at em
  obtain ⟨pa, pc, pv, sp, hlt⟩ := Hpp.out
  have sp3 : Str w3 p 71 #[.int .i64 g[b].r, .int .i64 g[b].a, .slice pa g[b].ps.length pc, .int .i64 g[b].d, pv] := (hb3.block _ sp.lt).trans sp
  have c0 := sp3.cell 0 (v := .int .i64 g[b].r) rfl
  have c1 := sp3.cell 1 (v := .int .i64 g[b].a) rfl
  have Hb3 := Lib.hid hb3
  clear hs3 hg3 hmk sp sp3 hb3 Hp Hmp
  generalize hPB : (pastB g a).getD b false = PB at *
  have HPB := Lib.hid hPB; clear hPB
  go_wp2_with fail
  go_quiet (fail)
  go_wp2
  go_ret
  exact ⟨by rw [HPB.out]; rfl, below_step Hb3.out Hb3.out.size (((Drawn.refl _).drewN _).below _)⟩

end Go.Proofs.YtjekgjlnaochiabDoor

/- slices.Reverse at a list of ints of the call's own, over the kit's shelf; no conditions but the list's length. -/
namespace Go.Proofs.YtjekgjlnaochiabDoor
open Go.RowKit Go.Shelf Go.Sort

def revI_ren : Go.Shelf.Ren := ⟨fun | 112 => 87 | n => n, fun | 0 => 0 | 3 => 3 | 4 => 4 | 28 => 23 | n => n, fun n => n⟩
theorem revI : Go.Proofs.Lays.n112 Tryd.prog revI_ren := {
  mixed := by kernel_rfl
  f112 := Tryd.func87.trans (congrArg some (by kernel_rfl))
  t0 := Tryd.underlying0
  a0 := Tryd.isAgg0
  z0 := Tryd.sizeOf0
  v0 := Tryd.zeroValue0
  t3 := Tryd.underlying3
  a3 := Tryd.isAgg3
  z3 := Tryd.sizeOf3
  v3 := Tryd.zeroValue3
  t4 := Tryd.underlying4
  a4 := Tryd.isAgg4
  z4 := Tryd.sizeOf4
  v4 := Tryd.zeroValue4
  t28 := Tryd.underlying23
  a28 := Tryd.isAgg23
  z28 := Tryd.sizeOf23
  v28 := Tryd.zeroValue23
}
theorem rev_own (B : Nat) (v : Value) (xs : List Int) (w : World) (hown : Own 3 w B v xs) (hbig : xs.length ≤ 1048576) :
    Calls Tryd.prog 87 #[v] w fun e w' => e = .returned (.tuple #[]) ∧ Own 3 w' B v xs.reverse ∧ w.grownBy w' v.ownBlock := by
  have hown' := hown
  rcases hown.2 with ⟨rfl, h0⟩ | ⟨g, cap, cur, rfl, hb, hg, hn, hm, hs, ht⟩
  · obtain rfl : xs = [] := List.eq_nil_of_length_eq_zero h0
    refine (Any.slices_Reverse_int_empty revI none 0 w).mono ?_
    rintro e w' ⟨rfl, rfl⟩
    exact ⟨rfl, hown', World.grownBy.refl _ _⟩
  · have hH := holds_of_blockI hg (by rw [Nat.mul_one] at ht; exact ht)
    refine (Any.slices_Reverse_int revI g 0 cap xs w hH (by omega)).mono ?_
    rintro e w' ⟨rfl, n, rfl⟩
    have h1 := ownsRow_sortedI (w := w) (n := n) (os := #[]) (ss := xs) (ts := xs.reverse) (by simp) hb hg hn hm hs
    have h2 := grownBy_sortedI (w := w) (g := g) (n := n) (os := #[]) xs.reverse.toArray
    rw [grow_empty] at h1 h2
    refine ⟨rfl, ?_, h2⟩
    unfold Own
    rw [show xs.reverse.length = xs.length by simp]
    exact h1

end Go.Proofs.YtjekgjlnaochiabDoor

/- impl's waves that a directly committed wave commits, by a walk of its text; conditions: the graph and the leaders are valid, lists are shorter than 2^40. -/
namespace Go.Proofs.YtjekgjlnaochiabDoor
open Go.RowKit

/-- Behind some rounds: what is collected, and the current leader vertex. -/
def CbAt (h : Nat → Value) (g : List Vx) (ls : List Int) (lo d : Nat) (x : Nat) (W : List Int) (cu : Value) : Prop :=
  (x = d ∧ W = [] ∧ cu = .pointer none) ∨ (x < d ∧ ∃ (C : List Int) (j : Nat) (hj : j < g.length) (p : Nat), W = C.reverse ∧ C.length + x ≤ d ∧ chZ g ls lo x C j = chZ g ls lo (d - 1) [(d : Int)] (ldZ g ls d) ∧ cu = .pointer (some ⟨p, 0, none⟩) ∧ h (plN g[j].r g[j].a) = ptrV p)

theorem TIq : IntT Tryd.prog 23 3 := ⟨Tryd.underlying23, by kernel_rfl⟩
section
variable {w0 w : World} {hi G q : Nat} {mv : Value} {c : List Int} {h : Nat → Value} {g : List Vx} {al : Option Addr} {cap : Nat} {ls : List Int} {eN eI : Addr}
set_option maxRecDepth 8000 in
set_option maxHeartbeats 4000000 in
theorem led_committedBy (l : Lg w0 w hi G q mv h g al cap ls) (hs : Sen w eN eI) (d lo : Nat) (hd : 1 ≤ d ∧ d ≤ ls.length) (hlo : lo < d) (ok : Good21 c g ls) (hi' : IntsAt w al ls) (hz : 0 ≤ ldZ g ls d) :
    Calls Tryd.prog 60 #[.pointer (some ⟨q, 0, none⟩), .int .i64 d, .int .i64 lo] w fun e w' => ∃ u, e = .returned u ∧ Own 3 w' w.heap.size u (chZ g ls lo (d - 1) [(d : Int)] (ldZ g ls d)) ∧ Below w.heap.size w w' := by
  obtain ⟨hd1, hd2⟩ := hd
  have h15 := ok.l15
  have hb0 : Below w.heap.size w (w.alloc (.cells #[] 3)) := (Below.refl _ _).alloc (Nat.le_refl _) _
  have Ho0 := Lib.hid (own_empty 3 w (Nat.le_refl w.heap.size))
  have Hb0 := Lib.hid hb0
  have HLd := Lib.hid (fun (k : Nat) (hk : 1 ≤ k ∧ k ≤ ls.length) W (hb : Below w.heap.size w W) => led_leader (l.under hb) (hs.below hb) k hk ok.l15 ok.l6 (hi'.below hb) ok.pl)
  have HSn := Lib.hid (fun W (hb : Below w.heap.size w W) => hs.below hb)
  have HDp := Lib.hid (fun W (hb : Below w.heap.size w W) (a b : Nat) (ha : a < g.length) (hb2 : b < g.length) (qq pp : Nat) hq hp => lv_dependsOn (l.under hb).lk ok (a := a) (b := b) ha hb2 (q := qq) (p := pp) hq hp)
  have Hz := Lib.hid hz
  clear l hs ok hi' hb0 hz
  go_enter Tryd.func60, Tryd.ntmps60
  go_wp2
  go_loopw [7, 8, 9] (fun ws cu xx wr => ∃ (x : Nat) (W : List Int), lo ≤ x ∧ x ≤ d ∧ xx = .int .i64 x ∧ W.length + x ≤ d ∧ Hid (CbAt h g ls lo d x W cu) ∧ Own 3 wr w.heap.size ws W ∧ Below w.heap.size w wr) (fun _ _ xx _ => (intOf xx).toNat)
  case atStart => exact ⟨d, [], by omega, by omega, rfl, by simp, Lib.hid (.inl ⟨rfl, rfl, rfl⟩), Ho0.out, Hb0.out⟩
  case round =>
    obtain ⟨x, W, hx1, hx2, rfl, hWl, hcb, ho, hb⟩ := hrel
    have Ho := Lib.hid ho; have Hb := Lib.hid hb
    clear ho hb Ho0 Hb0
    by_cases hlt : lo < x
    · have hlt' : (lo : Int) < (x : Int) := by omega
      have hx9 : IntKind.i64.wrap ((x : Int) - 1) = ((x - 1 : Nat) : Int) := by rw [IntWalk.i64_in _ (by omega)]; omega
      go_wp2_with fail
      refine (HLd.out x ⟨by omega, by omega⟩ wr Hb.out).mono ?_
      rintro e w1 ⟨hcase, hd⟩
      have hs1 := HSn.out w1 (below_step Hb.out Hb.out.size (hd.below _))
      have hgN := hs1.gN
      have Ho1 := Lib.hid (Ho.out.below (hd.below _))
      have Hb1 := Lib.hid (below_step Hb.out Hb.out.size (hd.below _))
      clear hd hs1 Ho Hb
      rcases hcase with ⟨hz, rfl⟩ | ⟨j, hj, p, hz, hp, rfl⟩
      · -- no leader vertex
        have hnew : CbAt h g ls lo d (x - 1) W u8 := by
          rcases hcb.out with ⟨rfl, _, _⟩ | ⟨hxd, C, j, hj, p, e1, e2, e3, e4, e5⟩
          · have := Hz.out; omega
          · refine .inr ⟨by omega, C, j, hj, p, e1, by omega, ?_, e4, e5⟩
            rw [← e3, chZ_no hlt (by unfold linkB; rw [hz]; rfl)]
        have Hnew := Lib.hid hnew
        clear hnew hcb hz
        go_wp2_with fail
        refine (is_same eN w1).mono ?_
        rintro e w2 ⟨rfl, rfl⟩
        go_wp2
        go_roundw
        case rel => exact ⟨x - 1, W, by omega, by omega, by first | rfl | rw [hx9], by omega, Lib.hid Hnew.out, Ho1.out, Hb1.out⟩
        case measure => simp [intOf]; omega
      · have Hlz := Lib.hid hz
        have Hp := Lib.hid hp
        clear hz hp
        go_wp2_with fail
        refine (is_nil eN w1).mono ?_
        rintro e w2 ⟨rfl, rfl⟩
        have hB := Hb1.out.size
        by_cases hxd : x = d
        · obtain ⟨rfl, rfl⟩ : W = [] ∧ u8 = .pointer none := by
            rcases hcb.out with ⟨_, e1, e2⟩ | ⟨h9, _⟩
            · exact ⟨e1, e2⟩
            · omega
          subst hxd
          have Hnew := Lib.hid (show CbAt h g ls lo x (x - 1) [(x : Int)] (.pointer (some ⟨p, 0, none⟩)) from .inr ⟨by omega, [(x : Int)], j, hj, p, rfl, by simp; omega, by rw [Hlz.out], rfl, Hp.out⟩)
          clear hcb
          go_wp2_with (at_builtin; refine wpList_push TIq rfl (.tmp 36) (.tmp 38) rfl w.heap.size _ ([] : List Int) _ rfl Ho1.out (by simp) rfl hB ?_; intro v8 w8 hown8 hg8)
          have Hb8 := Lib.hid (Hb1.out.grown hg8 hB (fun g e => (Ho1.out.lt g e).1))
          have Ho8 := Lib.hid hown8
          clear hown8 hg8
          go_wp2
          go_roundw
          case rel => exact ⟨x - 1, [(x : Int)], by omega, by omega, by first | rfl | rw [hx9], by simp; omega, Lib.hid Hnew.out, by simpa using Ho8.out, Hb8.out⟩
          case measure => simp [intOf]; omega
        · obtain ⟨C, j0, hj0, p0, rfl, e2, e3, rfl, e5⟩ : ∃ (C : List Int) (j0 : Nat) (hj0 : j0 < g.length) (p0 : Nat), W = C.reverse ∧ C.length + x ≤ d ∧ chZ g ls lo x C j0 = chZ g ls lo (d - 1) [(d : Int)] (ldZ g ls d) ∧ u8 = .pointer (some ⟨p0, 0, none⟩) ∧ h (plN g[j0].r g[j0].a) = ptrV p0 := by
            rcases hcb.out with ⟨h9, _⟩ | ⟨_, h9⟩
            · exact absurd h9 hxd
            · exact h9
          have hxd' : ((x : Int) == (d : Int)) = false := by rw [beq_eq_false_iff_ne]; omega
          have HD := Lib.hid (HDp.out w1 Hb1.out j0 j hj0 hj p0 p e5 Hp.out)
          have Hlk := Lib.hid (show linkB g ls j0 x = (pastB g j0).getD j false by unfold linkB; rw [Hlz.out]; simp)
          have Hch := Lib.hid e3
          have He5 := Lib.hid e5
          clear e3 e5 hcb hgN
          cases hl : (pastB g j0).getD j false with
          | true =>
            have Hnew := Lib.hid (show CbAt h g ls lo d (x - 1) (((x : Int) :: C).reverse) (.pointer (some ⟨p, 0, none⟩)) from .inr ⟨by omega, (x : Int) :: C, j, hj, p, rfl, by simp; omega, by rw [← Hch.out, chZ_yes hlt (Hlk.out.trans hl), Hlz.out], rfl, Hp.out⟩)
            rw [hl] at HD
            clear hl Hlk Hch
            rw [List.length_reverse] at hWl
            have hrl : C.reverse.length ≤ 15 := by rw [List.length_reverse]; omega
            go_wp2_with fail
            refine HD.out.mono ?_
            rintro e w2 ⟨rfl, hb2⟩
            have Ho2 := Lib.hid (Ho1.out.below hb2)
            have Hb2 := Lib.hid (below_step Hb1.out Hb1.out.size hb2)
            have hB2 := Hb2.out.size
            clear hb2 Ho1 Hb1
            obtain ⟨RC, hRC⟩ : ∃ RC, C.reverse = RC := ⟨_, rfl⟩
            rw [hRC] at Ho2 hrl
            have HRC := Lib.hid hRC; clear hRC
            go_wp2_with (at_builtin; refine wpList_push TIq rfl (.tmp 36) (.tmp 38) rfl w.heap.size _ RC _ rfl Ho2.out (by omega) rfl hB2 ?_; intro v8 w8 hown8 hg8)
            have Hb8 := Lib.hid (Hb2.out.grown hg8 hB2 (fun g e => (Ho2.out.lt g e).1))
            have Ho8 := Lib.hid hown8
            clear hown8 hg8
            go_wp2
            go_roundw
            case rel => exact ⟨x - 1, ((x : Int) :: C).reverse, by omega, by omega, by first | rfl | rw [hx9], by simp; omega, Lib.hid Hnew.out, by rw [List.reverse_cons, HRC.out]; exact Ho8.out, Hb8.out⟩
            case measure => simp [intOf]; omega
          | false =>
            have Hnew := Lib.hid (show CbAt h g ls lo d (x - 1) C.reverse (.pointer (some ⟨p0, 0, none⟩)) from .inr ⟨by omega, C, j0, hj0, p0, rfl, by omega, by rw [← Hch.out, chZ_no hlt (Hlk.out.trans hl)], rfl, He5.out⟩)
            rw [hl] at HD
            clear hl Hlk Hch
            go_wp2_with fail
            refine HD.out.mono ?_
            rintro e w2 ⟨rfl, hb2⟩
            have Ho2 := Lib.hid (Ho1.out.below hb2)
            have Hb2 := Lib.hid (below_step Hb1.out Hb1.out.size hb2)
            clear hb2 Ho1 Hb1
            go_wp2
            go_roundw
            case rel => exact ⟨x - 1, C.reverse, by omega, by omega, by first | rfl | rw [hx9], by omega, Lib.hid Hnew.out, Ho2.out, Hb2.out⟩
            case measure => simp [intOf]; omega
    · obtain ⟨C, rfl, e3⟩ : ∃ C : List Int, W = C.reverse ∧ chZ g ls lo (d - 1) [(d : Int)] (ldZ g ls d) = C := by
        rcases hcb.out with ⟨h9, _⟩ | ⟨_, C, j0, hj0, p0, e1, _, e3, _⟩
        · omega
        · exact ⟨C, e1, by rw [← e3, chZ_done (by omega)]⟩
      have H3 := Lib.hid e3
      have hrl : C.reverse.length ≤ 15 := by omega
      clear e3 hcb
      have hlt' : ¬ (lo : Int) < (x : Int) := by omega
      obtain ⟨RC, hRC⟩ : ∃ RC, C.reverse = RC := ⟨_, rfl⟩
      rw [hRC] at Ho hrl hWl
      have HRC := Lib.hid hRC; clear hRC
      go_wp2_with fail
      refine (rev_own w.heap.size u7 RC wr Ho.out (by omega)).mono ?_
      rintro e w2 ⟨rfl, ho2, hg2⟩
      have Hb2 := Lib.hid (Hb.out.grown hg2 Hb.out.size (fun g e => (Ho.out.lt g e).1))
      have Ho2 := Lib.hid ho2
      clear ho2 hg2
      go_wp2
      go_ret
      refine ⟨_, rfl, ?_, Hb2.out⟩
      rw [H3.out, show C = RC.reverse by rw [← HRC.out, List.reverse_reverse]]
      exact Ho2.out
end

end Go.Proofs.YtjekgjlnaochiabDoor

/- impl's committed waves, by a walk of its text; conditions: the graph and the leaders are valid, lists are shorter than 2^40. -/
namespace Go.Proofs.YtjekgjlnaochiabDoor
open Go.RowKit

section
variable {w0 w : World} {hi G q : Nat} {ac : Option Addr} {capc : Nat} {c : List Int} {h : Nat → Value} {g : List Vx} {al : Option Addr} {cap : Nat} {ls : List Int} {eN eI : Addr}
set_option maxRecDepth 8000 in
set_option maxHeartbeats 2000000 in
theorem led_committed (l : Lg w0 w hi G q (.slice ac c.length capc) h g al cap ls) (hs : Sen w eN eI) (ok : Good21 c g ls) (hbg : g.length ≤ 1048576) (hc : IntsAt w ac c) (hi' : IntsAt w al ls) :
    Calls Tryd.prog 35 #[.pointer (some ⟨q, 0, none⟩)] w fun e w' => ∃ u, e = .returned u ∧ Own 3 w' w.heap.size u (wvs c g ls ls.length).1 ∧ Below w.heap.size w w' := by
  have h15 := ok.l15
  have hb0 : Below w.heap.size w (w.alloc (.cells #[] 3)) := (Below.refl _ _).alloc (Nat.le_refl _) _
  have Ho0 := Lib.hid (own_empty 3 w (Nat.le_refl w.heap.size))
  have Hb0 := Lib.hid hb0
  have HD := Lib.hid (fun (k : Nat) (hk : 1 ≤ k ∧ k ≤ ls.length) W (hb : Below w.heap.size w W) => led_direct (l.under hb) (hs.below hb) k hk ok hbg (hc.below hb) (hi'.below hb))
  have HC := Lib.hid (fun (k lo : Nat) (hk : 1 ≤ k ∧ k ≤ ls.length) (hlo : lo < k) hz W (hb : Below w.heap.size w W) => led_committedBy (l.under hb) (hs.below hb) k lo hk hlo ok (hi'.below hb) hz)
  have Hq := Lib.hid (fun W (hb : Below w.heap.size w W) => (l.under hb).st.cell 1 (v := .slice al ls.length cap) rfl)
  have hbd := totalZ_bd ok.hv
  have Hpos := Lib.hid (fun k (h : totalZ c / 3 + 1 ≤ voZ c g ls k) => (show 0 ≤ ldZ g ls k by
    by_cases h0 : 0 ≤ ldZ g ls k
    · exact h0
    · unfold voZ at h; rw [if_neg h0] at h; omega))
  clear l hs ok hc hi' hb0
  go_enter Tryd.func35, Tryd.ntmps35
  go_wp2
  go_loopw [3, 4, 5] (fun o la i wr => ∃ m : Nat, 1 ≤ m ∧ m ≤ ls.length + 1 ∧ i = .int .i64 m ∧ la = .int .i64 ((wvs c g ls (m - 1)).2 : Nat) ∧ Own 3 wr w.heap.size o (wvs c g ls (m - 1)).1 ∧ Below w.heap.size w wr) (fun _ _ i _ => ls.length + 1 - (intOf i).toNat)
  case atStart => exact ⟨1, by omega, by omega, rfl, rfl, Ho0.out, Hb0.out⟩
  case round =>
    obtain ⟨m, hm1, hm2, rfl, rfl, ho, hb⟩ := hrel
    have hwl := wvs_len (c := c) (g := g) (ls := ls) (m - 1)
    have Ho := Lib.hid ho; have Hb := Lib.hid hb
    have q1 := Hq.out wr hb
    clear ho hb Ho0 Hb0
    by_cases hlt : m ≤ ls.length
    · have hlt' : (m : Int) ≤ (ls.length : Int) := by omega
      go_wp2_with fail
      refine (HD.out m ⟨hm1, hlt⟩ wr Hb.out).mono ?_
      rintro e w1 ⟨rfl, hd1⟩
      have Ho1 := Lib.hid (Ho.out.below (hd1.below _))
      have Hb1 := Lib.hid (below_step Hb.out Hb.out.size (hd1.below _))
      clear hd1 Ho Hb q1
      by_cases hq : totalZ c / 3 + 1 ≤ voZ c g ls m
      · have hy := wvs_yes hm1 (show ¬ voZ c g ls m < totalZ c / 3 + 1 by omega)
        have Hy1 := Lib.hid (show (wvs c g ls m).1 = (wvs c g ls (m - 1)).1 ++ chZ g ls (wvs c g ls (m - 1)).2 (m - 1) [(m : Int)] (ldZ g ls m) by rw [hy])
        have Hy2 := Lib.hid (show (wvs c g ls m).2 = m by rw [hy])
        have hz := Hpos.out m hq
        have hqd : decide (totalZ c / 3 + 1 ≤ voZ c g ls m) = true := decide_eq_true hq
        have HCm := Lib.hid (HC.out m (wvs c g ls (m - 1)).2 ⟨hm1, hlt⟩ (by omega) hz)
        have hcl := chZ_len (g := g) (ls := ls) (lo := (wvs c g ls (m - 1)).2) (m - 1) [(m : Int)] (ldZ g ls m)
        rw [List.length_singleton] at hcl
        clear hy hz hq
        generalize voZ c g ls m = V at *
        generalize (wvs c g ls (m - 1)).2 = lo at *
        generalize (wvs c g ls (m - 1)).1 = O at *
        generalize chZ g ls lo (m - 1) [(m : Int)] (ldZ g ls m) = CH at *
        rw [hqd]
        clear hqd
        go_wp2_with fail
        refine (HCm.out w1 Hb1.out).mono ?_
        rintro e w2 ⟨u, rfl, ho2, hb2⟩
        have Ho2 := Lib.hid (Ho1.out.below hb2)
        have Hb2 := Lib.hid (below_step Hb1.out Hb1.out.size hb2)
        have hB2 := Hb2.out.size
        obtain ⟨au, cu, rfl, _, _⟩ := ho2.ints
        have Hsr := Lib.hid (own_src ho2)
        clear hb2 ho2 Ho1 Hb1 HCm
        go_wp2_with (at_builtin; refine wpList_appI TIq rfl _ _ rfl w.heap.size _ O CH au cu rfl Ho2.out rfl Hsr.out (by omega) hB2 ?_; intro v8 w8 ho8 hg8)
        have Hb8 := Lib.hid (Hb2.out.grown hg8 hB2 (fun q e => (Ho2.out.lt q e).1))
        have Ho8 := Lib.hid ho8
        clear ho8 hg8
        go_wp2
        go_roundw
        case rel => exact ⟨m + 1, by omega, by omega, by go_num, by rw [Nat.add_sub_cancel, Hy2.out], by rw [Nat.add_sub_cancel, Hy1.out]; exact Ho8.out, Hb8.out⟩
        case measure => simp [intOf]; omega
      · have hn := Lib.hid (wvs_no hm1 (show voZ c g ls m < totalZ c / 3 + 1 by omega))
        have hqd : decide (totalZ c / 3 + 1 ≤ voZ c g ls m) = false := decide_eq_false hq
        rw [hqd]
        clear hq hqd
        go_wp2
        go_roundw
        case rel => exact ⟨m + 1, by omega, by omega, by go_num, by rw [Nat.add_sub_cancel, hn.out], by rw [Nat.add_sub_cancel, hn.out]; exact Ho1.out, Hb1.out⟩
        case measure => simp [intOf]; omega
    · have hml : m - 1 = ls.length := by omega
      have Hml := Lib.hid hml
      clear hml hwl
      go_wp2
      go_ret
      exact ⟨_, rfl, by rw [← Hml.out]; exact Ho.out, Hb.out⟩
end

end Go.Proofs.YtjekgjlnaochiabDoor

/- impl's GraphFind, with the library's search by a function and the function that is handed to it, each by a walk of its text; conditions: lists are shorter than 2^40 (a graph: 2^20). -/
namespace Go.Proofs.YtjekgjlnaochiabDoor
open Go.RowKit

theorem find_test (x : Vx) (pa : Option Addr) (pc : Nat) (r a : Int) (Br Ba : Nat) (w : World) (hr : Str w Br 3 #[.int .i64 r]) (ha : Str w Ba 3 #[.int .i64 a]) :
    Calls Tryd.prog 69 #[.agg #[.int .i64 x.r, .int .i64 x.a, .slice pa x.ps.length pc, .int .i64 x.d], .pointer (some ⟨Br, 0, none⟩), .pointer (some ⟨Ba, 0, none⟩)] w fun e w' => e = .returned (.bool (sameRA r a x)) ∧ Below w.heap.size w w' := by
  have hb0 : Below w.heap.size w (w.alloc (.cells #[.int .i64 x.r, .int .i64 x.a, .slice pa x.ps.length pc, .int .i64 x.d] 56)) := (Below.refl _ _).alloc (Nat.le_refl _) _
  have s0 := Str.new w 56 #[.int .i64 x.r, .int .i64 x.a, .slice pa x.ps.length pc, .int .i64 x.d]
  have k0 := s0.cell 0 (v := .int .i64 x.r) rfl
  have k1 := s0.cell 1 (v := .int .i64 x.a) rfl
  have q0 := (hr.alloc (.cells #[.int .i64 x.r, .int .i64 x.a, .slice pa x.ps.length pc, .int .i64 x.d] 56)).cell 0 (v := .int .i64 r) rfl
  have q1 := (ha.alloc (.cells #[.int .i64 x.r, .int .i64 x.a, .slice pa x.ps.length pc, .int .i64 x.d] 56)).cell 0 (v := .int .i64 a) rfl
  have Hb := Lib.hid hb0
  clear hb0 s0 hr ha
  by_cases h1 : x.r = r
  · have e1 : (x.r == r) = true := by simpa using h1
    have Hz := Lib.hid (show sameRA r a x = decide (x.a = a) by unfold sameRA; simp [h1])
    clear h1
    go_enter Tryd.func69, Tryd.ntmps69
    go_wp2
    go_ret
    exact ⟨ret_bool (by rw [Hz.out, Bool.eq_iff_iff, decide_eq_true_iff]; simp), Hb.out⟩
  · have e1 : (x.r == r) = false := by simpa using h1
    have Hz := Lib.hid (show sameRA r a x = false from decide_eq_false fun e => h1 e.1)
    clear h1
    go_enter Tryd.func69, Tryd.ntmps69
    go_wp2
    go_ret
    exact ⟨by first | rfl | exact ret_bool (by rw [Hz.out]), Hb.out⟩

theorem lib_IndexFunc (g : List Vx) (v : Value) (fp : List Nat) (r a : Int) (Br Ba : Nat) (w : World) (hbig : g.length ≤ 1099511627776) (hg : Gr w g v fp) (hr : Str w Br 3 #[.int .i64 r]) (ha : Str w Ba 3 #[.int .i64 a]) :
    Calls Tryd.prog 68 #[v, .func (.func 69) #[] #[.pointer (some ⟨Br, 0, none⟩), .pointer (some ⟨Ba, 0, none⟩)]] w fun e w' => e = .returned (.int .i64 (findZ g r a)) ∧ Below w.heap.size w w' := by
  obtain ⟨va, vc, rfl⟩ := hg.slice
  have Hg := Lib.hid hg; clear hg
  have Hr := Lib.hid hr; clear hr
  have Ha := Lib.hid ha; clear ha
  go_enter Tryd.func68, Tryd.ntmps68
  go_wp2
  go_loopw [8] (fun i wr => ∃ k : Nat, k ≤ g.length ∧ i = .int .i64 k ∧ Upto (fun j => !sameRA r a (g.getD j vx0)) k ∧ Below w.heap.size w wr) (fun i _ => g.length - (intOf i).toNat)
  case atStart => exact ⟨0, by omega, rfl, upto_zero _, Below.refl _ _⟩
  case round =>
    obtain ⟨k, hk, rfl, hup, hbel⟩ := hrel
    have Hup := Lib.hid hup; clear hup
    by_cases hlt : k < g.length
    · obtain ⟨b, off, rfl, hb, hat⟩ := (Hg.out.under hbel).at (by omega)
      obtain ⟨c0, c1, ⟨pa, pc, c2, _⟩, c3⟩ := hat k hlt
      have hgk := getV hlt
      have HT := Lib.hid (find_test g[k] pa pc r a Br Ba wr ((hbel.block _ Hr.out.lt).trans Hr.out) ((hbel.block _ Ha.out.lt).trans Ha.out))
      have Hbel := Lib.hid hbel
      cases hs : sameRA r a g[k] with
      | true =>
        have Hz := Lib.hid (findZ_yes hlt Hup.out hs)
        rw [hs] at HT
        clear hat hbel hgk hs
        generalize g[k] = x at *
        obtain ⟨xr, xa, xp, xd⟩ := x
        dsimp only at *
        go_wp2_with fail
        refine HT.out.mono ?_
        rintro e w2 ⟨rfl, hb2⟩
        have Hb2 := Lib.hid (below_step Hbel.out Hbel.out.size hb2)
        clear hb2 c0 c1 c2 c3
        go_wp2
        go_ret
        exact ⟨by rw [Hz.out]; rfl, Hb2.out⟩
      | false =>
        have Hup' := Lib.hid (upto_step Hup.out (k := k) (by simp only [hgk]; simpa using hs))
        rw [hs] at HT
        clear hat hbel hgk hs
        generalize g[k] = x at *
        obtain ⟨xr, xa, xp, xd⟩ := x
        dsimp only at *
        go_wp2_with fail
        refine HT.out.mono ?_
        rintro e w2 ⟨rfl, hb2⟩
        have Hb2 := Lib.hid (below_step Hbel.out Hbel.out.size hb2)
        clear hb2 c0 c1 c2 c3
        go_wp2
        go_roundw
        case rel => exact ⟨k + 1, by omega, by go_num, Hup'.out, Hb2.out⟩
        case measure => simp [intOf]; omega
    · have hz := findZ_no Hup.out (by omega)
      go_wp2
      go_ret
      exact ⟨by rw [hz]; rfl, hbel⟩

theorem impl_GraphFind' (ac : Option Addr) (capc : Nat) (c : List Int) (g : List Vx) (v : Value) (fp : List Nat) (r a : Int) (w : World) (hn : c.length ≤ 1099511627776) (hbig : g.length ≤ 1048576) (hps : ∀ x ∈ g, x.ps.length ≤ 1099511627776) (hc : IntsAt w ac c) (hg : Gr w g v fp) :
    Calls Tryd.prog 42 #[.slice ac c.length capc, v, .int .i64 r, .int .i64 a] w fun e w' => e = .returned (.int .i64 (gfZ c g r a)) ∧ Below w.heap.size w w' := by
  have hb0 : Below w.heap.size w ((w.alloc (.cells #[.int .i64 r] 3)).alloc (.cells #[.int .i64 a] 3)) := ((Below.refl _ w).alloc (Nat.le_refl _) _).alloc (by simp) _
  have s0 := (Str.new w 3 #[.int .i64 r]).alloc (.cells #[.int .i64 a] 3)
  have s1 := Str.new (w.alloc (.cells #[.int .i64 r] 3)) 3 #[.int .i64 a]
  rw [show (w.alloc (.cells #[.int .i64 r] 3)).heap.size = w.heap.size + 1 by simp] at s1
  have hgW := hg.under hb0
  have H := Lib.hid (impl_GraphValid' ac capc c g v fp _ hn hbig hps (hc.below hb0) hgW)
  have Hb0 := Lib.hid hb0
  cases h : graphB c g with
  | false =>
    have Hz := Lib.hid (show gfZ c g r a = -1 by unfold gfZ; rw [h]; rfl)
    rw [h] at H
    clear hc hg hgW hps h hb0 s0 s1
    go_enter Tryd.func42, Tryd.ntmps42
    go_wp2_with fail
    generalize (w.alloc (.cells #[.int .i64 r] 3)).alloc (.cells #[.int .i64 a] 3) = W0 at *
    refine H.out.mono ?_
    rintro e w1 ⟨rfl, hb⟩
    have Hb1 := Lib.hid (below_step Hb0.out Hb0.out.size hb); clear hb
    go_wp2
    go_ret
    exact ⟨by rw [Hz.out]; rfl, Hb1.out⟩
  | true =>
    have Hz := Lib.hid (show gfZ c g r a = findZ g r a by unfold gfZ; rw [h]; rfl)
    rw [h] at H
    have HF := Lib.hid (fun W (hW : Below ((w.alloc (.cells #[.int .i64 r] 3)).alloc (.cells #[.int .i64 a] 3)).heap.size ((w.alloc (.cells #[.int .i64 r] 3)).alloc (.cells #[.int .i64 a] 3)) W) =>
      lib_IndexFunc g v fp r a w.heap.size (w.heap.size + 1) W (by omega) (hgW.under hW) ((hW.block _ s0.lt).trans s0) ((hW.block _ s1.lt).trans s1))
    clear hc hg hgW hps h hb0 s0 s1
    go_enter Tryd.func42, Tryd.ntmps42
    go_wp2_with fail
    generalize (w.alloc (.cells #[.int .i64 r] 3)).alloc (.cells #[.int .i64 a] 3) = W0 at *
    refine H.out.mono ?_
    rintro e w1 ⟨rfl, hb⟩
    have HF1 := Lib.hid (HF.out w1 hb)
    have Hb1 := Lib.hid (below_step Hb0.out Hb0.out.size hb); clear hb
    go_wp2_with fail
    refine HF1.out.mono ?_
    rintro e w2 ⟨rfl, hb2⟩
    have Hb2 := Lib.hid (below_step Hb1.out Hb1.out.size hb2); clear hb2
    go_wp2
    go_ret
    exact ⟨by rw [Hz.out]; rfl, Hb2.out⟩

end Go.Proofs.YtjekgjlnaochiabDoor

/- impl's WaveLeader, WaveVotes, WaveDirect and CommitWaves, each by a walk of its text; conditions: lists are shorter than 2^40 (a graph: 2^20). -/
namespace Go.Proofs.YtjekgjlnaochiabDoor
open Go.RowKit

set_option maxRecDepth 8000 in
set_option maxHeartbeats 1000000 in
theorem impl_WaveLeader (ac : Option Addr) (capc : Nat) (c : List Int) (g : List Vx) (v : Value) (fp : List Nat) (al : Option Addr) (cap : Nat) (ls : List Int) (wave : Int) (eN eI : Addr) (w : World) (hn : c.length ≤ 1099511627776) (hbig : g.length ≤ 1048576) (hps : ∀ x ∈ g, x.ps.length ≤ 1099511627776) (hl : ls.length ≤ 1099511627776) (_hcc : c.length ≤ capc) (hc : IntsAt w ac c) (hg : Gr w g v fp) (_hlc : ls.length ≤ cap) (hi : IntsAt w al ls) (hs : Sen w eN eI) :
    Calls Tryd.prog 22 #[.slice ac c.length capc, v, .slice al ls.length cap, .int .i64 wave] w fun e w' => e = .returned (.int .i64 (wlZ c g ls wave)) ∧ Below w.heap.size w w' := by
  cases hw : waB c g ls with
  | false =>
    have H := Lib.hid (ledGraphOf_no ac capc c g v fp al cap ls eN eI w hn hbig hps hl hc hg hi hs hw)
    have hres := Lib.hid (show wlZ c g ls wave = -1 by unfold wlZ wlB; rw [hw]; rfl)
    clear hc hg hi hps hs hw
    go_enter Tryd.func22, Tryd.ntmps22
    go_wp2_with fail
    refine H.out.mono ?_
    rintro e w1 ⟨rfl, hb1⟩
    have Hb1 := Lib.hid hb1; clear hb1
    go_wp2
    go_ret
    exact ⟨by rw [hres.out]; rfl, Hb1.out⟩
  | true =>
  have ok := good21 hw hps
  have H := Lib.hid (ledGraphOf_yes ac capc c g v fp al cap ls w hn hbig hps hl hc hg hi hw)
  have Hs := Lib.hid hs
  have Hi := Lib.hid hi; have Hc := Lib.hid hc
  have HF := Lib.hid (fun (r a : Int) W (hb : Below w.heap.size w W) => impl_GraphFind' ac capc c g v fp r a W hn hbig hps (hc.below hb) (hg.under hb))
  have Hw := Lib.hid hw
  have Hok := Lib.hid ok
  have h15 := ok.l15
  clear hc hg hi hps hs hw ok
  go_enter Tryd.func22, Tryd.ntmps22
  go_wp2_with fail
  refine H.out.mono ?_
  rintro e w1 ⟨q, G, hi', h, rfl, hb1, hq, hL⟩
  have Hb1 := Lib.hid hb1
  have HL := Lib.hid hL
  have Hs1 := Lib.hid (Hs.out.below hb1)
  have Hi1 := Lib.hid (Hi.out.below hb1)
  have Hc1 := Lib.hid (Hc.out.below hb1)
  clear hb1 hL
  by_cases hr : 1 ≤ wave ∧ wave ≤ ls.length
  case neg =>
    have hres := Lib.hid (show wlZ c g ls wave = -1 by unfold wlZ wlB; rw [decide_eq_false hr, Bool.and_false]; rfl)
    go_wp2_with fail
    refine (led_leader_bad HL.out Hs1.out wave h15 hr).mono ?_
    rintro e w2 ⟨rfl, hd2⟩
    have Hb2 := Lib.hid (below_step Hb1.out Hb1.out.size (hd2.below _))
    clear hd2
    go_wp2
    go_ret
    exact ⟨by rw [hres.out]; rfl, Hb2.out⟩
  have hres := Lib.hid (show wlZ c g ls wave = ldZ g ls wave.toNat by unfold wlZ wlB; rw [Hw.out, decide_eq_true hr]; rfl)
  obtain ⟨k, rfl⟩ : ∃ k : Nat, wave = k := ⟨wave.toNat, by omega⟩
  rw [Int.toNat_natCast] at hres
  have HD := Lib.hid (led_leader HL.out Hs1.out k (by omega) h15 Hok.out.l6 Hi1.out Hok.out.pl)
  clear hr
  go_wp2_with fail
  refine HD.out.mono ?_
  rintro e w2 ⟨hcase, hd2⟩
  have Hb2 := Lib.hid (below_step Hb1.out Hb1.out.size (hd2.below _))
  have HL2 := Lib.hid (HL.out.under (hd2.below _))
  clear hd2
  rcases hcase with ⟨hz, rfl⟩ | ⟨j, hj, p, hz, hp, rfl⟩
  · have hres := Lib.hid (hres.out.trans hz)
    clear hz
    go_wp2
    go_ret
    exact ⟨by rw [hres.out]; rfl, Hb2.out⟩
  have hfd : gfZ c g g[j].r g[j].a = j := by
    unfold gfZ
    rw [if_pos Hok.out.gb]
    obtain ⟨k', hk', e, e2⟩ := findZ_mem Hok.out.srt (List.getElem_mem hj)
    rw [e, pair_uni Hok.out.srt hk' hj (by rw [e2]) (by rw [e2])]
  have Hres := Lib.hid (hres.out.trans (hz.trans hfd.symm))
  have Hpp : Hid (∃ pa pc pv, Str w2 p 71 #[.int .i64 g[j].r, .int .i64 g[j].a, .slice pa g[j].ps.length pc, .int .i64 g[j].d, pv] ∧ p < hi') := by
    obtain ⟨p', hp', n⟩ := HL2.out.lk.has g[j] (List.getElem_mem hj)
    rw [hp] at hp'
    have e : p = p' := by unfold ptrV at hp'; simpa using hp'
    subst e
    obtain ⟨pa, pc, pv, _, s, _⟩ := n.ex
    exact Lib.hid ⟨pa, pc, pv, s, n.lt⟩
  obtain ⟨pa, pc, pv, sp, hlt⟩ := Hpp.out
  have c0 := sp.cell 0 (v := .int .i64 g[j].r) rfl
  have c1 := sp.cell 1 (v := .int .i64 g[j].a) rfl
  have hplt := sp.lt
  have HFj := Lib.hid (HF.out g[j].r g[j].a)
  clear hz hp hfd sp Hpp hres
  generalize g[j].r = R at *
  generalize g[j].a = A at *
  go_wp2_with fail
  refine wp_region_held_drew (S := fun W => Below w.heap.size w W ∧ W.cell? ⟨p, 0, none⟩ = some (.int .i64 R) ∧ W.cell? ⟨p, 1, none⟩ = some (.int .i64 A) ∧ p < W.heap.size) (by kernel_rfl) ⟨Hb2.out.drew, c0, c1, hplt⟩ (fun hH => ?_)
  refine takeH 0 (v := ?vwl1) rfl (by kernel_rfl) (by kernel_rfl) (by kernel_rfl) (fun _ _ _ h => h) hH rfl ?ywl1 ?rwl1
  case ywl1 => intro W hSw; go_simp; try with_reducible rfl
  try simp only [Act.put, List.setIfInBounds_toArray, List.set_cons_zero, List.set_cons_succ]
  refine takeH 1 (v := ?vwl2) rfl (by kernel_rfl) (by kernel_rfl) (by kernel_rfl) (fun _ _ _ h => h) hH rfl ?ywl2 ?rwl2
  case ywl2 => intro W hSw; go_simp; try with_reducible rfl
  try simp only [Act.put, List.setIfInBounds_toArray, List.set_cons_zero, List.set_cons_succ]
  refine takeH 2 (v := ?vwl3) rfl (by kernel_rfl) (by kernel_rfl) (by kernel_rfl) (fun _ _ _ h => h) hH rfl ?ywl3 ?rwl3
  case ywl3 => intro W hSw; go_simp; try with_reducible rfl
  try simp only [Act.put, List.setIfInBounds_toArray, List.set_cons_zero, List.set_cons_succ]
  refine takeH 3 (v := ?vwl4) rfl (by kernel_rfl) (by kernel_rfl) (by kernel_rfl) (fun _ _ _ h => h) hH rfl ?ywl4 ?rwl4
  case ywl4 => intro W hSw; go_simp; try with_reducible rfl
  try simp only [Act.put, List.setIfInBounds_toArray, List.set_cons_zero, List.set_cons_succ]
  refine takeH 4 (v := ?vwl5) rfl (by kernel_rfl) (by kernel_rfl) (by kernel_rfl) (fun _ _ _ h => h) hH rfl ?ywl5 ?rwl5
  case ywl5 => intro W hSw; go_simp; try with_reducible rfl
  try simp only [Act.put, List.setIfInBounds_toArray, List.set_cons_zero, List.set_cons_succ]
  refine takeH 5 (v := ?vwl6) rfl (by kernel_rfl) (by kernel_rfl) (by kernel_rfl) (fun _ _ _ h => h) hH rfl ?ywl6 ?rwl6
  case ywl6 => intro W hSw; go_simp; try with_reducible rfl
  try simp only [Act.put, List.setIfInBounds_toArray, List.set_cons_zero, List.set_cons_succ]
  refine takeH 6 (v := ?vwl7) rfl (by kernel_rfl) (by kernel_rfl) (by kernel_rfl) (fun _ _ _ h => h) hH rfl ?ywl7 ?rwl7
  case ywl7 => intro W hSw; go_simp; try with_reducible rfl
  try simp only [Act.put, List.setIfInBounds_toArray, List.set_cons_zero, List.set_cons_succ]
  refine takeH 7 (v := ?vwl8) rfl (by kernel_rfl) (by kernel_rfl) (by kernel_rfl) (fun _ _ _ h => h) hH rfl ?ywl8 ?rwl8
  case ywl8 => intro W hSw; go_simp; try with_reducible rfl
  try simp only [Act.put, List.setIfInBounds_toArray, List.set_cons_zero, List.set_cons_succ]
  refine takeH 8 (v := ?vwl9) rfl (by kernel_rfl) (by kernel_rfl) (by kernel_rfl) (fun _ _ _ h => h) hH rfl ?ywl9 ?rwl9
  case ywl9 => intro W hSw; go_simp; try with_reducible rfl
  try simp only [Act.put, List.setIfInBounds_toArray, List.set_cons_zero, List.set_cons_succ]
  refine takeH 9 (v := ?vwl10) rfl (by kernel_rfl) (by kernel_rfl) (by kernel_rfl) (fun _ _ _ h => h) hH rfl ?ywl10 ?rwl10
  case ywl10 => intro W hSw; go_simp; try with_reducible rfl
  try simp only [Act.put, List.setIfInBounds_toArray, List.set_cons_zero, List.set_cons_succ]
  refine takeH 10 (v := ?vwl11) rfl (by kernel_rfl) (by kernel_rfl) (by kernel_rfl) (fun _ _ _ h => h) hH rfl ?ywl11 ?rwl11
  case ywl11 => intro W hSw; go_simp; try with_reducible rfl
  try simp only [Act.put, List.setIfInBounds_toArray, List.set_cons_zero, List.set_cons_succ]
  refine takeH 11 (v := ?vwl12) rfl (by kernel_rfl) (by kernel_rfl) (by kernel_rfl) (fun _ _ _ h => h) hH rfl ?ywl12 ?rwl12
  case ywl12 => intro W hSw; go_simp; try with_reducible rfl
  try simp only [Act.put, List.setIfInBounds_toArray, List.set_cons_zero, List.set_cons_succ]
  refine callH 12 rfl (by kernel_rfl) rfl (fun K hK => ?_)
  go_simp
  go_at_call 42
  refine (HFj.out _ hH.1).mono ?_
  rintro e wz ⟨rfl, hbz⟩
  refine hK.out _ _ ⟨below_step hH.1 hH.1.size hbz, (hbz.cell (p := ⟨p, 0, none⟩) hH.2.2.2).trans hH.2.1, (hbz.cell (p := ⟨p, 1, none⟩) hH.2.2.2).trans hH.2.2.1, Nat.lt_of_lt_of_le hH.2.2.2 hbz.size⟩ (fun hH => ?_)
  clear hK K
  try simp only [Act.put, List.setIfInBounds_toArray, List.set_cons_zero, List.set_cons_succ]
  have Hbz := Lib.hid hH.1
  refine takeH 13 (v := ?vz) rfl (by kernel_rfl) (by kernel_rfl) (by kernel_rfl) (fun _ _ _ h => h) hH rfl ?yz ?rz
  case yz => intro W hSw; go_simp; try with_reducible rfl
  try simp only [Act.put, List.setIfInBounds_toArray, List.set_cons_zero, List.set_cons_succ]
  refine wpAnyH_done (by kernel_rfl) ?_ _
  try simp only [Act.put]
  clear hH
  go_wp2
  go_ret
  exact ⟨by rw [Hres.out]; rfl, Hbz.out⟩

set_option maxRecDepth 8000 in
set_option maxHeartbeats 1000000 in
theorem impl_WaveVotes (ac : Option Addr) (capc : Nat) (c : List Int) (g : List Vx) (v : Value) (fp : List Nat) (al : Option Addr) (cap : Nat) (ls : List Int) (wave : Int) (eN eI : Addr) (w : World) (hn : c.length ≤ 1099511627776) (hbig : g.length ≤ 1048576) (hps : ∀ x ∈ g, x.ps.length ≤ 1099511627776) (hl : ls.length ≤ 1099511627776) (_hcc : c.length ≤ capc) (hc : IntsAt w ac c) (hg : Gr w g v fp) (_hlc : ls.length ≤ cap) (hi : IntsAt w al ls) (hs : Sen w eN eI) :
    Calls Tryd.prog 26 #[.slice ac c.length capc, v, .slice al ls.length cap, .int .i64 wave] w fun e w' => e = .returned (.int .i64 (wvZ c g ls wave)) ∧ Below w.heap.size w w' := by
  cases hw : waB c g ls with
  | false =>
    have H := Lib.hid (ledGraphOf_no ac capc c g v fp al cap ls eN eI w hn hbig hps hl hc hg hi hs hw)
    have hres := Lib.hid (show wvZ c g ls wave = -1 by unfold wvZ wlB; rw [hw]; rfl)
    clear hc hg hi hps hs hw
    go_enter Tryd.func26, Tryd.ntmps26
    go_wp2_with fail
    refine H.out.mono ?_
    rintro e w1 ⟨rfl, hb1⟩
    have Hb1 := Lib.hid hb1; clear hb1
    go_wp2
    go_ret
    exact ⟨by rw [hres.out]; rfl, Hb1.out⟩
  | true =>
  have ok := good21 hw hps
  have H := Lib.hid (ledGraphOf_yes ac capc c g v fp al cap ls w hn hbig hps hl hc hg hi hw)
  have Hs := Lib.hid hs
  have Hi := Lib.hid hi; have Hc := Lib.hid hc
  have Hw := Lib.hid hw
  have Hok := Lib.hid ok
  have h15 := ok.l15
  clear hc hg hi hps hs hw ok
  go_enter Tryd.func26, Tryd.ntmps26
  go_wp2_with fail
  refine H.out.mono ?_
  rintro e w1 ⟨q, G, hi', h, rfl, hb1, hq, hL⟩
  have Hb1 := Lib.hid hb1
  have HL := Lib.hid hL
  have Hs1 := Lib.hid (Hs.out.below hb1)
  have Hi1 := Lib.hid (Hi.out.below hb1)
  have Hc1 := Lib.hid (Hc.out.below hb1)
  clear hb1 hL
  by_cases hr : 1 ≤ wave ∧ wave ≤ ls.length
  case neg =>
    have hres := Lib.hid (show wvZ c g ls wave = -1 by unfold wvZ wlB; rw [decide_eq_false hr, Bool.and_false]; rfl)
    go_wp2_with fail
    refine (led_votes_bad HL.out Hs1.out wave h15 hr).mono ?_
    rintro e w2 ⟨rfl, hd2⟩
    have hs2 := Hs1.out.below (hd2.below _)
    have hgN := hs2.gN
    have Hb2 := Lib.hid (below_step Hb1.out Hb1.out.size (hd2.below _))
    obtain ⟨cN, tN, hbN⟩ := hs2.bN
    obtain ⟨cI, tI, hbI⟩ := hs2.bI
    have HO := Lib.hid (is_other eI eN cI cN tI tN w2 (fun e => hs2.ne e.symm) hbI hbN)
    clear hd2 hs2 hbN hbI
    go_wp2_with fail
    refine HO.out.mono ?_
    rintro e w3 ⟨rfl, rfl⟩
    go_wp2
    go_ret
    exact ⟨by rw [hres.out]; rfl, Hb2.out⟩
  have hres := Lib.hid (show wvZ c g ls wave = voZ c g ls wave.toNat by unfold wvZ wlB; rw [Hw.out, decide_eq_true hr]; rfl)
  obtain ⟨k, rfl⟩ : ∃ k : Nat, wave = k := ⟨wave.toNat, by omega⟩
  rw [Int.toNat_natCast] at hres
  have HD := Lib.hid (led_votes HL.out Hs1.out k (by omega) Hok.out hbig Hc1.out Hi1.out)
  clear hr
  go_wp2_with fail
  refine HD.out.mono ?_
  rintro e w2 ⟨hcase, hd2⟩
  have hs2 := Hs1.out.below (hd2.below _)
  have hgN := hs2.gN
  have Hb2 := Lib.hid (below_step Hb1.out Hb1.out.size (hd2.below _))
  clear hd2 hs2
  rcases hcase with ⟨hz, rfl⟩ | ⟨hz, rfl⟩
  · have hres := Lib.hid (hres.out.trans (show voZ c g ls k = 0 by unfold voZ; rw [if_neg (by omega)]))
    clear hz
    go_wp2_with fail
    refine (is_same eN w2).mono ?_
    rintro e w3 ⟨rfl, rfl⟩
    go_wp2
    go_ret
    exact ⟨by rw [hres.out]; rfl, Hb2.out⟩
  · clear hz
    generalize voZ c g ls k = V at *
    go_wp2_with fail
    refine (is_nil eN w2).mono ?_
    rintro e w3 ⟨rfl, rfl⟩
    go_wp2
    go_ret
    exact ⟨by rw [hres.out]; rfl, Hb2.out⟩

set_option maxRecDepth 8000 in
set_option maxHeartbeats 1000000 in
theorem impl_WaveDirect (ac : Option Addr) (capc : Nat) (c : List Int) (g : List Vx) (v : Value) (fp : List Nat) (al : Option Addr) (cap : Nat) (ls : List Int) (wave : Int) (eN eI : Addr) (w : World) (hn : c.length ≤ 1099511627776) (hbig : g.length ≤ 1048576) (hps : ∀ x ∈ g, x.ps.length ≤ 1099511627776) (hl : ls.length ≤ 1099511627776) (_hcc : c.length ≤ capc) (hc : IntsAt w ac c) (hg : Gr w g v fp) (_hlc : ls.length ≤ cap) (hi : IntsAt w al ls) (hs : Sen w eN eI) :
    Calls Tryd.prog 28 #[.slice ac c.length capc, v, .slice al ls.length cap, .int .i64 wave] w fun e w' => e = .returned (.bool (wdB c g ls wave)) ∧ Below w.heap.size w w' := by
  cases hw : waB c g ls with
  | false =>
    have H := Lib.hid (ledGraphOf_no ac capc c g v fp al cap ls eN eI w hn hbig hps hl hc hg hi hs hw)
    have hres := Lib.hid (show wdB c g ls wave = false by unfold wdB wlB; rw [hw]; rfl)
    clear hc hg hi hps hs hw
    go_enter Tryd.func28, Tryd.ntmps28
    go_wp2_with fail
    refine H.out.mono ?_
    rintro e w1 ⟨rfl, hb1⟩
    have Hb1 := Lib.hid hb1; clear hb1
    go_wp2
    go_ret
    exact ⟨by rw [hres.out]; rfl, Hb1.out⟩
  | true =>
  have ok := good21 hw hps
  have H := Lib.hid (ledGraphOf_yes ac capc c g v fp al cap ls w hn hbig hps hl hc hg hi hw)
  have Hs := Lib.hid hs
  have Hi := Lib.hid hi; have Hc := Lib.hid hc
  have Hw := Lib.hid hw
  have Hok := Lib.hid ok
  have h15 := ok.l15
  clear hc hg hi hps hs hw ok
  go_enter Tryd.func28, Tryd.ntmps28
  go_wp2_with fail
  refine H.out.mono ?_
  rintro e w1 ⟨q, G, hi', h, rfl, hb1, hq, hL⟩
  have Hb1 := Lib.hid hb1
  have HL := Lib.hid hL
  have Hs1 := Lib.hid (Hs.out.below hb1)
  have Hi1 := Lib.hid (Hi.out.below hb1)
  have Hc1 := Lib.hid (Hc.out.below hb1)
  clear hb1 hL
  by_cases hr : 1 ≤ wave ∧ wave ≤ ls.length
  case neg =>
    have hres := Lib.hid (show wdB c g ls wave = false by unfold wdB wlB; rw [decide_eq_false hr, Bool.and_false]; rfl)
    go_wp2_with fail
    refine (led_direct_bad HL.out Hs1.out wave h15 hr).mono ?_
    rintro e w2 ⟨rfl, hd2⟩
    have Hb2 := Lib.hid (below_step Hb1.out Hb1.out.size (hd2.below _))
    clear hd2
    go_wp2
    go_ret
    exact ⟨by rw [hres.out]; rfl, Hb2.out⟩
  have hres := Lib.hid (show wdB c g ls wave = decide (totalZ c / 3 + 1 ≤ voZ c g ls wave.toNat) by unfold wdB wlB; rw [Hw.out, decide_eq_true hr]; rfl)
  obtain ⟨k, rfl⟩ : ∃ k : Nat, wave = k := ⟨wave.toNat, by omega⟩
  rw [Int.toNat_natCast] at hres
  have HD := Lib.hid (led_direct HL.out Hs1.out k (by omega) Hok.out hbig Hc1.out Hi1.out)
  clear hr
  generalize decide (totalZ c / 3 + 1 ≤ voZ c g ls k) = B at *
  go_wp2_with fail
  refine HD.out.mono ?_
  rintro e w2 ⟨rfl, hd2⟩
  have Hb2 := Lib.hid (below_step Hb1.out Hb1.out.size (hd2.below _))
  clear hd2
  go_wp2
  go_ret
  exact ⟨by rw [hres.out]; rfl, Hb2.out⟩

set_option maxRecDepth 8000 in
set_option maxHeartbeats 1000000 in
theorem impl_CommitWaves (ac : Option Addr) (capc : Nat) (c : List Int) (g : List Vx) (v : Value) (fp : List Nat) (al : Option Addr) (cap : Nat) (ls : List Int) (eN eI : Addr) (w : World) (hn : c.length ≤ 1099511627776) (hbig : g.length ≤ 1048576) (hps : ∀ x ∈ g, x.ps.length ≤ 1099511627776) (hl : ls.length ≤ 1099511627776) (_hcc : c.length ≤ capc) (hc : IntsAt w ac c) (hg : Gr w g v fp) (_hlc : ls.length ≤ cap) (hi : IntsAt w al ls) (hs : Sen w eN eI) :
    Calls Tryd.prog 11 #[.slice ac c.length capc, v, .slice al ls.length cap] w fun e w' => ∃ u, e = .returned u ∧ Own 3 w' w.heap.size u (cwZ c g ls) ∧ Below w.heap.size w w' := by
  cases hw : waB c g ls with
  | false =>
    have H := Lib.hid (ledGraphOf_no ac capc c g v fp al cap ls eN eI w hn hbig hps hl hc hg hi hs hw)
    have hres := Lib.hid (show cwZ c g ls = [] by unfold cwZ; rw [hw]; rfl)
    clear hc hg hi hps hs hw
    go_enter Tryd.func11, Tryd.ntmps11
    go_wp2_with fail
    refine H.out.mono ?_
    rintro e w1 ⟨rfl, hb1⟩
    have Hb1 := Lib.hid hb1
    have Ho := Lib.hid (own_empty 3 w1 hb1.size)
    have hal : Below w1.heap.size w1 (w1.alloc (.cells #[] 3)) := (Below.refl _ _).alloc (Nat.le_refl _) _
    have Hal := Lib.hid hal
    clear hb1 hal
    go_wp2
    go_ret
    exact ⟨_, rfl, by rw [hres.out]; exact Ho.out, below_step Hb1.out Hb1.out.size Hal.out⟩
  | true =>
  have ok := good21 hw hps
  have H := Lib.hid (ledGraphOf_yes ac capc c g v fp al cap ls w hn hbig hps hl hc hg hi hw)
  have Hs := Lib.hid hs
  have Hi := Lib.hid hi; have Hc := Lib.hid hc
  have Hw := Lib.hid hw
  have Hok := Lib.hid ok
  have h15 := ok.l15
  clear hc hg hi hps hs hw ok
  go_enter Tryd.func11, Tryd.ntmps11
  go_wp2_with fail
  refine H.out.mono ?_
  rintro e w1 ⟨q, G, hi', h, rfl, hb1, hq, hL⟩
  have Hb1 := Lib.hid hb1
  have HL := Lib.hid hL
  have Hs1 := Lib.hid (Hs.out.below hb1)
  have Hi1 := Lib.hid (Hi.out.below hb1)
  have Hc1 := Lib.hid (Hc.out.below hb1)
  clear hb1 hL
  have hres := Lib.hid (show cwZ c g ls = (wvs c g ls ls.length).1 by unfold cwZ; rw [Hw.out]; rfl)
  have HD := Lib.hid (led_committed HL.out Hs1.out Hok.out hbig Hc1.out Hi1.out)
  go_wp2_with fail
  refine HD.out.mono ?_
  rintro e w2 ⟨u, rfl, ho2, hb2⟩
  have Ho2 := Lib.hid (ho2.mono Hb1.out.size)
  have Hb2 := Lib.hid (below_step Hb1.out Hb1.out.size hb2)
  clear ho2 hb2
  go_wp2
  go_ret
  exact ⟨u, rfl, by rw [hres.out]; exact Ho2.out, Hb2.out⟩

end Go.Proofs.YtjekgjlnaochiabDoor

/- The reference's committed waves, by walks of its texts; condition: the graph has at most 2^20 vertices. -/
namespace Go.Proofs.YtjekgjlnaochiabDoor
open Go.RowKit

theorem TIw : IntT Tryd.prog 23 3 := ⟨Tryd.underlying23, by kernel_rfl⟩

set_option maxHeartbeats 8000000 in
set_option maxRecDepth 8000 in
theorem spec_l21Waves (ac : Option Addr) (capc : Nat) (c : List Int) (g : List Vx) (v : Value) (fp : List Nat) (al : Option Addr) (cap : Nat) (ls : List Int) (w : World) (hgb : graphB c g = true) (hlb : ls.length ≤ 15) (hbig : g.length ≤ 1048576) (hps : ∀ x ∈ g, x.ps.length ≤ 1099511627776) (hc : IntsAt w ac c) (hg : Gr w g v fp) (hi : IntsAt w al ls) :
    Calls Tryd.prog 37 #[.slice ac c.length capc, v, .slice al ls.length cap] w fun e w' => ∃ u, e = .returned u ∧ Own 3 w' w.heap.size u (wvs c g ls ls.length).1 ∧ Below w.heap.size w w' := by
  have hv : validB c = true := by have h := hgb; unfold graphB at h; simp only [Bool.and_eq_true] at h; exact h.1
  have hb0 : Below w.heap.size w (w.alloc (.cells #[] 3)) := (Below.refl _ _).alloc (Nat.le_refl _) _
  have Ho := Lib.hid (own_empty 3 w (Nat.le_refl w.heap.size))
  have hz0 : (w.alloc (.cells #[] 3)).heap.size = w.heap.size + 1 := by simp
  have HV := Lib.hid (fun m hm W (hb : Below w.heap.size w W) => spec_l21Votes ac capc c g v fp al cap ls m W hgb (by omega) hps hm hlb (hc.below hb) (hg.under hb) (hi.below hb))
  have HS := Lib.hid (fun W (hb : Below w.heap.size w W) => spec_l1Support ac capc c W hv (hc.below hb))
  have HL := Lib.hid (fun m hm W (hb : Below w.heap.size w W) => spec_l21Leader g v fp al cap ls m W (by omega) hm hlb (hg.under hb) (hi.below hb))
  have HP := Lib.hid (fun at' ha W (hb : Below w.heap.size w W) => spec_l11Past c g v fp at' W hgb hbig hps ha (hg.under hb))
  have Hb0 := Lib.hid hb0
  clear hc hg hi hps hb0 hgb hv
  go_enter Tryd.func37, Tryd.ntmps37
  go_wp2
  go_loopw [7, 8, 9] (fun o la i wr => ∃ m : Nat, 1 ≤ m ∧ m ≤ ls.length + 1 ∧ i = .int .i64 m ∧ la = .int .i64 ((wvs c g ls (m - 1)).2 : Nat) ∧ Own 3 wr w.heap.size o (wvs c g ls (m - 1)).1 ∧ Below w.heap.size w wr) (fun _ _ i _ => ls.length + 1 - (intOf i).toNat)
  case atStart => exact ⟨1, by omega, by omega, rfl, rfl, Ho.out, Hb0.out⟩
  case round =>
    obtain ⟨m, hm1, hm2, rfl, rfl, ho, hb⟩ := hrel
    have hwl := wvs_len (c := c) (g := g) (ls := ls) (m - 1)
    clear Ho Hb0 hz0
    have Ho := Lib.hid ho; have Hb := Lib.hid hb
    clear ho hb
    by_cases hlt : m ≤ ls.length
    · have hlt' : (m : Int) ≤ (ls.length : Int) := by omega
      go_wp2_with fail
      refine (HV.out m ⟨hm1, hlt⟩ wr Hb.out).mono ?_
      rintro e w1 ⟨rfl, hd1⟩
      have Ho1 := Lib.hid (Ho.out.below (hd1.below _))
      have Hb1 := Lib.hid (below_step Hb.out Hb.out.size (hd1.below _))
      clear hd1 Ho Hb
      go_wp2_with fail
      refine (HS.out w1 Hb1.out).mono ?_
      rintro e w2 ⟨rfl, rfl⟩
      by_cases hq : voZ c g ls m < totalZ c / 3 + 1
      · have hn := Lib.hid (wvs_no hm1 hq)
        generalize voZ c g ls m = V at *
        go_wp2
        go_roundw
        case rel => exact ⟨m + 1, by omega, by omega, by go_num, by rw [Nat.add_sub_cancel, hn.out], by rw [Nat.add_sub_cancel, hn.out]; exact Ho1.out, Hb1.out⟩
        case measure => simp [intOf]; omega
      · have hy := wvs_yes hm1 hq
        have Hy1 := Lib.hid (show (wvs c g ls m).1 = (wvs c g ls (m - 1)).1 ++ chZ g ls (wvs c g ls (m - 1)).2 (m - 1) [(m : Int)] (ldZ g ls m) by rw [hy])
        have Hy2 := Lib.hid (show (wvs c g ls m).2 = m by rw [hy])
        clear hy
        generalize voZ c g ls m = V at *
        generalize (wvs c g ls (m - 1)).2 = lo at *
        generalize (wvs c g ls (m - 1)).1 = O at *
        have hcl := chZ_len (g := g) (ls := ls) (lo := lo) (m - 1) [(m : Int)] (ldZ g ls m)
        generalize hCH : chZ g ls lo (m - 1) [(m : Int)] (ldZ g ls m) = CH at *
        have HCH := Lib.hid hCH; clear hCH
        have hal : Below w1.heap.size w1 (w1.alloc (.cells #[.int .i64 m] 3)) := (Below.refl _ _).alloc (Nat.le_refl _) _
        have oc := own_single 3 w1 m
        have hz1 : (w1.alloc (.cells #[.int .i64 m] 3)).heap.size = w1.heap.size + 1 := by simp
        have Hnb := Lib.hid (Ho1.out.lt)
        have hsw := Hb1.out.size
        have Ho2 := Lib.hid (Ho1.out.below hal)
        have Hb2 := Lib.hid (below_step Hb1.out Hb1.out.size hal)
        have Hc2 := Lib.hid oc
        clear oc hal Ho1 Hb1
        go_wp2_with fail
        generalize hw2 : w1.alloc (.cells #[.int .i64 m] 3) = w2 at *
        generalize hNB : w1.heap.size = NB at *
        refine (HL.out m ⟨hm1, hlt⟩ w2 Hb2.out).mono ?_
        rintro e w3 ⟨rfl, rfl⟩
        have Hlc := Lib.hid (ldZ_cases g ls m)
        go_wp2_with fail
        refine (HP.out _ Hlc.out w2 Hb2.out).mono ?_
        rintro e w4 ⟨pv, rfl, hpo, hb4⟩
        have Ho4 := Lib.hid (Ho2.out.below hb4)
        have Hc4 := Lib.hid (Hc2.out.below hb4)
        have Hb4 := Lib.hid (below_step Hb2.out Hb2.out.size hb4)
        have hs4 := hb4.size
        have Hp4 := Lib.hid (hpo.mono (show NB ≤ w2.heap.size by omega))
        clear hb4 hpo Ho2 Hc2 Hb2 hw2
        have hm0 : IntKind.i64.wrap ((m : Int) - 1) = ((m - 1 : Nat) : Int) := by rw [IntWalk.i64_in _ (by omega)]; omega
        go_wp2
        go_loopw [10, 11, 12] (fun ch pa xx wr => ∃ (x : Nat) (C : List Int) (at' : Int), x ≤ m - 1 ∧ xx = .int .i64 x ∧ C.length + x ≤ m ∧ chZ g ls lo x C at' = CH ∧ Own 3 wr NB ch C ∧ OwnB 4 wr NB pa (pastB g at') ∧ Own 3 wr w.heap.size u7 O ∧ Below w.heap.size w wr ∧ NB ≤ wr.heap.size) (fun _ _ xx _ => (intOf xx).toNat)
        case atStart => exact ⟨m - 1, [(m : Int)], ldZ g ls m, by omega, by first | rfl | rw [hm0], by simp; omega, HCH.out, Hc4.out, Hp4.out, Ho4.out, Hb4.out, by omega⟩
        case round =>
          obtain ⟨x, C, at', hx, rfl, hCl, hch, hc5, hp5, ho5, hb5, hn5⟩ := hrel
          have Hc5 := Lib.hid hc5; have Hp5 := Lib.hid hp5; have Ho5 := Lib.hid ho5; have Hb5 := Lib.hid hb5; have Hch := Lib.hid hch
          clear hc5 hp5 ho5 hb5 hch Hc4 Hp4 Ho4 Hb4 hs4 hm0
          obtain ⟨ac5, cc5, rfl, _, _⟩ := Hc5.out.ints
          have hCb : C.length ≤ 15 := by omega
          by_cases hxl : lo < x
          · have hxl' : (lo : Int) < (x : Int) := by omega
            have hx1 : IntKind.i64.wrap ((x : Int) - 1) = ((x - 1 : Nat) : Int) := by rw [IntWalk.i64_in _ (by omega)]; omega
            have Hyes := Lib.hid (fun h => (chZ_yes (g := g) (ls := ls) (ch := C) (at' := at') hxl h).symm.trans Hch.out)
            have Hno := Lib.hid (fun h => (chZ_no (g := g) (ls := ls) (ch := C) (at' := at') hxl h).symm.trans Hch.out)
            have Hlk := Lib.hid (show linkB g ls at' x = (decide (0 ≤ ldZ g ls x) && (pastB g at').getD (ldZ g ls x).toNat false) from rfl)
            have Hpl := Lib.hid (pastB_len g at')
            have Hlc := Lib.hid (ldZ_cases g ls x)
            clear hxl
            go_wp2_with fail
            refine (HL.out x ⟨by omega, by omega⟩ wr Hb5.out).mono ?_
            rintro e w6 ⟨rfl, rfl⟩
            have HPx := Lib.hid (HP.out _ Hlc.out)
            by_cases hz : 0 ≤ ldZ g ls x
            · obtain ⟨j, hj, hje⟩ : ∃ j : Nat, j < g.length ∧ ldZ g ls x = j := by
                rcases Hlc.out with h | h
                · omega
                · exact h
              have Hj := Lib.hid hje
              have hbl : (pastB g at').length = g.length := Hpl.out
              obtain ⟨gp, pc, rfl, _, hgp, _, hcell, _⟩ := Hp5.out.row (by omega)
              have hj0 : j < (pastB g at').length := by omega
              have hcj := hcell j hj0
              have hgj : (pastB g at').getD j false = (pastB g at')[j] := by simp [List.getD, List.getElem?_eq_getElem hj0]
              rw [← hgj] at hcj
              have Hlk2 := Lib.hid (show linkB g ls at' x = (pastB g at').getD j false by rw [Hlk.out, hje]; simp)
              have hz' : decide (0 ≤ (j : Int)) = true := by simp
              have HPj := Lib.hid (HP.out (j : Int) (.inr ⟨j, hj, rfl⟩))
              rw [hje]
              have hjl : (j : Int) < ((pastB g at').length : Int) := by omega
              clear hcell hgj hz Hlk hbl hj0 hje HPx
              cases hbj : (pastB g at').getD j false with
              | true =>
                have Hy := Lib.hid ((Hyes.out (Hlk2.out.trans hbj)).symm ▸ (show chZ g ls lo (x - 1) ((x : Int) :: C) (j : Int) = chZ g ls lo (x - 1) ((x : Int) :: C) (ldZ g ls x) by rw [Hj.out]))
                rw [hbj] at hcj
                clear hbj Hlk2 Hyes Hno
                have hal5 : Below wr.heap.size wr (wr.alloc (.cells #[.int .i64 x] 3)) := (Below.refl _ _).alloc (Nat.le_refl _) _
                have hz5 : (wr.alloc (.cells #[.int .i64 x] 3)).heap.size = wr.heap.size + 1 := by simp
                have Oc := Lib.hid (own_single 3 wr x)
                have Hsr := Lib.hid (own_src (Hc5.out.below hal5))
                have Ho6 := Lib.hid (Ho5.out.below hal5)
                have hsb := Hb5.out.size
                have Hb6 := Lib.hid (below_step Hb5.out Hb5.out.size hal5)
                have Hlt := Lib.hid (fun q e => (Ho5.out.lt q e).2)
                clear hal5
                go_wp2_with (at_builtin; refine wpList_appI TIw rfl _ _ rfl wr.heap.size (.slice (some ⟨wr.heap.size, 0, none⟩) 1 1) [(x : Int)] C ac5 cc5 rfl Oc.out rfl Hsr.out (by simp; omega) (by rw [hz5]; omega) ?_; intro v7 w7 ho7 hg7)
                have hs7 := hg7.size
                have Hb7 := Lib.hid (Hb6.out.grown hg7 (by omega) (fun q e => by cases e; omega))
                have Ho7 := Lib.hid (Ho6.out.kept hg7 (.inr (fun e => by have h9 := Hlt.out wr.heap.size e; omega)))
                have Hc7 := Lib.hid ho7
                clear ho7 hg7 Ho6 Hb6 Hsr Oc
                refine (HPj.out w7 Hb7.out).mono ?_
                rintro e w8 ⟨pv8, rfl, hp8, hb8⟩
                have Ho8 := Lib.hid (Ho7.out.below hb8)
                have Hc8 := Lib.hid ((Hc7.out.below hb8).mono (show NB ≤ wr.heap.size from hn5))
                have Hb8 := Lib.hid (below_step Hb7.out Hb7.out.size hb8)
                have Hp8 := Lib.hid (hp8.mono (show NB ≤ w7.heap.size by omega))
                have hs8 := hb8.size
                clear hp8 hb8
                go_wp2
                go_roundw
                case rel => exact ⟨x - 1, (x : Int) :: C, (j : Int), by omega, by first | rfl | rw [hx1], by rw [List.length_cons]; omega, Hy.out, Hc8.out, Hp8.out, Ho8.out, Hb8.out, by omega⟩
                case measure => simp [intOf]; omega
              | false =>
                have Hn := Lib.hid (Hno.out (Hlk2.out.trans hbj))
                rw [hbj] at hcj
                clear hbj Hlk2 Hyes Hno
                go_wp2
                go_roundw
                case rel => exact ⟨x - 1, C, at', by omega, by first | rfl | rw [hx1], by omega, Hn.out, Hc5.out, Hp5.out, Ho5.out, Hb5.out, hn5⟩
                case measure => simp [intOf]; omega
            · have Hn := Lib.hid (Hno.out (by rw [Hlk.out, decide_eq_false hz]; rfl))
              clear Hyes Hno Hlk
              generalize ldZ g ls x = z at *
              go_wp2
              go_roundw
              case rel => exact ⟨x - 1, C, at', by omega, by first | rfl | rw [hx1], by omega, Hn.out, Hc5.out, Hp5.out, Ho5.out, Hb5.out, hn5⟩
              case measure => simp [intOf]; omega
          · have hCH := (chZ_done (g := g) (ls := ls) (ch := C) (at' := at') (show x ≤ lo by omega)).symm.trans Hch.out
            have HCC := Lib.hid hCH; clear hCH
            have Hsr := Lib.hid (own_src Hc5.out)
            have hsb := Hb5.out.size
            have Hlt := Lib.hid (fun q e => (Ho5.out.lt q e).1)
            go_wp2_with (at_builtin; refine wpList_appI TIw rfl _ _ rfl w.heap.size u7 O C ac5 cc5 rfl Ho5.out rfl Hsr.out (by omega) hsb ?_; intro v8 w8 ho8 hg8)
            have Hb8 := Lib.hid (Hb5.out.grown hg8 hsb (fun q e => Hlt.out q e))
            have Ho8 := Lib.hid ho8
            clear ho8 hg8
            go_roundw
            case rel => exact ⟨m + 1, by omega, by omega, by go_num, by rw [Nat.add_sub_cancel, Hy2.out], by rw [Nat.add_sub_cancel, Hy1.out, ← HCC.out]; exact Ho8.out, Hb8.out⟩
            case measure => simp [intOf]; omega
    · have hml : m - 1 = ls.length := by omega
      go_wp2
      go_ret
      exact ⟨_, rfl, by rw [← hml]; exact Ho.out, Hb.out⟩

end Go.Proofs.YtjekgjlnaochiabDoor

/- The reference's CommitWaves, by a walk of its text; condition: the graph has at most 2^20 vertices. -/
namespace Go.Proofs.YtjekgjlnaochiabDoor
open Go.RowKit

theorem spec_CommitWaves (ac : Option Addr) (capc : Nat) (c : List Int) (g : List Vx) (v : Value) (fp : List Nat) (al : Option Addr) (cap : Nat) (ls : List Int) (w : World) (hn : c.length ≤ 1099511627776) (hbig : g.length ≤ 1048576) (hps : ∀ x ∈ g, x.ps.length ≤ 1099511627776) (hl : ls.length ≤ 1099511627776) (hc : IntsAt w ac c) (hg : Gr w g v fp) (hi : IntsAt w al ls) :
    Calls Tryd.prog 12 #[.slice ac c.length capc, v, .slice al ls.length cap] w fun e w' => ∃ u, e = .returned u ∧ Own 3 w' w.heap.size u (cwZ c g ls) ∧ Below w.heap.size w w' := by
  have HV := Lib.hid (spec_l21Ok ac capc c g v fp al cap ls w hn (by omega) hps hl hc hg hi)
  have Hg := Lib.hid hg; have Hi := Lib.hid hi; have Hc := Lib.hid hc; have HP := Lib.hid hps
  clear hc hg hi hps
  go_enter Tryd.func12, Tryd.ntmps12
  go_wp2_with fail
  refine HV.out.mono ?_
  rintro e w1 ⟨rfl, hb1⟩
  have Hb1 := Lib.hid hb1
  have Hg1 := Lib.hid (Hg.out.under hb1)
  have Hi1 := Lib.hid (Hi.out.below hb1)
  have Hc1 := Lib.hid (Hc.out.below hb1)
  cases h1 : waB c g ls with
  | false =>
    have hres := Lib.hid (show cwZ c g ls = [] by unfold cwZ; rw [h1]; rfl)
    have Ho := Lib.hid (own_empty 3 w1 hb1.size)
    have hal : Below w1.heap.size w1 (w1.alloc (.cells #[] 3)) := (Below.refl _ _).alloc (Nat.le_refl _) _
    have Hal := Lib.hid hal
    clear hal hb1 h1
    go_wp2
    go_ret
    exact ⟨_, rfl, by rw [hres.out]; exact Ho.out, below_step Hb1.out Hb1.out.size Hal.out⟩
  | true =>
  have hh := h1
  unfold waB at hh
  simp only [Bool.and_eq_true] at hh
  have hres := Lib.hid (show cwZ c g ls = (wvs c g ls ls.length).1 by unfold cwZ; rw [h1]; rfl)
  have HW := Lib.hid (spec_l21Waves ac capc c g v fp al cap ls w1 hh.1 (ldAt hh.2).1 hbig HP.out Hc1.out Hg1.out Hi1.out)
  clear hb1 h1 hh
  go_wp2_with fail
  refine HW.out.mono ?_
  rintro e w2 ⟨u, rfl, ho2, hb2⟩
  have Ho2 := Lib.hid (ho2.mono Hb1.out.size)
  have Hb2 := Lib.hid (below_step Hb1.out Hb1.out.size hb2)
  clear ho2 hb2
  go_wp2
  go_ret
  exact ⟨u, rfl, by rw [hres.out]; exact Ho2.out, Hb2.out⟩

end Go.Proofs.YtjekgjlnaochiabDoor

/- Plain facts of the laws of waves; nothing here is walked. -/
namespace Go.Proofs.YtjekgjlnaochiabDoor
open Go.RowKit

theorem wl_ok {c : List Int} {g : List Vx} {ls : List Int} {wave : Int} (h : wlB c g ls wave = true) : waB c g ls = true ∧ 1 ≤ wave ∧ wave ≤ ls.length := by
  unfold wlB at h; simp only [Bool.and_eq_true, decide_eq_true_eq] at h; exact ⟨h.1, h.2.1, h.2.2⟩
theorem wa_valid {c : List Int} {g : List Vx} {ls : List Int} (h : waB c g ls = true) : validB c = true := by
  unfold waB graphB at h; simp only [Bool.and_eq_true] at h; exact h.1.1
theorem wd_votes (c : List Int) (g : List Vx) (ls : List Int) (wave : Int) : wdB c g ls wave = (decide (0 ≤ wvZ c g ls wave) && decide (orNo c (totalZ c / 3 + 1) ≤ wvZ c g ls wave)) := by
  unfold wdB wvZ
  cases h : wlB c g ls wave with
  | false => simp
  | true =>
    have hv := wa_valid (wl_ok h).1
    have hp := voZ_pos (c := c) (g := g) (ls := ls) (k := wave.toNat) hv
    rw [orNo_yes hv]
    simp [hp]
theorem validB_of_graph {c : List Int} {g : List Vx} (h : graphB c g = true) : validB c = true := by unfold graphB at h; simp only [Bool.and_eq_true] at h; exact h.1

end Go.Proofs.YtjekgjlnaochiabDoor

/- The waves that are committed, as chains of links back from the last one that is committed directly; plain facts on lists, nothing here speaks of the program. -/
namespace Go.Proofs.YtjekgjlnaochiabDoor
open Go.RowKit

/-- The waves from x down to behind lo that are linked, back from cur, in ascending order. -/
def chF (lk : Nat → Nat → Bool) (lo : Nat) : Nat → Nat → List Nat
  | 0, _ => []
  | x + 1, cur => if x + 1 ≤ lo then [] else if lk cur (x + 1) then chF lk lo x (x + 1) ++ [x + 1] else chF lk lo x cur
def fuW (lk : Nat → Nat → Bool) (w : Nat) : List Nat := chF lk 0 (w - 1) w ++ [w]
def lkB (g : List Vx) (ls : List Int) (cur x : Nat) : Bool := linkB g ls (ldZ g ls cur) x
theorem chF_done {lk : Nat → Nat → Bool} {lo x cur : Nat} (h : x ≤ lo) : chF lk lo x cur = [] := by
  cases x with
  | zero => rfl
  | succ x => unfold chF; rw [if_pos h]
theorem chZ_chF (g : List Vx) (ls : List Int) (lo : Nat) : ∀ (x cur : Nat) (ch : List Int), chZ g ls lo x ch (ldZ g ls cur) = (chF (lkB g ls) lo x cur).map Int.ofNat ++ ch
  | 0, cur, ch => by simp [chZ, chF]
  | x + 1, cur, ch => by
    unfold chZ chF
    by_cases h1 : x + 1 ≤ lo
    · rw [if_pos h1, if_pos h1]; rfl
    · rw [if_neg h1, if_neg h1]
      cases h2 : lkB g ls cur (x + 1) with
      | true =>
        have h2' : linkB g ls (ldZ g ls cur) (x + 1) = true := h2
        rw [if_pos h2', if_pos rfl, chZ_chF g ls lo x (x + 1)]
        simp
      | false =>
        have h2' : ¬ linkB g ls (ldZ g ls cur) (x + 1) = true := by
          intro h; have : lkB g ls cur (x + 1) = true := h; rw [h2] at this; cases this
        rw [if_neg h2', if_neg (by simp), chZ_chF g ls lo x cur]
/-- A link leads to a wave with a leader vertex. -/
theorem lk_has {g : List Vx} {ls : List Int} {cur x : Nat} (h : lkB g ls cur x = true) : 0 ≤ ldZ g ls x := by
  unfold lkB linkB at h; simp only [Bool.and_eq_true, decide_eq_true_eq] at h; exact h.1
section
variable {lk : Nat → Nat → Bool} {has : Nat → Prop}
/-- Where every later leader reaches the leader of wave m, the chain goes through m. -/
theorem chF_split (hlk : ∀ u x, lk u x = true → has x) {m : Nat} (hm : 1 ≤ m) (hD : ∀ u, m < u → has u → lk u m = true) : ∀ (x cur : Nat), m ≤ x → x < cur → has cur → chF lk 0 x cur = fuW lk m ++ chF lk m x cur
  | 0, cur, h, _, _ => by omega
  | x + 1, cur, h, hc, hh => by
    by_cases e : x + 1 = m
    · have h1 := hD cur (by omega) hh
      rw [← e] at h1
      rw [show chF lk m (x + 1) cur = [] from chF_done (by omega), List.append_nil]
      rw [chF, if_neg (by omega), if_pos h1]
      unfold fuW
      rw [← e]
      rfl
    · have ih1 := chF_split hlk hm hD x (x + 1) (by omega) (by omega)
      have ih2 := chF_split hlk hm hD x cur (by omega) (by omega) hh
      have e1 : chF lk 0 (x + 1) cur = if lk cur (x + 1) then chF lk 0 x (x + 1) ++ [x + 1] else chF lk 0 x cur := by rw [chF, if_neg (by omega)]
      have e2 : chF lk m (x + 1) cur = if lk cur (x + 1) then chF lk m x (x + 1) ++ [x + 1] else chF lk m x cur := by rw [chF, if_neg (by omega)]
      rw [e1, e2]
      cases h2 : lk cur (x + 1) with
      | true =>
        rw [if_pos rfl, if_pos rfl, ih1 (hlk _ _ h2), List.append_assoc]
      | false => rw [if_neg (by simp), if_neg (by simp), ih2]
theorem fuW_split (hlk : ∀ u x, lk u x = true → has x) {m w : Nat} (hm : 1 ≤ m) (hw : m < w) (hD : ∀ u, m < u → has u → lk u m = true) (hh : has w) : fuW lk w = fuW lk m ++ chF lk m (w - 1) w ++ [w] := by
  rw [show fuW lk w = chF lk 0 (w - 1) w ++ [w] from rfl, chF_split hlk hm hD (w - 1) w (by omega) (by omega) hh]
theorem fuW_pre (hlk : ∀ u x, lk u x = true → has x) {m w : Nat} (hm : 1 ≤ m) (hw : m ≤ w) (hD : ∀ u, m < u → has u → lk u m = true) (hh : has w) : fuW lk m <+: fuW lk w := by
  by_cases e : m = w
  · rw [e]; exact List.prefix_refl _
  · rw [fuW_split hlk hm (by omega) hD hh, List.append_assoc]; exact List.prefix_append _ _
/-- Two relations that agree on what has a leader vertex make the same chains. -/
theorem chF_same {lk' : Nat → Nat → Bool} {has' : Nat → Prop} (hlk' : ∀ u x, lk' u x = true → has' x) (he : ∀ u x, has' u → lk' u x = lk u x) (lo : Nat) : ∀ x cur, has' cur → chF lk' lo x cur = chF lk lo x cur
  | 0, _, _ => rfl
  | x + 1, cur, hh => by
    unfold chF
    rw [← he cur (x + 1) hh]
    by_cases h1 : x + 1 ≤ lo
    · rw [if_pos h1, if_pos h1]
    · rw [if_neg h1, if_neg h1]
      cases h2 : lk' cur (x + 1) with
      | true => rw [if_pos rfl, if_pos rfl, chF_same hlk' he lo x (x + 1) (hlk' _ _ h2)]
      | false => rw [if_neg (by simp), if_neg (by simp), chF_same hlk' he lo x cur hh]
/-- What stands in a chain: in order, below cur, each with a leader vertex; and each is linked to by the next. -/
theorem chF_mem (hlk : ∀ u x, lk u x = true → has x) (lo : Nat) : ∀ x cur, x < cur → ∀ y ∈ chF lk lo x cur, lo < y ∧ y ≤ x ∧ has y
  | 0, _, _, y, hy => by simp [chF] at hy
  | x + 1, cur, hc, y, hy => by
    unfold chF at hy
    by_cases h1 : x + 1 ≤ lo
    · rw [if_pos h1] at hy; cases hy
    · rw [if_neg h1] at hy
      cases h2 : lk cur (x + 1) with
      | true =>
        rw [h2, if_pos rfl] at hy
        rcases List.mem_append.1 hy with h | h
        · have := chF_mem hlk lo x (x + 1) (by omega) y h; exact ⟨this.1, by omega, this.2.2⟩
        · have : y = x + 1 := by simpa using h
          subst this
          exact ⟨by omega, Nat.le_refl _, hlk _ _ h2⟩
      | false =>
        rw [h2, if_neg (by simp)] at hy
        have := chF_mem hlk lo x cur (by omega) y hy; exact ⟨this.1, by omega, this.2.2⟩
theorem chF_asc (hlk : ∀ u x, lk u x = true → has x) (lo : Nat) : ∀ x cur, x < cur → (chF lk lo x cur).Pairwise (· < ·)
  | 0, _, _ => by simp [chF]
  | x + 1, cur, hc => by
    unfold chF
    by_cases h1 : x + 1 ≤ lo
    · rw [if_pos h1]; exact .nil
    · rw [if_neg h1]
      cases h2 : lk cur (x + 1) with
      | true =>
        rw [if_pos rfl]
        refine List.pairwise_append.2 ⟨chF_asc hlk lo x (x + 1) (by omega), by simp, fun a ha b hb => ?_⟩
        have := (chF_mem hlk lo x (x + 1) (by omega) a ha).2.1
        have : b = x + 1 := by simpa using hb
        omega
      | false => rw [if_neg (by simp)]; exact chF_asc hlk lo x cur (by omega)
/-- Each is linked to by the next one. -/
def Lkd (lk : Nat → Nat → Bool) : List Nat → Prop
  | a :: b :: r => lk b a = true ∧ Lkd lk (b :: r)
  | _ => True
theorem lkd_snoc {lk : Nat → Nat → Bool} : ∀ (l : List Nat) (a b : Nat), Lkd lk (l ++ [a]) → lk b a = true → Lkd lk (l ++ [a] ++ [b])
  | [], _, _, _, h => ⟨h, trivial⟩
  | [_], _, _, h1, h => ⟨h1.1, h, trivial⟩
  | _ :: d :: l, a, b, h1, h => ⟨h1.1, lkd_snoc (d :: l) a b h1.2 h⟩
theorem chF_lkd (lo : Nat) : ∀ x cur, Lkd lk (chF lk lo x cur ++ [cur])
  | 0, _ => trivial
  | x + 1, cur => by
    unfold chF
    by_cases h1 : x + 1 ≤ lo
    · rw [if_pos h1]; trivial
    · rw [if_neg h1]
      cases h2 : lk cur (x + 1) with
      | true => rw [if_pos rfl]; exact lkd_snoc _ _ _ (chF_lkd lo x (x + 1)) h2
      | false => rw [if_neg (by simp)]; exact chF_lkd lo x cur
theorem lkd_at {lk : Nat → Nat → Bool} : ∀ (l : List Nat), Lkd lk l → ∀ i (h : i + 1 < l.length), lk l[i + 1] (l[i]'(by omega)) = true
  | [], _, i, h => by simp at h
  | [_], _, i, h => by simp at h
  | a :: b :: r, hl, 0, _ => hl.1
  | a :: b :: r, hl, i + 1, h => lkd_at (b :: r) hl.2 i (by simpa using h)
theorem fuW_asc (hlk : ∀ u x, lk u x = true → has x) {w : Nat} (hw : 1 ≤ w) : (fuW lk w).Pairwise (· < ·) := by
  refine List.pairwise_append.2 ⟨chF_asc hlk 0 (w - 1) w (by omega), by simp, fun a ha b hb => ?_⟩
  have := (chF_mem hlk 0 (w - 1) w (by omega) a ha).2.1
  have : b = w := by simpa using hb
  omega
theorem fuW_mem (hlk : ∀ u x, lk u x = true → has x) {w : Nat} (hw : 1 ≤ w) (hh : has w) : ∀ y ∈ fuW lk w, 1 ≤ y ∧ y ≤ w ∧ has y := by
  intro y hy
  rcases List.mem_append.1 hy with h | h
  · have := chF_mem hlk 0 (w - 1) w (by omega) y h; exact ⟨by omega, by omega, this.2.2⟩
  · have : y = w := by simpa using h
    subst this; exact ⟨hw, Nat.le_refl _, hh⟩
theorem fuW_lkd (w : Nat) : Lkd lk (fuW lk w) := chF_lkd 0 (w - 1) w
end

/-- Whether a wave is committed directly. -/
def dirB (c : List Int) (g : List Vx) (ls : List Int) (w : Nat) : Bool := decide (totalZ c / 3 + 1 ≤ voZ c g ls w)
theorem dir_has {c : List Int} {g : List Vx} {ls : List Int} {w : Nat} (hv : validB c = true) (h : dirB c g ls w = true) : 0 ≤ ldZ g ls w := by
  have h := of_decide_eq_true h
  have hb := totalZ_bd hv
  by_cases h0 : 0 ≤ ldZ g ls w
  · exact h0
  · unfold voZ at h; rw [if_neg h0] at h; omega
theorem wvs_no' {c : List Int} {g : List Vx} {ls : List Int} {m : Nat} (h : dirB c g ls (m + 1) = false) : wvs c g ls (m + 1) = wvs c g ls m := by
  have := of_decide_eq_false h
  exact wvs_no (by omega) (by omega)
theorem wvs_yes' {c : List Int} {g : List Vx} {ls : List Int} {m : Nat} (h : dirB c g ls (m + 1) = true) : wvs c g ls (m + 1) = ((wvs c g ls m).1 ++ chZ g ls (wvs c g ls m).2 m [((m + 1 : Nat) : Int)] (ldZ g ls (m + 1)), m + 1) := by
  have := of_decide_eq_true h
  exact wvs_yes (by omega) (by omega)
/-- The last wave among the first m that is committed directly: 0 if there is none. -/
theorem wvs_last {c : List Int} {g : List Vx} {ls : List Int} : ∀ m, (wvs c g ls m).2 ≤ m ∧ ((wvs c g ls m).2 = 0 ∨ dirB c g ls (wvs c g ls m).2 = true) ∧ ∀ w, 1 ≤ w → w ≤ m → dirB c g ls w = true → w ≤ (wvs c g ls m).2
  | 0 => ⟨Nat.le_refl _, .inl rfl, fun w h1 h2 => by omega⟩
  | m + 1 => by
    obtain ⟨i1, i2, i3⟩ := wvs_last (c := c) (g := g) (ls := ls) m
    cases h : dirB c g ls (m + 1) with
    | false =>
      rw [wvs_no' h]
      refine ⟨by omega, i2, fun w h1 h2 h3 => ?_⟩
      by_cases e : w = m + 1
      · rw [e, h] at h3; cases h3
      · exact i3 w h1 (by omega) h3
    | true =>
      rw [wvs_yes' h]
      exact ⟨Nat.le_refl _, .inr h, fun w _ h2 _ => h2⟩
/-- What is committed is the whole chain back from the last wave that is committed directly. -/
theorem wvs_full {c : List Int} {g : List Vx} {ls : List Int} (hv : validB c = true) (hR : ∀ m u, 1 ≤ m → dirB c g ls m = true → m < u → 0 ≤ ldZ g ls u → lkB g ls u m = true) : ∀ m, (wvs c g ls m).1 = if (wvs c g ls m).2 = 0 then [] else (fuW (lkB g ls) (wvs c g ls m).2).map Int.ofNat
  | 0 => rfl
  | m + 1 => by
    have ih := wvs_full hv hR m
    have hl := wvs_last (c := c) (g := g) (ls := ls) m
    cases h : dirB c g ls (m + 1) with
    | false => rw [wvs_no' h]; exact ih
    | true =>
      have hh := dir_has hv h
      rw [wvs_yes' h]
      show (wvs c g ls m).1 ++ chZ g ls (wvs c g ls m).2 m [((m + 1 : Nat) : Int)] (ldZ g ls (m + 1)) = if m + 1 = 0 then [] else _
      rw [if_neg (by omega), chZ_chF]
      by_cases h0 : (wvs c g ls m).2 = 0
      · rw [if_pos h0] at ih
        rw [ih, h0]; simp [fuW]
      · rw [if_neg h0] at ih
        have hd := hl.2.1.resolve_left h0
        rw [ih, fuW_split (lk := lkB g ls) (has := fun u => 0 ≤ ldZ g ls u) (m := (wvs c g ls m).2) (w := m + 1) (fun u x => lk_has) (by omega) (by omega) (fun u hu hh => hR _ u (by omega) hd hu hh) hh]
        simp

theorem cwZ_len (c : List Int) (g : List Vx) (ls : List Int) : (cwZ c g ls).length ≤ ls.length := by
  unfold cwZ
  split
  · have := wvs_len (c := c) (g := g) (ls := ls) ls.length; omega
  · simp

end Go.Proofs.YtjekgjlnaochiabDoor

/- The reader of a code: what it picks lies in the range that is asked, and nothing but the reader's own count is written; each by a walk of its text; condition: at most 2^40 picks. -/
namespace Go.Proofs.YtjekgjlnaochiabDoor
open Go.RowKit

/-- The reader in block R: its code reads as bytes; it has picked p times. -/
structure Rdr (w : World) (R : Nat) (p : Nat) : Prop where
  at0 : ∃ a cap zs, w.cell? ⟨R, 0, none⟩ = some (.slice a (List.length (α := Int) zs) cap) ∧ zs.length ≤ 2000 ∧ (∀ z ∈ zs, 0 ≤ z ∧ z ≤ 255) ∧
    (zs.length < 1 ∨ ∃ b off, a = some ⟨b, off, none⟩ ∧ b < w.heap.size ∧ b < R ∧ ∀ j (h : j < zs.length), w.cell? ⟨b, off + j, none⟩ = some (.int .u8 zs[j]))
  at1 : w.cell? ⟨R, 1, none⟩ = some (.int .i64 p)
  fr : w.frozen? ⟨R, 1, none⟩ = false

theorem bits_xor_i64_nat (a b : Nat) (ha : a < 4611686018427387904) (hb : b < 4611686018427387904) : bits .xor .i64 (a : Int) (b : Int) = ((a ^^^ b : Nat) : Int) := by
  have hx : a ^^^ b < 2 ^ 62 := Nat.xor_lt_two_pow (by omega) (by omega)
  have h1 : (BitVec.ofInt 64 (a : Int)).toNat = a := by simp; omega
  have h2 : (BitVec.ofInt 64 (b : Int)).toNat = b := by simp; omega
  show IntKind.i64.wrap ((BitVec.ofInt 64 (a : Int) ^^^ BitVec.ofInt 64 (b : Int)).toNat : Int) = _
  rw [BitVec.toNat_xor, h1, h2]
  exact IntWalk.i64_in _ (by omega)

/-- A code that came in: its bytes. -/
structure CodeAt (w : World) (a : Option Addr) (cap : Nat) (zs : List Int) : Prop where
  big : zs.length ≤ 1099511627776
  cap : zs.length ≤ cap
  byte : ∀ z ∈ zs, 0 ≤ z ∧ z ≤ 255
  cells : zs.length < 1 ∨ ∃ b off, a = some ⟨b, off, none⟩ ∧ b < w.heap.size ∧ ∀ j (h : j < zs.length), w.cell? ⟨b, off + j, none⟩ = some (.int .u8 zs[j])
theorem CodeAt.below {w w' : World} {a : Option Addr} {cap : Nat} {zs : List Int} (h : CodeAt w a cap zs) (hb : Below w.heap.size w w') : CodeAt w' a cap zs := by
  refine ⟨h.big, h.cap, h.byte, ?_⟩
  rcases h.cells with h0 | ⟨b, off, rfl, hlt, hc⟩
  · exact .inl h0
  · exact .inr ⟨b, off, rfl, Nat.lt_of_lt_of_le hlt hb.size, fun j hj => (hb.cell (p := ⟨b, off + j, none⟩) hlt).trans (hc j hj)⟩
theorem codeAt_of {w : World} {a : Option Addr} {cap : Nat} {zs : List Int} (hk : zs.length ≤ cap) (hm : zs.length ≤ 1048576) (hi : zs = [] ∨ ∃ b off, a = some ⟨b, off, none⟩ ∧ b < w.heap.size ∧ ∀ j (h : j < zs.length), w.cell? ⟨b, off + j, none⟩ = some (.int .u8 zs[j]))
    (hw : ∀ z ∈ zs, (Lit.int .u8 z).wf = true) : CodeAt w a cap zs := by
  have hc : zs.length < 1 ∨ ∃ b off, a = some ⟨b, off, none⟩ ∧ b < w.heap.size ∧ ∀ j (h : j < zs.length), w.cell? ⟨b, off + j, none⟩ = some (.int .u8 zs[j]) := by
    rcases hi with rfl | hi
    · exact .inl (by simp)
    · exact .inr hi
  refine ⟨by omega, hk, fun z hz => ?_, hc⟩
  have := hw z hz
  simp [Lit.wf, IntKind.min, IntKind.max, IntKind.signed, IntKind.bits] at this
  omega

/-- The world behind one pick. -/
def picked (w : World) (R p : Nat) : World := w.setCell ⟨R, 1, none⟩ (.int .i64 ((p : Int) + 1))
theorem picked_grown (w : World) (R p : Nat) : w.grownBy (picked w R p) (some R) :=
  ⟨rfl, rfl, rfl, by simp [picked, World.setCell], fun k _ hk => Below.heap_setCell _ _ _ _ (fun e => hk (by rw [e]))⟩
theorem picked_rdr {w : World} {R p : Nat} (h : Rdr w R p) : Rdr (picked w R p) R (p + 1) := by
  obtain ⟨⟨a, cap, zs, h0, hlen, hby, hb⟩, h1, hfr⟩ := h
  refine ⟨⟨a, cap, zs, (World.cell?_setCell_other _ _ _ _ (by simp)).trans h0, hlen, hby, ?_⟩, (World.cell?_setCell_same _ _ _ h1).trans (by simp), (World.frozen?_setCell _ _ _ _).trans hfr⟩
  rcases hb with hb | ⟨b, off, rfl, hlt, hne, hc⟩
  · exact .inl hb
  · exact .inr ⟨b, off, rfl, by simpa [picked, World.setCell] using hlt, hne, fun j hj => (World.cell?_setCell_other _ _ _ _ (by simp)).trans (hc j hj)⟩
theorem Rdr.kept {w w' : World} {R p : Nat} {row : Option Nat} (h : Rdr w R p) (hg : w.grownBy w' row) (hrow : ∀ g, row = some g → R < g) : Rdr w' R p := by
  obtain ⟨⟨a, cap, zs, h0, hlen, hby, hb⟩, h1, hfr⟩ := h
  have hRr : ∀ b, b ≤ R → some b ≠ row := fun b hb e => by have := hrow b e.symm; omega
  have hRs := World.block_lt_of_cell? w _ h1
  refine ⟨⟨a, cap, zs, hg.cell h0 (hRr _ (Nat.le_refl _)), hlen, hby, ?_⟩, hg.cell h1 (hRr _ (Nat.le_refl _)), (World.frozen?_of_block (hg.block R hRs (hRr _ (Nat.le_refl _)))).trans hfr⟩
  rcases hb with hb | ⟨b, off, rfl, hlt, hne, hc⟩
  · exact .inl hb
  · exact .inr ⟨b, off, rfl, Nat.lt_of_lt_of_le hlt hg.size, hne, fun j hj => hg.cell (hc j hj) (hRr b (by omega))⟩
theorem Rdr.alloc {w : World} {R p : Nat} (h : Rdr w R p) (o : Obj) : Rdr (w.alloc o) R p := h.kept (World.grownBy_alloc w o none) (by simp)
theorem Rdr.lt {w : World} {R p : Nat} (h : Rdr w R p) : R < w.heap.size := World.block_lt_of_cell? w _ h.at1
theorem Rdr.drewN {w : World} {R p : Nat} (h : Rdr w R p) (n : Nat) : Rdr (w.drewN n) R p := ⟨h.at0, h.at1, h.fr⟩
theorem grownBy_drewN {a w : World} {row : Option Nat} (h : a.grownBy w row) (n : Nat) : a.grownBy (w.drewN n) row := ⟨h.os, h.tape, h.output, h.size, h.block⟩

theorem pick_any (R : Nat) (n : Int) (p : Nat) (w : World) (hp : p ≤ 1099511627776) (hr : Rdr w R p) (hn : n ≤ 1099511627776) :
    Calls Tryd.prog 55 #[.pointer (some ⟨R, 0, none⟩), .int .i64 n] w fun e w' => ∃ k : Int, e = .returned (.int .i64 k) ∧ 0 ≤ k ∧ (k < n ∨ k = 0) ∧ Rdr w' R (p + 1) ∧ w.grownBy w' (some R) := by
  have hr' := picked_rdr hr
  have hg := picked_grown w R p
  have Hr := Lib.hid hr'
  have Hg := Lib.hid hg; clear hg
  obtain ⟨⟨a, cap, zs, h0, hlen, hby, hbytes⟩, h1, hfr⟩ := hr
  have hs0 : (w.setCell ⟨R, 1, none⟩ (.int .i64 ((p : Int) + 1))).cell? ⟨R, 0, none⟩ = some (.slice a zs.length cap) := (World.cell?_setCell_other _ _ _ _ (by simp)).trans h0
  have hs1 : (w.setCell ⟨R, 1, none⟩ (.int .i64 ((p : Int) + 1))).cell? ⟨R, 1, none⟩ = some (.int .i64 ((p : Int) + 1)) := World.cell?_setCell_same _ _ _ h1
  clear hr'
  by_cases hn1 : n < 1
  · go_enter Tryd.func55, Tryd.ntmps55
    go_wp2
    go_ret
    exact ⟨0, rfl, by omega, .inr rfl, Hr.out, Hg.out⟩
  by_cases hz : zs.length < 1
  · have hz1 : ((zs.length : Int) == 0) = true := by rw [beq_iff_eq]; omega
    go_enter Tryd.func55, Tryd.ntmps55
    go_wp2
    go_ret
    exact ⟨0, rfl, by omega, .inr rfl, Hr.out, Hg.out⟩
  have hz1 : ((zs.length : Int) == 0) = false := by rw [beq_eq_false_iff_ne]; omega
  obtain ⟨b, off, rfl, hlt, hne, hc⟩ := hbytes.resolve_left hz
  have hcc : ∀ j (h : j < zs.length), (w.setCell ⟨R, 1, none⟩ (.int .i64 ((p : Int) + 1))).cell? ⟨b, off + j, none⟩ = some (.int .u8 zs[j]) := fun j hj => (World.cell?_setCell_other _ _ _ _ (by simp)).trans (hc j hj)
  clear hc
  have Hc := Lib.hid hcc; clear hcc
  have Hby := Lib.hid hby; clear hby
  by_cases hpl : p < zs.length
  · have hcell := Hc.out p hpl
    have hbd := Hby.out zs[p] (List.getElem_mem hpl)
    go_enter Tryd.func55, Tryd.ntmps55
    go_wp2
    go_ret
    exact ⟨zs[p] % n, rfl, Int.emod_nonneg _ (by omega), .inl (Int.emod_lt_of_pos _ (by omega)), Hr.out, Hg.out⟩
  · have hq1 : p % zs.length < zs.length := Nat.mod_lt _ (by omega)
    have hq2 : (p * 7 + 3) % zs.length < zs.length := Nat.mod_lt _ (by omega)
    have hcell1 := Hc.out _ hq1
    have hcell2 := Hc.out _ hq2
    obtain ⟨hb1, hb1'⟩ := Hby.out _ (List.getElem_mem hq1)
    obtain ⟨hb2, hb2'⟩ := Hby.out _ (List.getElem_mem hq2)
    have hdv : p / zs.length ≤ p := Nat.div_le_self _ _
    generalize zs[p % zs.length] = x1 at hcell1 hb1 hb1'
    generalize zs[(p * 7 + 3) % zs.length] = x2 at hcell2 hb2 hb2'
    have m1 : ((p : Int)).tmod zs.length = ((p % zs.length : Nat) : Int) := by rw [Int.tmod_eq_emod_of_nonneg (by omega)]; omega
    have m2 : ((p : Int) * 7 + 3).tmod zs.length = (((p * 7 + 3) % zs.length : Nat) : Int) := by rw [Int.tmod_eq_emod_of_nonneg (by omega), Int.natCast_emod]; rfl
    have m3 : ((p : Int)).tdiv zs.length = ((p / zs.length : Nat) : Int) := by rw [Int.tdiv_eq_ediv_of_nonneg (by omega)]; omega
    generalize hQ1 : p % zs.length = q1 at *
    generalize hQ2 : (p * 7 + 3) % zs.length = q2 at *
    generalize hQ3 : p / zs.length = q3 at *
    have HQ1 := Lib.hid hQ1; clear hQ1
    have HQ2 := Lib.hid hQ2; clear hQ2
    have HQ3 := Lib.hid hQ3; clear hQ3
    have i1 : (q1 : Int) < zs.length := by omega
    have i2 : (q2 : Int) < zs.length := by omega
    have e1 : IntKind.i64.wrap (x1 * 131) = x1 * 131 := IntWalk.i64_in _ (by omega)
    have e2 : IntKind.i64.wrap ((p : Int) * 7) = p * 7 := IntWalk.i64_in _ (by omega)
    have e3 : IntKind.i64.wrap ((p : Int) * 7 + 3) = p * 7 + 3 := IntWalk.i64_in _ (by omega)
    have e4 : IntKind.i64.wrap (x2 * 1117) = x2 * 1117 := IntWalk.i64_in _ (by omega)
    have e5 : IntKind.i64.wrap (x1 * 131 + x2 * 1117) = x1 * 131 + x2 * 1117 := IntWalk.i64_in _ (by omega)
    have e6 : IntKind.i64.wrap ((p : Int) * 29) = p * 29 := IntWalk.i64_in _ (by omega)
    have e7 : IntKind.i64.wrap (x1 * 131 + x2 * 1117 + (p : Int) * 29) = x1 * 131 + x2 * 1117 + p * 29 := IntWalk.i64_in _ (by omega)
    have e8 : IntKind.i64.wrap ((q3 : Int) * 53) = q3 * 53 := IntWalk.i64_in _ (by omega)
    have e9 : IntKind.i64.wrap (x1 * 131 + x2 * 1117 + (p : Int) * 29 + (q3 : Int) * 53) = x1 * 131 + x2 * 1117 + p * 29 + q3 * 53 := IntWalk.i64_in _ (by omega)
    have e10 : IntKind.i64.wrap x1 = x1 := IntWalk.i64_in _ (by omega)
    have e11 : IntKind.i64.wrap x2 = x2 := IntWalk.i64_in _ (by omega)
    have e12 : IntKind.i64.wrap (q3 : Int) = q3 := IntWalk.i64_in _ (by omega)
    have hX : ∃ X : Nat, x1 * 131 + x2 * 1117 + (p : Int) * 29 + (q3 : Int) * 53 = X ∧ X < 4611686018427387904 := ⟨(x1 * 131 + x2 * 1117 + (p : Int) * 29 + (q3 : Int) * 53).toNat, by omega, by omega⟩
    obtain ⟨X, hX, hXb⟩ := hX
    rw [hX] at e9
    have HX := Lib.hid hX; clear hX
    have hx1 := bits_xor_i64_nat X (X / 64) hXb (Nat.lt_of_le_of_lt (Nat.div_le_self _ _) hXb)
    have Hx1 := Lib.hid hx1; clear hx1
    go_enter Tryd.func55, Tryd.ntmps55
    go_wp2
    go_quiet (fail)
    clear e1 e2 e3 e4 e5 e6 e7 e8 e9 e10 e11 e12 m1 m2 m3
    go_wp2
    go_ret
    rw [HX.out, show (X : Int) / 64 = ((X / 64 : Nat) : Int) from by simp, Hx1.out, Int.tmod_eq_emod_of_nonneg (by omega)]
    exact ⟨_, rfl, Int.emod_nonneg _ (by omega), .inl (Int.emod_lt_of_pos _ (by omega)), Hr.out.drewN _, grownBy_drewN Hg.out _⟩

theorem rdr_new (w : World) (a : Option Addr) (cap n : Nat) (zs : List Int) (T : TypeId) (hn : n = zs.length) (hlen : zs.length ≤ 2000) (hby : ∀ z ∈ zs, 0 ≤ z ∧ z ≤ 255)
    (hc : zs.length < 1 ∨ ∃ b off, a = some ⟨b, off, none⟩ ∧ b < w.heap.size ∧ ∀ j (h : j < zs.length), w.cell? ⟨b, off + j, none⟩ = some (.int .u8 zs[j])) :
    Rdr (w.alloc (.cells #[.slice a n cap, .int .i64 0] T)) w.heap.size 0 := by
  subst hn
  refine ⟨⟨a, cap, zs, by rw [World.cell?_alloc_at _ _ _ _ rfl]; rfl, hlen, hby, ?_⟩, by rw [World.cell?_alloc_at _ _ _ _ rfl]; rfl, World.frozen?_alloc_at _ _ _ _ rfl⟩
  rcases hc with h | ⟨b, off, rfl, hlt, h⟩
  · exact .inl h
  · exact .inr ⟨b, off, rfl, by simp; omega, hlt, fun j hj => (World.cell?_alloc_past _ _ _ hlt).trans (h j hj)⟩

theorem open_any (a : Option Addr) (cap : Nat) (zs : List Int) (w : World) (h : CodeAt w a cap zs) :
    Calls Tryd.prog 33 #[.slice a zs.length cap] w fun e w' => ∃ R, e = .returned (.pointer (some ⟨R, 0, none⟩)) ∧ w.heap.size ≤ R ∧ R < w'.heap.size ∧ Rdr w' R 0 ∧ Below w.heap.size w w' := by
  obtain ⟨hbig, hcap, hby, hc⟩ := h
  by_cases hl : zs.length ≤ 2000
  · go_enter Tryd.func33, Tryd.ntmps33
    go_wp2
    go_ret
    exact ⟨w.heap.size, rfl, Nat.le_refl _, by simp, rdr_new w a cap _ zs _ rfl hl hby hc, (Below.refl _ _).alloc (Nat.le_refl _) _⟩
  · obtain ⟨b, off, rfl, hlt, hcc⟩ := hc.resolve_left (by omega)
    go_enter Tryd.func33, Tryd.ntmps33
    go_wp2
    go_ret
    have ht : (zs.take 2000).length = 2000 := by rw [List.length_take]; omega
    exact ⟨w.heap.size, rfl, Nat.le_refl _, by simp, rdr_new w _ cap 2000 (zs.take 2000) _ ht.symm (by omega) (fun z hz => hby z (List.mem_of_mem_take hz)) (.inr ⟨b, off, rfl, hlt, fun j hj => by rw [hcc j (by omega), List.getElem_take]⟩), (Below.refl _ _).alloc (Nat.le_refl _) _⟩

end Go.Proofs.YtjekgjlnaochiabDoor

/- The draws of committees and of members: what is drawn is a short list of small numbers in new memory; each by a walk of its text; condition: at most 2^40 picks. -/
namespace Go.Proofs.YtjekgjlnaochiabDoor
open Go.RowKit

theorem TI' : IntT Tryd.prog 23 3 := ⟨Tryd.underlying23, by kernel_rfl⟩

def sizes9 : List Int := [4, 4, 4, 1, 2, 3, 5, 6, 7]
theorem sizes9_at (k : Nat) (hk : k < 9) : ∃ m : Nat, (#[Value.int .i64 4, .int .i64 4, .int .i64 4, .int .i64 1, .int .i64 2, .int .i64 3, .int .i64 5, .int .i64 6, .int .i64 7] : Array Value)[k]? = some (.int .i64 m) ∧ 1 ≤ m ∧ m ≤ 7 := by
  match k, hk with
  | 0, _ => exact ⟨4, rfl, by omega, by omega⟩
  | 1, _ => exact ⟨4, rfl, by omega, by omega⟩
  | 2, _ => exact ⟨4, rfl, by omega, by omega⟩
  | 3, _ => exact ⟨1, rfl, by omega, by omega⟩
  | 4, _ => exact ⟨2, rfl, by omega, by omega⟩
  | 5, _ => exact ⟨3, rfl, by omega, by omega⟩
  | 6, _ => exact ⟨5, rfl, by omega, by omega⟩
  | 7, _ => exact ⟨6, rfl, by omega, by omega⟩
  | 8, _ => exact ⟨7, rfl, by omega, by omega⟩

/-- Numbers between -1 and 10. -/
def Small (xs : List Int) : Prop := ∀ x ∈ xs, -1 ≤ x ∧ x ≤ 10

theorem small_push {xs : List Int} (h : Small xs) {z : Int} (h1 : -1 ≤ z) (h2 : z ≤ 10) : Small (xs ++ [z]) := by
  intro x hx
  rcases List.mem_append.1 hx with hx | hx
  · exact h x hx
  · simp at hx; subst hx; exact ⟨h1, h2⟩
theorem small_app {xs zs : List Int} (h : Small xs) (k : Small zs) : Small (xs ++ zs) := fun x hx => by
  rcases List.mem_append.1 hx with hx | hx
  · exact h x hx
  · exact k x hx
theorem small_set {xs : List Int} (h : Small xs) (j : Nat) {z : Int} (h1 : -1 ≤ z) (h2 : z ≤ 10) : Small (xs.set j z) := fun x hx => by
  rcases List.mem_or_eq_of_mem_set hx with hx | rfl
  · exact h x hx
  · exact ⟨h1, h2⟩
theorem lit4_at (k : Nat) (hk : k < 4) : ∃ z : Int, (#[Value.int .i64 0, .int .i64 9, .int .i64 10, .int .i64 (-1)] : Array Value)[k]? = some (.int .i64 z) ∧ -1 ≤ z ∧ z ≤ 10 := by
  match k, hk with
  | 0, _ => exact ⟨0, rfl, by omega, by omega⟩
  | 1, _ => exact ⟨9, rfl, by omega, by omega⟩
  | 2, _ => exact ⟨10, rfl, by omega, by omega⟩
  | 3, _ => exact ⟨-1, rfl, by omega, by omega⟩
theorem grown_row {w a b : World} {R : Nat} {row : Option Nat} (h : w.grownBy a (some R)) (k : a.grownBy b row) (hr : ∀ g, row = some g → w.heap.size ≤ g) : w.grownBy b (some R) :=
  ⟨k.os.trans h.os, k.tape.trans h.tape, k.output.trans h.output, Nat.le_trans h.size k.size, fun i hi hne => (k.block i (Nat.lt_of_lt_of_le hi h.size) (fun e => by have := hr i e.symm; omega)).trans (h.block i hi hne)⟩
theorem prod_bd {a b : Int} (h1 : 0 ≤ a) (h2 : a ≤ 3) (h3 : 0 ≤ b) (h4 : b ≤ 2) : 0 ≤ a * b ∧ a * b ≤ 6 :=
  ⟨Int.mul_nonneg h1 h3, Int.le_trans (Int.mul_le_mul h2 h4 h3 (by omega)) (by omega)⟩

theorem drawCommittee (R p : Nat) (w : World) (hp : p ≤ 1000000) (hr : Rdr w R p) (hR : R < w.heap.size) :
    Calls Tryd.prog 81 #[.pointer (some ⟨R, 0, none⟩)] w fun e w' => ∃ v xs p', e = .returned v ∧ Own 3 w' w.heap.size v xs ∧ xs.length ≤ 11 ∧ Small xs ∧ Rdr w' R p' ∧ p' ≤ p + 20 ∧ w.grownBy w' (some R) := by
  have hr1 := (hr.alloc (.cells #[] 3)).alloc (.cells #[.int .i64 4, .int .i64 4, .int .i64 4, .int .i64 1, .int .i64 2, .int .i64 3, .int .i64 5, .int .i64 6, .int .i64 7] 3)
  have ho1 := (own_empty 3 w (Nat.le_refl _)).alloc (.cells #[.int .i64 4, .int .i64 4, .int .i64 4, .int .i64 1, .int .i64 2, .int .i64 3, .int .i64 5, .int .i64 6, .int .i64 7] 3)
  have Hr1 := Lib.hid hr1; clear hr1
  have Ho1 := Lib.hid ho1; clear ho1
  go_enter Tryd.func81, Tryd.ntmps81
  go_wp2_with fail
  refine (pick_any R 9 p _ (by omega) Hr1.out (by omega)).mono ?_
  rintro e w2 ⟨k, rfl, hk0, hk1, hr2, hg2⟩
  obtain ⟨k, rfl⟩ := Int.eq_ofNat_of_zero_le hk0
  obtain ⟨m, hm, hm1, hm2⟩ := sizes9_at k (by omega)
  have hcell := lit_cell hg2 (by simp; omega) hm
  simp only [World.size_alloc] at hcell
  have hk9 : k < 9 := by omega
  have Hg2 := Lib.hid (grownBy_trans (grownBy_trans (World.grownBy_alloc w _ (some R)) (World.grownBy_alloc _ _ (some R))) hg2)
  have Ho2 := Lib.hid (Ho1.out.kept hg2 (.inr (by simp [Value.ownBlock]; omega)))
  have Hr2 := Lib.hid hr2; clear hr2
  clear hm hk0 hk1 hg2
  go_wp2_with fail
  go_loopw [3, 5] (fun v i wr => ∃ xs q, xs.length ≤ m ∧ i = .int .i64 (List.length (α := Int) xs) ∧ Own 3 wr w.heap.size v xs ∧ Small xs ∧ Rdr wr R q ∧ q ≤ p + 1 + 2 * xs.length ∧ w.grownBy wr (some R)) (fun _ i _ => m - (intOf i).toNat)
  case atStart => exact ⟨[], p + 1, by simp, rfl, Ho2.out, by intro x hx; simp at hx, Hr2.out, by simp, Hg2.out⟩
  case round =>
    obtain ⟨xs, q, hxm, rfl, hown, hsm, hrd, hq, hgr⟩ := hrel
    by_cases hlt : xs.length < m
    · have Hrd := Lib.hid hrd; clear hrd
      have Hown := Lib.hid hown; clear hown
      go_wp2_with fail
      refine (pick_any R 4 q _ (by omega) Hrd.out (by omega)).mono ?_
      rintro e w3 ⟨x, rfl, hx0, hx1, hr3, hg3⟩
      have Hr3 := Lib.hid hr3; clear hr3
      have Hg3 := Lib.hid (grownBy_trans hgr hg3)
      have Ho3 := Lib.hid (Hown.out.kept hg3 (.inr (fun e => by have := (Hown.out.lt R e).1; omega)))
      clear hg3
      go_wp2_with fail
      refine (pick_any R 3 (q + 1) _ (by omega) Hr3.out (by omega)).mono ?_
      rintro e w4 ⟨y, rfl, hy0, hy1, hr4, hg4⟩
      have Hr4 := Lib.hid hr4; clear hr4
      have Hg4 := Lib.hid (grownBy_trans Hg3.out hg4)
      have Ho4 := Lib.hid (Ho3.out.kept hg4 (.inr (fun e => by have := (Ho3.out.lt R e).1; omega)))
      clear hg4
      obtain ⟨hxy0, hxy1⟩ := prod_bd hx0 (show x ≤ 3 by omega) hy0 (show y ≤ 2 by omega)
      have hB := Hg4.out.size
      go_wp2_with (at_builtin; refine wpList_push TI' rfl (.tmp 17) (.tmp 25) rfl w.heap.size _ xs _ rfl Ho4.out (by omega) rfl hB ?_; intro v' w5 hown5 hg5)
      have Hr5 := Lib.hid (Hr4.out.kept hg5 (fun g e => by have := (Ho4.out.lt g e).1; omega))
      have Hg5 := Lib.hid (grown_row Hg4.out hg5 (fun g e => (Ho4.out.lt g e).1))
      clear hg5
      go_wp2
      go_roundw
      case rel => exact ⟨_, q + 2, by simp; omega, by simp, hown5, small_push hsm (by omega) (by omega), Hr5.out, by simp; omega, Hg5.out⟩
      case measure => simp [intOf]; omega
    · have Hrd := Lib.hid hrd; clear hrd
      have hxm' : xs.length = m := by omega
      obtain ⟨g, cap, rfl, hgB, hgs, hcap, hcells, hfz⟩ := hown.row (by omega)
      have Hown := Lib.hid hown; clear hown
      have Hcells := Lib.hid hcells; clear hcells
      have Hfz := Lib.hid hfz; clear hfz
      have Hm := Lib.hid hxm'; clear hxm'
      go_wp2_with fail
      refine (pick_any R 24 q _ (by omega) Hrd.out (by omega)).mono ?_
      rintro e w3 ⟨x, rfl, hx0, hx1, hr3, hg3⟩
      have Hr3 := Lib.hid hr3; clear hr3
      have Hg3 := Lib.hid (grownBy_trans hgr hg3)
      have Ho3 := Lib.hid (Hown.out.kept hg3 (.inr (by simp [Value.ownBlock]; omega)))
      have hB := Hg3.out.size
      clear hg3 Hcells Hfz
      by_cases h0 : x = 0
      · subst h0
        go_wp2_with (at_builtin; refine wpList_pushes TI' rfl (.tmp 31) (.tmp 32) rfl w.heap.size _ xs [1, 1, 1, 1] 4 _ rfl rfl rfl Ho3.out (by simp; omega) rfl hB ?_; intro v' w5 hown5 hg5)
        go_ret
        exact ⟨_, _, _, rfl, hown5, by simp; omega, small_app hsm (by intro z hz; simp at hz; omega),
          Hr3.out.kept hg5 (fun g' e => by have := (Ho3.out.lt g' e).1; omega), by omega, grown_row Hg3.out hg5 (fun g' e => (Ho3.out.lt g' e).1)⟩
      have h0' : (x == 0) = false := by rw [beq_eq_false_iff_ne]; exact h0
      by_cases h1 : x = 1
      · subst h1
        have Hxl := Lib.hid (show (xs.length : Int) = m by omega)
        go_wp2_with fail
        refine (pick_any R m (q + 1) _ (by omega) Hr3.out (by omega)).mono ?_
        rintro e w4 ⟨y, rfl, hy0, hy1, hr4, hg4⟩
        obtain ⟨y, rfl⟩ := Int.eq_ofNat_of_zero_le hy0
        have Hr4 := Lib.hid (hr4.alloc (.cells #[.int .i64 0, .int .i64 9, .int .i64 10, .int .i64 (-1)] 3)); clear hr4
        have Hg4 := Lib.hid ((grownBy_trans Hg3.out hg4))
        have Ho4 := Lib.hid (Ho3.out.kept hg4 (.inr (by simp [Value.ownBlock]; omega)))
        have hs4 := Hg4.out.size
        clear hg4
        go_wp2_with fail
        refine (pick_any R 4 (q + 1 + 1) _ (by omega) Hr4.out (by omega)).mono ?_
        rintro e w5 ⟨u, rfl, hu0, hu1, hr5, hg5⟩
        obtain ⟨u, rfl⟩ := Int.eq_ofNat_of_zero_le hu0
        obtain ⟨z, hz, hz1, hz2⟩ := lit4_at u (by omega)
        have hcell := lit_cell hg5 (by simp; omega) hz
        have Ho5 := Lib.hid ((Ho4.out.alloc _).kept hg5 (.inr (by simp [Value.ownBlock]; omega)))
        have Hg5 := Lib.hid (grownBy_trans (grownBy_trans Hg4.out (World.grownBy_alloc _ _ _)) hg5)
        have Hr5 := Lib.hid hr5; clear hr5
        have hu4 : u < 4 := by omega
        have hyx : y < xs.length := by omega
        have hs5 := Hg5.out.size
        obtain ⟨g', cap', hv', hgB', hgs', hcap', hcells', hfz'⟩ := Ho5.out.row (by omega)
        simp only [Value.slice.injEq, Option.some.injEq, Addr.mk.injEq, and_true, true_and] at hv'
        obtain ⟨rfl, rfl⟩ := hv'
        have hold := hcells' y hyx
        have hfr := hfz' y
        clear hg5 hz hu0 hu1 hy0 hy1 hcells' hfz' hgs'
        go_wp2
        go_ret
        have hst := Ho5.out.store rfl y z
        exact ⟨_, _, _, rfl, hst.1, by simp; omega, small_set hsm y hz1 hz2, Hr5.out.kept hst.2 (fun g' e => by simp at e; omega), by omega, grown_row Hg5.out hst.2 (fun g' e => by simp at e; omega)⟩
      have h1' : (x == 1) = false := by rw [beq_eq_false_iff_ne]; exact h1
      by_cases h2 : x = 2
      · subst h2
        go_wp2
        go_ret
        exact ⟨_, _, _, rfl, Ho3.out.front 0 (by omega), by simp, by intro z hz; simp at hz, Hr3.out, by omega, Hg3.out⟩
      have h2' : (x == 2) = false := by rw [beq_eq_false_iff_ne]; exact h2
      go_wp2
      go_ret
      exact ⟨_, _, _, rfl, Ho3.out, by omega, hsm, Hr3.out, by omega, Hg3.out⟩

theorem drawMembers (R p n : Nat) (w : World) (hp : p ≤ 1000000) (hn : n ≤ 1000) (hr : Rdr w R p) (hR : R < w.heap.size) :
    Calls Tryd.prog 80 #[.pointer (some ⟨R, 0, none⟩), .int .i64 n] w fun e w' => ∃ v xs p', e = .returned v ∧ Own 3 w' w.heap.size v xs ∧ xs.length ≤ n + 1 ∧ Rdr w' R p' ∧ p' ≤ p + n + 2 ∧ w.grownBy w' (some R) := by
  have Hr1 := Lib.hid (hr.alloc (.cells #[] 3)); clear hr
  go_enter Tryd.func80, Tryd.ntmps80
  go_wp2_with fail
  go_loopw [5, 6] (fun v i wr => ∃ xs k, k ≤ n ∧ xs.length ≤ k ∧ i = .int .i64 (k : Nat) ∧ Own 3 wr w.heap.size v xs ∧ Rdr wr R (p + k) ∧ w.grownBy wr (some R)) (fun _ i _ => n - (intOf i).toNat)
  case atStart => exact ⟨[], 0, by simp, by simp, rfl, own_empty _ _ (Nat.le_refl _), Hr1.out, World.grownBy_alloc _ _ _⟩
  case round =>
    obtain ⟨xs, k, hkn, hxk, rfl, hown, hrd, hgr⟩ := hrel
    have Hrd := Lib.hid hrd; clear hrd
    have Hown := Lib.hid hown; clear hown
    by_cases hlt : k < n
    · go_wp2_with fail
      refine (pick_any R 4 (p + k) _ (by omega) Hrd.out (by omega)).mono ?_
      rintro e w3 ⟨x, rfl, hx0, hx1, hr3, hg3⟩
      have Hr3 := Lib.hid hr3; clear hr3
      have Hg3 := Lib.hid (grownBy_trans hgr hg3)
      have Ho3 := Lib.hid (Hown.out.kept hg3 (.inr (fun e => by have := (Hown.out.lt R e).1; omega)))
      have hB := Hg3.out.size
      clear hg3
      by_cases hx : 0 < x
      · go_wp2_with (at_builtin; refine wpList_push TI' rfl (.tmp 16) (.tmp 18) rfl w.heap.size _ xs _ rfl Ho3.out (by omega) rfl hB ?_; intro v' w5 hown5 hg5)
        go_roundw
        case rel => exact ⟨_, k + 1, by omega, by simp; omega, by go_num, hown5, Hr3.out.kept hg5 (fun g e => by have := (Ho3.out.lt g e).1; omega), grown_row Hg3.out hg5 (fun g e => (Ho3.out.lt g e).1)⟩
        case measure => simp [intOf]; omega
      · go_wp2
        go_roundw
        case rel => exact ⟨xs, k + 1, by omega, by omega, by go_num, Ho3.out, Hr3.out, Hg3.out⟩
        case measure => simp [intOf]; omega
    · have hk : k = n := by omega
      have hkn' : (k : Int) = n := by omega
      go_wp2_with fail
      refine (pick_any R 16 (p + k) _ (by omega) Hrd.out (by omega)).mono ?_
      rintro e w3 ⟨x, rfl, hx0, hx1, hr3, hg3⟩
      have Hr3 := Lib.hid hr3; clear hr3
      have Hg3 := Lib.hid (grownBy_trans hgr hg3)
      have Ho3 := Lib.hid (Hown.out.kept hg3 (.inr (fun e => by have := (Hown.out.lt R e).1; omega)))
      have hB := Hg3.out.size
      clear hg3
      have Hk := Lib.hid hk; clear hk hkn'
      by_cases h0 : x = 0
      · subst h0
        go_wp2_with (at_builtin; refine wpList_push TI' rfl (.tmp 24) (.tmp 26) rfl w.heap.size _ xs _ rfl Ho3.out (by omega) rfl hB ?_; intro v' w5 hown5 hg5)
        go_ret
        exact ⟨_, _, _, rfl, hown5, by simp; omega, Hr3.out.kept hg5 (fun g e => by have := (Ho3.out.lt g e).1; omega), by omega, grown_row Hg3.out hg5 (fun g e => (Ho3.out.lt g e).1)⟩
      have h0' : (x == 0) = false := by rw [beq_eq_false_iff_ne]; exact h0
      by_cases h1 : x = 1
      · subst h1
        go_wp2_with fail
        refine (pick_any R 8 (p + k + 1) _ (by omega) Hr3.out (by omega)).mono ?_
        rintro e w4 ⟨y, rfl, hy0, hy1, hr4, hg4⟩
        have Hr4 := Lib.hid hr4; clear hr4
        have Hg4 := Lib.hid (grownBy_trans Hg3.out hg4)
        have Ho4 := Lib.hid (Ho3.out.kept hg4 (.inr (fun e => by have := (Ho3.out.lt R e).1; omega)))
        have hB4 := Hg4.out.size
        clear hg4
        go_wp2_with (at_builtin; refine wpList_push TI' rfl (.tmp 30) (.tmp 34) rfl w.heap.size _ xs _ rfl Ho4.out (by omega) rfl hB4 ?_; intro v' w5 hown5 hg5)
        go_ret
        exact ⟨_, _, _, rfl, hown5, by simp; omega, Hr4.out.kept hg5 (fun g e => by have := (Ho4.out.lt g e).1; omega), by omega, grown_row Hg4.out hg5 (fun g e => (Ho4.out.lt g e).1)⟩
      have h1' : (x == 1) = false := by rw [beq_eq_false_iff_ne]; exact h1
      go_wp2
      go_ret
      exact ⟨_, _, _, rfl, Ho3.out, by omega, Hr3.out, by omega, Hg3.out⟩

theorem below_of_row {w w' : World} {R B : Nat} (h : w.grownBy w' (some R)) (hR : B ≤ R) (hB : B ≤ w.heap.size) : Below B w w' :=
  ⟨h.os, h.tape, h.output, h.size, fun k hk => h.block k (by omega) (fun e => by injection e with e; omega)⟩

end Go.Proofs.YtjekgjlnaochiabDoor

/- The draws of digests, leaves and texts: what is drawn is short and lies in new memory; each by a walk of its text; condition: at most 2^40 picks. -/
namespace Go.Proofs.YtjekgjlnaochiabDoor
open Go.RowKit

/-- Numbers between -1 and 991. -/
def Digs (xs : List Int) : Prop := ∀ x ∈ xs, -1 ≤ x ∧ x ≤ 991
theorem digs_app {xs zs : List Int} (h : Digs xs) (k : Digs zs) : Digs (xs ++ zs) := fun x hx => by
  rcases List.mem_append.1 hx with hx | hx
  · exact h x hx
  · exact k x hx
theorem digs_one {z : Int} (h1 : -1 ≤ z) (h2 : z ≤ 991) : Digs [z] := fun x hx => by simp at hx; subst hx; exact ⟨h1, h2⟩
theorem digs_set {xs : List Int} (h : Digs xs) (j : Nat) {z : Int} (h1 : -1 ≤ z) (h2 : z ≤ 991) : Digs (xs.set j z) := fun x hx => by
  rcases List.mem_or_eq_of_mem_set hx with hx | rfl
  · exact h x hx
  · exact ⟨h1, h2⟩
theorem grown_row' {w a b : World} {R : Nat} {row : Option Nat} (h : w.grownBy a (some R)) (k : a.grownBy b row) (hr : ∀ g, row = some g → w.heap.size ≤ g) : w.grownBy b (some R) :=
  ⟨k.os.trans h.os, k.tape.trans h.tape, k.output.trans h.output, Nat.le_trans h.size k.size, fun i hi hne => (k.block i (Nat.lt_of_lt_of_le hi h.size) (fun e => by have := hr i e.symm; omega)).trans (h.block i hi hne)⟩
theorem below_of_row' {w w' : World} {R B : Nat} (h : w.grownBy w' (some R)) (hR : B ≤ R) (hB : B ≤ w.heap.size) : Below B w w' :=
  ⟨h.os, h.tape, h.output, h.size, fun k hk => h.block k (by omega) (fun e => by injection e with e; omega)⟩
theorem dig4_at (k : Nat) (hk : k < 4) : ∃ z : Int, (#[Value.int .i64 (-1), .int .i64 0, .int .i64 990, .int .i64 991] : Array Value)[k]? = some (.int .i64 z) ∧ -1 ≤ z ∧ z ≤ 991 := by
  match k, hk with
  | 0, _ => exact ⟨-1, rfl, by omega, by omega⟩
  | 1, _ => exact ⟨0, rfl, by omega, by omega⟩
  | 2, _ => exact ⟨990, rfl, by omega, by omega⟩
  | 3, _ => exact ⟨991, rfl, by omega, by omega⟩

theorem drawDigest (R p : Nat) (w : World) (hp : p ≤ 1000000) (hr : Rdr w R p) :
    Calls Tryd.prog 79 #[.pointer (some ⟨R, 0, none⟩)] w fun e w' => ∃ (d : Int) (p' : Nat), e = .returned (.int .i64 d) ∧ -1 ≤ d ∧ d ≤ 991 ∧ Rdr w' R p' ∧ p' ≤ p + 3 ∧ w.grownBy w' (some R) := by
  have Hr := Lib.hid hr; clear hr
  go_enter Tryd.func79, Tryd.ntmps79
  go_wp2_with fail
  refine (pick_any R 16 p _ (by omega) Hr.out (by omega)).mono ?_
  rintro e w1 ⟨x, rfl, hx0, hx1, hr1, hg1⟩
  have Hr1 := Lib.hid (hr1.alloc (.cells #[.int .i64 (-1), .int .i64 0, .int .i64 990, .int .i64 991] 3))
  have Hr1' := Lib.hid hr1; clear hr1
  have Hg1 := Lib.hid hg1; clear hg1
  have hRs := Hr1'.out.lt
  by_cases h0 : x = 0
  · subst h0
    go_wp2_with fail
    refine (pick_any R 4 (p + 1) _ (by omega) Hr1.out (by omega)).mono ?_
    rintro e w2 ⟨u, rfl, hu0, hu1, hr2, hg2⟩
    obtain ⟨u, rfl⟩ := Int.eq_ofNat_of_zero_le hu0
    obtain ⟨z, hz, hz1, hz2⟩ := dig4_at u (by omega)
    have hcell := lit_cell hg2 (by simp; omega) hz
    have Hg2 := Lib.hid (grownBy_trans (grownBy_trans Hg1.out (World.grownBy_alloc _ _ _)) hg2)
    have hu4 : u < 4 := by omega
    have Hr2 := Lib.hid hr2
    clear hg2 hz hu0 hu1 hr2
    go_wp2
    go_ret
    exact ⟨z, _, rfl, hz1, hz2, Hr2.out, by omega, Hg2.out⟩
  · have h0' : (x == 0) = false := by rw [beq_eq_false_iff_ne]; exact h0
    go_wp2_with fail
    refine (pick_any R 99 (p + 1) _ (by omega) Hr1'.out (by omega)).mono ?_
    rintro e w2 ⟨u, rfl, hu0, hu1, hr2, hg2⟩
    have Hr2 := Lib.hid hr2
    have Hg2 := Lib.hid (grownBy_trans Hg1.out hg2)
    clear hr2 hg2
    go_wp2_with fail
    refine (pick_any R 10 (p + 2) _ (by omega) Hr2.out (by omega)).mono ?_
    rintro e w3 ⟨y, rfl, hy0, hy1, hr3, hg3⟩
    have Hr3 := Lib.hid hr3
    have Hg3 := Lib.hid (grownBy_trans Hg2.out hg3)
    clear hr3 hg3
    go_wp2
    go_ret
    exact ⟨_, _, rfl, by omega, by omega, Hr3.out, by omega, Hg3.out⟩

end Go.Proofs.YtjekgjlnaochiabDoor
