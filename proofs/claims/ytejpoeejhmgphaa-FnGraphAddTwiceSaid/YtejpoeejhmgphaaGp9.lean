/- impl's marking of a vertex's past along pointers, by a walk of its text (it calls itself: by the vertex's round); the graph is valid. -/
import Derived.Test.YtejpoeejhmgphaaRows
import Derived.Test.YtejpoeejhmgphaaGp7
namespace Go.Proofs.Ytejpoeejhmgphaa
open Go.RowKit

/-- The number of a mark. -/
def plM (r a : Int) : Nat := r.toNat * 7 + a.toNat
theorem plM_inj {r a r' a' : Int} (hr : 0 ≤ r) (ha : 0 ≤ a) (ha' : a ≤ 6) (hr2 : 0 ≤ r') (ha2 : 0 ≤ a') (ha2' : a' ≤ 6) (h : plM r a = plM r' a') : r = r' ∧ a = a' := by
  unfold plM at h; omega
theorem plM_bd {r a : Int} (h : r ≤ 30) (ha : a ≤ 6) : plM r a < 217 := by unfold plM; omega
/-- Each parent of a vertex is there. -/
def Par (g : List Vx) : Prop := ∀ y ∈ g, ∀ p ∈ y.ps, ∃ z ∈ g, z.r = y.r - 1 ∧ z.a = p
/-- What is marked in the first n rounds has its parents marked. -/
def ClsM (g : List Vx) (bs : Nat → Bool) (n : Int) : Prop := ∀ z ∈ g, z.r ≤ n → bs (plM z.r z.a) = true → ∀ p ∈ z.ps, bs (plM (z.r - 1) p) = true
/-- A set of vertices that is closed. -/
def ClsP (g : List Vx) (P : Vx → Prop) : Prop := ∀ y ∈ g, P y → ∀ p ∈ y.ps, ∀ z ∈ g, z.r = y.r - 1 → z.a = p → P z
def setM (bs : Nat → Bool) (i : Nat) : Nat → Bool := fun j => if j = i then true else bs j
def marksV (bs : Nat → Bool) : Array Value := arrP 217 fun i => .bool (bs i)
theorem marksV_set (bs : Nat → Bool) (i : Nat) : (marksV bs).setIfInBounds i (.bool true) = marksV (setM bs i) := by
  unfold marksV; rw [arrP_set]; congr 1; funext j
  unfold setM
  by_cases h : j = i <;> simp [h]
/-- What marking a vertex's past does to the marks. -/
structure Mkd (g : List Vx) (y : Vx) (bs bs' : Nat → Bool) : Prop where
  up : ∀ i, bs i = true → bs' i = true
  it : bs' (plM y.r y.a) = true
  cls : ClsM g bs' y.r
  new : ∀ i, bs' i = true → bs i = true ∨ i = plM y.r y.a ∨ i < y.r.toNat * 7
  only : ∀ P, ClsP g P → P y → ∀ z ∈ g, bs' (plM z.r z.a) = true → bs (plM z.r z.a) = true ∨ P z
theorem mkd_old {g : List Vx} {y : Vx} {bs : Nat → Bool} (h : bs (plM y.r y.a) = true) (hc : ClsM g bs y.r) : Mkd g y bs bs :=
  ⟨fun _ h => h, h, hc, fun _ h => .inl h, fun _ _ _ _ _ h => .inl h⟩
/-- Behind the first k parents. -/
structure Mkk (g : List Vx) (y : Vx) (bs bs' : Nat → Bool) (k : Nat) : Prop where
  up : ∀ i, bs i = true → bs' i = true
  it : bs' (plM y.r y.a) = true
  ps : ∀ j (h : j < y.ps.length), j < k → bs' (plM (y.r - 1) y.ps[j]) = true
  cls : ClsM g bs' (y.r - 1)
  new : ∀ i, bs' i = true → bs i = true ∨ i = plM y.r y.a ∨ i < y.r.toNat * 7
  only : ∀ P, ClsP g P → P y → ∀ z ∈ g, bs' (plM z.r z.a) = true → bs (plM z.r z.a) = true ∨ P z
theorem mkk_start {g : List Vx} {y : Vx} {bs : Nat → Bool} (hs : Srt g) (hin : ∀ z ∈ g, inPl z) (hy : y ∈ g) (hc : ClsM g bs y.r) : Mkk g y bs (setM bs (plM y.r y.a)) 0 := by
  refine ⟨fun i h => ?_, ?_, fun j _ h => by omega, fun z hz hr hm p hp => ?_, fun i h => ?_, fun P hP hPy z hz hm => ?_⟩
  · unfold setM; split
    · rfl
    · exact h
  · unfold setM; rw [if_pos rfl]
  · have iy := hin y hy
    have iz := hin z hz
    unfold inPl at iy iz
    unfold setM at hm ⊢
    rw [if_neg (fun e => by have := (plM_inj iz.1 iz.2.2.1 iz.2.2.2 iy.1 iy.2.2.1 iy.2.2.2 e).1; omega)] at hm
    split
    · rfl
    · exact hc z hz (by omega) hm p hp
  · unfold setM at h
    split at h
    · rename_i e; exact .inr (.inl e)
    · exact .inl h
  · unfold setM at hm
    split at hm
    · rename_i e
      have iy := hin y hy
      have iz := hin z hz
      unfold inPl at iy iz
      obtain ⟨e1, e2⟩ := plM_inj iz.1 iz.2.2.1 iz.2.2.2 iy.1 iy.2.2.1 iy.2.2.2 e
      rw [srt_uni hs hz hy e1 e2]
      exact .inr hPy
    · exact .inl hm
theorem mkk_step {g : List Vx} {y z : Vx} {bs b1 b2 : Nat → Bool} {k : Nat} (hin : ∀ z ∈ g, inPl z) (hy : y ∈ g) (h : Mkk g y bs b1 k) (hz : z ∈ g) (hk : k < y.ps.length) (hr : z.r = y.r - 1) (ha : z.a = y.ps[k]) (h2 : Mkd g z b1 b2) : Mkk g y bs b2 (k + 1) := by
  have iz := hin z hz
  unfold inPl at iz
  refine ⟨fun i hi => h2.up i (h.up i hi), h2.up _ h.it, fun j hj hjk => ?_, by rw [← hr]; exact h2.cls, fun i hi => ?_, fun P hP hPy x hx hm => ?_⟩
  · by_cases e : j = k
    · subst e; rw [← hr, ← ha]; exact h2.it
    · exact h2.up _ (h.ps j hj (by omega))
  · rcases h2.new i hi with h' | h' | h'
    · exact h.new i h'
    · exact .inr (.inr (by rw [h']; unfold plM; omega))
    · exact .inr (.inr (by omega))
  · have hPz : P z := hP y hy hPy _ (List.getElem_mem hk) z hz hr ha
    rcases h2.only P hP hPz x hx hm with h' | h'
    · exact h.only P hP hPy x hx h'
    · exact .inr h'
theorem mkk_end {g : List Vx} {y : Vx} {bs bs' : Nat → Bool} (hs : Srt g) (hin : ∀ z ∈ g, inPl z) (hy : y ∈ g) (hc : ClsM g bs y.r) (h : Mkk g y bs bs' y.ps.length) : Mkd g y bs bs' := by
  refine ⟨h.up, h.it, fun z hz hr hm p hp => ?_, h.new, h.only⟩
  have iy := hin y hy
  have iz := hin z hz
  unfold inPl at iy iz
  by_cases e : z.r ≤ y.r - 1
  · exact h.cls z hz e hm p hp
  · rcases h.new _ hm with h' | h' | h'
    · exact h.up _ (hc z hz hr h' p hp)
    · obtain ⟨e1, e2⟩ := plM_inj iz.1 iz.2.2.1 iz.2.2.2 iy.1 iy.2.2.1 iy.2.2.2 h'
      have := srt_uni hs hz hy e1 e2
      subst this
      obtain ⟨j, hj, rfl⟩ := List.mem_iff_getElem.1 hp
      exact h.ps j hj hj
    · unfold plM at h'; omega

theorem run_mark (M : Nat) (r a : Int) (hr : 0 ≤ r) (hr2 : r ≤ 30) (ha : 0 ≤ a) (ha2 : a ≤ 6) : ∃ o1, (∀ w, (Instr.indexAt 72 (.pointer (some ⟨M, 0, none⟩)) (.int .i64 r)).run Try.prog w = .ok (.pointer (some ⟨M, o1, none⟩)) w) ∧
    ∀ w, (Instr.indexAt 70 (.pointer (some ⟨M, o1, none⟩)) (.int .i64 a)).run Try.prog w = .ok (.pointer (some ⟨M, plM r a, none⟩)) w := by
  refine ⟨0 + r.toNat * 7, fun w => ?_, fun w => ?_⟩
  · exact run_index_z (s := 7) Try.underlying72 (by kernel_rfl) (by omega) (by omega) w
  · have := run_index_z (P := Try.prog) (B := M) (o := 0 + r.toNat * 7) (s := 1) (k := a.toNat) (z := a) Try.underlying70 (by kernel_rfl) (by omega) (by omega) w
    rw [this]
    unfold plM
    rw [Nat.mul_one, Nat.zero_add]
def MarkPost (w : World) (M : Nat) (g : List Vx) (y : Vx) (bs : Nat → Bool) : Ending → World → Prop := fun e w' =>
  e = .returned (.tuple #[]) ∧ w.grownBy w' (some M) ∧ ∃ bs', Str w' M 72 (marksV bs') ∧ Mkd g y bs bs'
set_option maxRecDepth 8000 in
set_option maxHeartbeats 4000000 in
theorem mark_past (w0 wl : World) (hi G : Nat) (mv : Value) (h : Nat → Value) (g : List Vx) (M : Nat) (hL : Lk w0 wl hi G mv h g) (hM : hi ≤ M) (hsrt : Srt g) (hin : ∀ y ∈ g, inPl y) (hpar : Par g) (hr0 : ∀ y ∈ g, y.r = 0 → y.ps.length = 0) (hgp : ∀ y ∈ g, y.ps.length ≤ 1099511627776) :
    ∀ (n : Nat) (y : Vx) (q : Nat) (w : World) (bs : Nat → Bool), y ∈ g → y.r.toNat = n → h (plN y.r y.a) = ptrV q → wl.grownBy w (some M) → Str w M 72 (marksV bs) → ClsM g bs y.r →
      Calls Try.prog 45 #[.pointer (some ⟨q, 0, none⟩), .pointer (some ⟨M, 0, none⟩)] w (MarkPost w M g y bs) := by
  have hself : ∀ y ∈ g, ∀ p ∈ y.ps, ∃ z ∈ g, z.r = y.r - 1 ∧ z.a = p := hpar
  have HL := Lib.hid hL; clear hL
  have Hsrt := Lib.hid hsrt; clear hsrt
  have Hin := Lib.hid hin; clear hin
  have Hpar := Lib.hid hself; clear hself hpar
  have Hr0 := Lib.hid hr0; clear hr0
  have Hgp := Lib.hid hgp; clear hgp
  intro n
  induction n using Nat.strongRecOn with
  | _ n ih =>
  intro y q w bs hy hn hq hg hM2 hc
  have iy := Hin.out y hy
  unfold inPl at iy
  obtain ⟨q', hq', nd⟩ := HL.out.has y hy
  have hqq : q' = q := by rw [hq] at hq'; unfold ptrV at hq'; simp at hq'; exact hq'.symm
  subst hqq
  obtain ⟨pa, pc, pv, qs, sq, iq, srq, own, hob, hql, hqp⟩ := nd.ex
  have hqM : q' < M := Nat.lt_of_lt_of_le nd.lt hM
  obtain ⟨pp, pcap, rfl, _⟩ := own.slice
  have HN := Lib.hid (fun W (hW : wl.grownBy W (some M)) => (⟨sq.kept hW (by intro e; cases e; omega), own.kept hW (by
    cases hv : (Value.slice pp qs.length pcap).ownBlock with
    | none => exact .inl rfl
    | some b => refine .inr fun e => ?_; cases e; have := (hob _ hv).2; omega)⟩ : Str W q' 90 #[.int .i64 y.r, .int .i64 y.a, .slice pa y.ps.length pc, .int .i64 y.d, .slice pp qs.length pcap] ∧ OwnP 64 W w0.heap.size (.slice pp qs.length pcap) qs))
  have hqlen : qs.length ≤ 1099511627776 := by have := Hgp.out y hy; omega
  obtain ⟨o1, ho1, ho2⟩ := run_mark M y.r y.a iy.1 iy.2.1 iy.2.2.1 iy.2.2.2
  have sqw := (HN.out w hg).1
  have e0 := sqw.cell 0 (v := .int .i64 y.r) rfl
  have e1 := sqw.cell 1 (v := .int .i64 y.a) rfl
  have em := hM2.cell (plM y.r y.a) (v := .bool (bs (plM y.r y.a))) (arrP_get (plM_bd iy.2.1 iy.2.2.2))
  have hmlt : M < w.heap.size := hM2.lt
  have HG := Lib.hid hg
  have HM2 := Lib.hid hM2
  have Hc := Lib.hid hc
  have Hn := Lib.hid hn
  have Hqp := Lib.hid hqp
  have Hql := Lib.hid hql
  have Hih := Lib.hid ih
  have Hiy := Lib.hid iy
  clear hg hM2 hc hn hqp hql sq iq srq own hob nd hq hq' sqw ih iy
  cases hb : bs (plM y.r y.a) with
  | true =>
    rw [hb] at em
    have Hd := Lib.hid (mkd_old hb Hc.out)
    clear hb
    go_enter Try.func45, Try.ntmps45
    go_wp2_with fail
    refine wp_region_held_drew (S := fun w' => w'.cell? ⟨q', 0, none⟩ = some (.int .i64 y.r) ∧ w'.cell? ⟨q', 1, none⟩ = some (.int .i64 y.a) ∧ w'.cell? ⟨M, plM y.r y.a, none⟩ = some (.bool true)) (by kernel_rfl) ⟨e0, e1, em⟩ (fun hH => ?_)
    refine takeH 0 (v := ?va0) rfl (by kernel_rfl) (by kernel_rfl) (by kernel_rfl) (fun _ _ _ h => h) hH rfl ?ya0 ?ra0
    case ya0 => intro W hSw; go_simp; try with_reducible rfl
    try simp only [Act.put, List.setIfInBounds_toArray, List.set_cons_zero, List.set_cons_succ]
    refine takeH 1 (v := ?va1) rfl (by kernel_rfl) (by kernel_rfl) (by kernel_rfl) (fun _ _ _ h => h) hH rfl ?ya1 ?ra1
    case ya1 => intro W hSw; go_simp; try with_reducible rfl
    try simp only [Act.put, List.setIfInBounds_toArray, List.set_cons_zero, List.set_cons_succ]
    refine takeH 2 (v := ?va2) rfl (by kernel_rfl) (by kernel_rfl) (by kernel_rfl) (fun _ _ _ h => h) hH rfl ?ya2 ?ra2
    case ya2 => intro W hSw; go_simp; try with_reducible rfl
    try simp only [Act.put, List.setIfInBounds_toArray, List.set_cons_zero, List.set_cons_succ]
    refine takeH 3 (v := ?va3) rfl (by kernel_rfl) (by kernel_rfl) (by kernel_rfl) (fun _ _ _ h => h) hH rfl ?ya3 ?ra3
    case ya3 => intro W hSw; go_simp; try with_reducible rfl
    try simp only [Act.put, List.setIfInBounds_toArray, List.set_cons_zero, List.set_cons_succ]
    refine takeH 4 (v := ?va4) rfl (by kernel_rfl) (by kernel_rfl) (by kernel_rfl) (fun _ _ _ h => h) hH rfl ?ya4 ?ra4
    case ya4 => intro W hSw; go_simp; try with_reducible rfl
    try simp only [Act.put, List.setIfInBounds_toArray, List.set_cons_zero, List.set_cons_succ]
    refine takeH 5 (v := ?va5) rfl (by kernel_rfl) (by kernel_rfl) (by kernel_rfl) (fun _ _ _ h => h) hH rfl ?ya5 ?ra5
    case ya5 => intro W hSw; go_simp; try with_reducible rfl
    try simp only [Act.put, List.setIfInBounds_toArray, List.set_cons_zero, List.set_cons_succ]
    refine takeH 6 (v := ?va6) rfl (by kernel_rfl) (by kernel_rfl) (by kernel_rfl) (fun _ _ _ h => h) hH rfl ?ya6 ?ra6
    case ya6 => intro W hSw; go_simp; try with_reducible rfl
    try simp only [Act.put, List.setIfInBounds_toArray, List.set_cons_zero, List.set_cons_succ]
    refine takeH 7 (v := ?va7) rfl (by kernel_rfl) (by kernel_rfl) (by kernel_rfl) (fun _ _ _ h => h) hH rfl ?ya7 ?ra7
    case ya7 => intro W hSw; go_simp; try with_reducible rfl
    try simp only [Act.put, List.setIfInBounds_toArray, List.set_cons_zero, List.set_cons_succ]
    refine takeH 8 (v := ?va8) rfl (by kernel_rfl) (by kernel_rfl) (by kernel_rfl) (fun _ _ _ h => h) hH rfl ?ya8 ?ra8
    case ya8 => intro W hSw; go_simp; try with_reducible rfl
    try simp only [Act.put, List.setIfInBounds_toArray, List.set_cons_zero, List.set_cons_succ]
    refine takeH 9 (v := ?va9) rfl (by kernel_rfl) (by kernel_rfl) (by kernel_rfl) (fun _ _ _ h => h) hH rfl ?ya9 ?ra9
    case ya9 => intro W hSw; go_simp; try with_reducible rfl
    try simp only [Act.put, List.setIfInBounds_toArray, List.set_cons_zero, List.set_cons_succ]
    refine takeH 10 (v := ?va10) rfl (by kernel_rfl) (by kernel_rfl) (by kernel_rfl) (fun _ _ _ h => h) hH rfl ?ya10 ?ra10
    case ya10 => intro W hSw; go_simp; try with_reducible rfl
    try simp only [Act.put, List.setIfInBounds_toArray, List.set_cons_zero, List.set_cons_succ]
    refine takeH 11 (v := ?va11) rfl (by kernel_rfl) (by kernel_rfl) (by kernel_rfl) (fun _ _ _ h => h) hH rfl ?ya11 ?ra11
    case ya11 => intro W hSw; go_simp; try with_reducible rfl
    try simp only [Act.put, List.setIfInBounds_toArray, List.set_cons_zero, List.set_cons_succ]
    refine takeH 12 (v := ?va12) rfl (by kernel_rfl) (by kernel_rfl) (by kernel_rfl) (fun _ _ _ h => h) hH rfl ?ya12 ?ra12
    case ya12 => intro W hSw; go_simp; try with_reducible rfl
    try simp only [Act.put, List.setIfInBounds_toArray, List.set_cons_zero, List.set_cons_succ]
    refine takeH 13 (v := ?va13) rfl (by kernel_rfl) (by kernel_rfl) (by kernel_rfl) (fun _ _ _ h => h) hH rfl ?ya13 ?ra13
    case ya13 => intro W hSw; go_simp; try with_reducible rfl
    try simp only [Act.put, List.setIfInBounds_toArray, List.set_cons_zero, List.set_cons_succ]
    refine takeH 14 (v := ?va14) rfl (by kernel_rfl) (by kernel_rfl) (by kernel_rfl) (fun _ _ _ h => h) hH rfl ?ya14 ?ra14
    case ya14 => intro W hSw; go_simp; try with_reducible rfl
    try simp only [Act.put, List.setIfInBounds_toArray, List.set_cons_zero, List.set_cons_succ]
    refine wpAnyH_done (by kernel_rfl) ?_ _
    try simp only [Act.put]
    have hdr : w.grownBy w.drew (some M) := below_rowP (Below.refl _ _).drew _
    have hst : Str w.drew M 72 (marksV bs) := HM2.out
    generalize w.drew = W1 at *
    go_wp2
    go_end0
    exact ⟨rfl, hdr, bs, hst, Hd.out⟩
  | false =>
    rw [hb] at em
    have Hk0 := Lib.hid (mkk_start Hsrt.out Hin.out hy Hc.out)
    clear hb
    go_enter Try.func45, Try.ntmps45
    go_wp2_with fail
    refine wp_region_held_drew (S := fun w' => w'.cell? ⟨q', 0, none⟩ = some (.int .i64 y.r) ∧ w'.cell? ⟨q', 1, none⟩ = some (.int .i64 y.a) ∧ w'.cell? ⟨M, plM y.r y.a, none⟩ = some (.bool false)) (by kernel_rfl) ⟨e0, e1, em⟩ (fun hH => ?_)
    refine takeH 0 (v := ?vb0) rfl (by kernel_rfl) (by kernel_rfl) (by kernel_rfl) (fun _ _ _ h => h) hH rfl ?yb0 ?rb0
    case yb0 => intro W hSw; go_simp; try with_reducible rfl
    try simp only [Act.put, List.setIfInBounds_toArray, List.set_cons_zero, List.set_cons_succ]
    refine takeH 1 (v := ?vb1) rfl (by kernel_rfl) (by kernel_rfl) (by kernel_rfl) (fun _ _ _ h => h) hH rfl ?yb1 ?rb1
    case yb1 => intro W hSw; go_simp; try with_reducible rfl
    try simp only [Act.put, List.setIfInBounds_toArray, List.set_cons_zero, List.set_cons_succ]
    refine takeH 2 (v := ?vb2) rfl (by kernel_rfl) (by kernel_rfl) (by kernel_rfl) (fun _ _ _ h => h) hH rfl ?yb2 ?rb2
    case yb2 => intro W hSw; go_simp; try with_reducible rfl
    try simp only [Act.put, List.setIfInBounds_toArray, List.set_cons_zero, List.set_cons_succ]
    refine takeH 3 (v := ?vb3) rfl (by kernel_rfl) (by kernel_rfl) (by kernel_rfl) (fun _ _ _ h => h) hH rfl ?yb3 ?rb3
    case yb3 => intro W hSw; go_simp; try with_reducible rfl
    try simp only [Act.put, List.setIfInBounds_toArray, List.set_cons_zero, List.set_cons_succ]
    refine takeH 4 (v := ?vb4) rfl (by kernel_rfl) (by kernel_rfl) (by kernel_rfl) (fun _ _ _ h => h) hH rfl ?yb4 ?rb4
    case yb4 => intro W hSw; go_simp; try with_reducible rfl
    try simp only [Act.put, List.setIfInBounds_toArray, List.set_cons_zero, List.set_cons_succ]
    refine takeH 5 (v := ?vb5) rfl (by kernel_rfl) (by kernel_rfl) (by kernel_rfl) (fun _ _ _ h => h) hH rfl ?yb5 ?rb5
    case yb5 => intro W hSw; go_simp; try with_reducible rfl
    try simp only [Act.put, List.setIfInBounds_toArray, List.set_cons_zero, List.set_cons_succ]
    refine takeH 6 (v := ?vb6) rfl (by kernel_rfl) (by kernel_rfl) (by kernel_rfl) (fun _ _ _ h => h) hH rfl ?yb6 ?rb6
    case yb6 => intro W hSw; go_simp; try with_reducible rfl
    try simp only [Act.put, List.setIfInBounds_toArray, List.set_cons_zero, List.set_cons_succ]
    refine takeH 7 (v := ?vb7) rfl (by kernel_rfl) (by kernel_rfl) (by kernel_rfl) (fun _ _ _ h => h) hH rfl ?yb7 ?rb7
    case yb7 => intro W hSw; go_simp; try with_reducible rfl
    try simp only [Act.put, List.setIfInBounds_toArray, List.set_cons_zero, List.set_cons_succ]
    refine takeH 8 (v := ?vb8) rfl (by kernel_rfl) (by kernel_rfl) (by kernel_rfl) (fun _ _ _ h => h) hH rfl ?yb8 ?rb8
    case yb8 => intro W hSw; go_simp; try with_reducible rfl
    try simp only [Act.put, List.setIfInBounds_toArray, List.set_cons_zero, List.set_cons_succ]
    refine takeH 9 (v := ?vb9) rfl (by kernel_rfl) (by kernel_rfl) (by kernel_rfl) (fun _ _ _ h => h) hH rfl ?yb9 ?rb9
    case yb9 => intro W hSw; go_simp; try with_reducible rfl
    try simp only [Act.put, List.setIfInBounds_toArray, List.set_cons_zero, List.set_cons_succ]
    refine takeH 10 (v := ?vb10) rfl (by kernel_rfl) (by kernel_rfl) (by kernel_rfl) (fun _ _ _ h => h) hH rfl ?yb10 ?rb10
    case yb10 => intro W hSw; go_simp; try with_reducible rfl
    try simp only [Act.put, List.setIfInBounds_toArray, List.set_cons_zero, List.set_cons_succ]
    refine takeH 11 (v := ?vb11) rfl (by kernel_rfl) (by kernel_rfl) (by kernel_rfl) (fun _ _ _ h => h) hH rfl ?yb11 ?rb11
    case yb11 => intro W hSw; go_simp; try with_reducible rfl
    try simp only [Act.put, List.setIfInBounds_toArray, List.set_cons_zero, List.set_cons_succ]
    refine takeH 12 (v := ?vb12) rfl (by kernel_rfl) (by kernel_rfl) (by kernel_rfl) (fun _ _ _ h => h) hH rfl ?yb12 ?rb12
    case yb12 => intro W hSw; go_simp; try with_reducible rfl
    try simp only [Act.put, List.setIfInBounds_toArray, List.set_cons_zero, List.set_cons_succ]
    refine takeH 13 (v := ?vb13) rfl (by kernel_rfl) (by kernel_rfl) (by kernel_rfl) (fun _ _ _ h => h) hH rfl ?yb13 ?rb13
    case yb13 => intro W hSw; go_simp; try with_reducible rfl
    try simp only [Act.put, List.setIfInBounds_toArray, List.set_cons_zero, List.set_cons_succ]
    refine takeH 14 (v := ?vb14) rfl (by kernel_rfl) (by kernel_rfl) (by kernel_rfl) (fun _ _ _ h => h) hH rfl ?yb14 ?rb14
    case yb14 => intro W hSw; go_simp; try with_reducible rfl
    try simp only [Act.put, List.setIfInBounds_toArray, List.set_cons_zero, List.set_cons_succ]
    refine wpAnyH_done (by kernel_rfl) ?_ _
    try simp only [Act.put]
    have hdr : w.grownBy w.drew (some M) := below_rowP (Below.refl _ _).drew _
    have hst : Str w.drew M 72 (marksV bs) := HM2.out
    obtain ⟨e0, e1, em⟩ := hH
    generalize w.drew = W1 at *
    have HG1 := Lib.hid (grownBy_trans HG.out hdr)
    have Hdr := Lib.hid hdr
    have gm : W1.drew.cell? ⟨M, plM y.r y.a, none⟩ = some (.bool false) := em
    have gf : W1.drew.frozen? ⟨M, plM y.r y.a, none⟩ = false := hst.frozen _
    have Hst := Lib.hid hst
    clear hst hdr em
    go_wp2_with fail
    refine wp_region_L 14 (fun w' => w'.cell? ⟨q', 0, none⟩ = some (.int .i64 y.r) ∧ w'.cell? ⟨q', 1, none⟩ = some (.int .i64 y.a)) (by kernel_rfl) ⟨e0, e1⟩ (fun hH => ?_)
    refine takeL 0 (v := ?vc0) rfl (by kernel_rfl) (by kernel_rfl) (by kernel_rfl) (by kernel_rfl) (by kernel_rfl) (fun _ _ _ h => h) hH rfl ?yc0 ?rc0
    case yc0 => intro w hSw; go_simp; try with_reducible rfl
    try simp only [Act.put, List.setIfInBounds_toArray, List.set_cons_zero, List.set_cons_succ]
    refine takeL 1 (v := ?vc1) rfl (by kernel_rfl) (by kernel_rfl) (by kernel_rfl) (by kernel_rfl) (by kernel_rfl) (fun _ _ _ h => h) hH rfl ?yc1 ?rc1
    case yc1 => intro w hSw; go_simp; try with_reducible rfl
    try simp only [Act.put, List.setIfInBounds_toArray, List.set_cons_zero, List.set_cons_succ]
    refine takeL 2 (v := ?vc2) rfl (by kernel_rfl) (by kernel_rfl) (by kernel_rfl) (by kernel_rfl) (by kernel_rfl) (fun _ _ _ h => h) hH rfl ?yc2 ?rc2
    case yc2 => intro w hSw; go_simp; try with_reducible rfl
    try simp only [Act.put, List.setIfInBounds_toArray, List.set_cons_zero, List.set_cons_succ]
    refine takeL 3 (v := ?vc3) rfl (by kernel_rfl) (by kernel_rfl) (by kernel_rfl) (by kernel_rfl) (by kernel_rfl) (fun _ _ _ h => h) hH rfl ?yc3 ?rc3
    case yc3 => intro w hSw; go_simp; try with_reducible rfl
    try simp only [Act.put, List.setIfInBounds_toArray, List.set_cons_zero, List.set_cons_succ]
    refine takeL 4 (v := ?vc4) rfl (by kernel_rfl) (by kernel_rfl) (by kernel_rfl) (by kernel_rfl) (by kernel_rfl) (fun _ _ _ h => h) hH rfl ?yc4 ?rc4
    case yc4 => intro w hSw; go_simp; try with_reducible rfl
    try simp only [Act.put, List.setIfInBounds_toArray, List.set_cons_zero, List.set_cons_succ]
    refine takeL 5 (v := ?vc5) rfl (by kernel_rfl) (by kernel_rfl) (by kernel_rfl) (by kernel_rfl) (by kernel_rfl) (fun _ _ _ h => h) hH rfl ?yc5 ?rc5
    case yc5 => intro w hSw; go_simp; try with_reducible rfl
    try simp only [Act.put, List.setIfInBounds_toArray, List.set_cons_zero, List.set_cons_succ]
    refine takeL 6 (v := ?vc6) rfl (by kernel_rfl) (by kernel_rfl) (by kernel_rfl) (by kernel_rfl) (by kernel_rfl) (fun _ _ _ h => h) hH rfl ?yc6 ?rc6
    case yc6 => intro w hSw; go_simp; try with_reducible rfl
    try simp only [Act.put, List.setIfInBounds_toArray, List.set_cons_zero, List.set_cons_succ]
    refine takeL 7 (v := ?vc7) rfl (by kernel_rfl) (by kernel_rfl) (by kernel_rfl) (by kernel_rfl) (by kernel_rfl) (fun _ _ _ h => h) hH rfl ?yc7 ?rc7
    case yc7 => intro w hSw; go_simp; try with_reducible rfl
    try simp only [Act.put, List.setIfInBounds_toArray, List.set_cons_zero, List.set_cons_succ]
    refine takeL 8 (v := ?vc8) rfl (by kernel_rfl) (by kernel_rfl) (by kernel_rfl) (by kernel_rfl) (by kernel_rfl) (fun _ _ _ h => h) hH rfl ?yc8 ?rc8
    case yc8 => intro w hSw; go_simp; try with_reducible rfl
    try simp only [Act.put, List.setIfInBounds_toArray, List.set_cons_zero, List.set_cons_succ]
    refine takeL 9 (v := ?vc9) rfl (by kernel_rfl) (by kernel_rfl) (by kernel_rfl) (by kernel_rfl) (by kernel_rfl) (fun _ _ _ h => h) hH rfl ?yc9 ?rc9
    case yc9 => intro w hSw; go_simp; try with_reducible rfl
    try simp only [Act.put, List.setIfInBounds_toArray, List.set_cons_zero, List.set_cons_succ]
    refine takeL 10 (v := ?vc10) rfl (by kernel_rfl) (by kernel_rfl) (by kernel_rfl) (by kernel_rfl) (by kernel_rfl) (fun _ _ _ h => h) hH rfl ?yc10 ?rc10
    case yc10 => intro w hSw; go_simp; try with_reducible rfl
    try simp only [Act.put, List.setIfInBounds_toArray, List.set_cons_zero, List.set_cons_succ]
    refine callL 11 rfl (by kernel_rfl) rfl (fun K hK => ?_)
    go_simp
    refine hK.out _ _ hH (fun hH => ?_)
    clear hK K
    try simp only [Act.put, List.setIfInBounds_toArray, List.set_cons_zero, List.set_cons_succ]
    refine callL 12 rfl (by kernel_rfl) rfl (fun K hK => ?_)
    go_simp
    refine hK.out _ _ hH (fun hH => ?_)
    clear hK K
    try simp only [Act.put, List.setIfInBounds_toArray, List.set_cons_zero, List.set_cons_succ]
    refine callL 13 rfl (by kernel_rfl) rfl (fun K hK => ?_)
    go_simp
    refine hK.out _ _ hH (fun hH => ?_)
    clear hK K
    try simp only [Act.put, List.setIfInBounds_toArray, List.set_cons_zero, List.set_cons_succ]
    refine lastL rfl (by kernel_rfl) (by kernel_rfl) (by kernel_rfl) rfl (fun K hK => ?_)
    go_simp
    refine hK.out _ _ ?_
    clear hK K
    try simp only [Act.put, List.setIfInBounds_toArray, List.set_cons_zero, List.set_cons_succ]
    have hs2 : Str (W1.setCell ⟨M, plM y.r y.a, none⟩ (.bool true)).drew M 72 (marksV (setM bs (plM y.r y.a))) := by
      have := Str.set (W := W1) Hst.out (plM y.r y.a) (.bool true)
      rw [marksV_set] at this
      exact this
    have hg2 : W1.grownBy (W1.setCell ⟨M, plM y.r y.a, none⟩ (.bool true)).drew (some M) := grownBy_trans (grownBy_set W1 M (plM y.r y.a) (.bool true)) (below_rowP (Below.refl _ _).drew _)
    generalize (W1.setCell ⟨M, plM y.r y.a, none⟩ (.bool true)).drew = W2 at *
    have HG2 := Lib.hid (grownBy_trans HG1.out hg2)
    have Hg2 := Lib.hid (grownBy_trans Hdr.out hg2)
    have Hs2 := Lib.hid hs2
    have e4 := (HN.out W2 HG2.out).1.cell 4 (v := .slice pp qs.length pcap) rfl
    clear hs2 hg2 gm gf e0 e1 hH
    go_wp2_with fail
    go_loopw [40] (fun i wr => ∃ (k : Nat) (b2 : Nat → Bool), k ≤ qs.length ∧ i = .int .i64 k ∧ wl.grownBy wr (some M) ∧ w.grownBy wr (some M) ∧ Str wr M 72 (marksV b2) ∧ Mkk g y bs b2 k) (fun i _ => qs.length - (intOf i).toNat)
    case atStart => exact ⟨0, _, by omega, rfl, HG2.out, Hg2.out, Hs2.out, Hk0.out⟩
    case round =>
      obtain ⟨k, b2, hk, rfl, hgl, hgw, hsm, hmk⟩ := hrel
      by_cases hlt : k < qs.length
      · obtain ⟨gb, cap, ep, _, _, hcell⟩ := (HN.out wr hgl).2.cell k hlt
        have hkp : k < y.ps.length := by have := Hql.out; omega
        obtain ⟨z, hz, hzr, hza⟩ := Hpar.out y hy y.ps[k] (List.getElem_mem hkp)
        have hr1 : 1 ≤ y.r := by
          by_cases e : y.r = 0
          · have := Hr0.out y hy e; omega
          · have := Hiy.out.1; omega
        have hzq : h (plN z.r z.a) = ptrV qs[k] := by rw [hzr, hza]; exact Hqp.out k hlt hkp
        have iz := Hin.out z hz
        unfold inPl at iz
        have Hcall := Lib.hid (Hih.out z.r.toNat (by have := Hn.out; omega) z qs[k] wr b2 hz rfl hzq hgl hsm (by rw [hzr]; exact hmk.cls))
        have Hstep := Lib.hid (fun b3 => mkk_step (b2 := b3) Hin.out hy hmk hz hkp hzr hza)
        have Hgl := Lib.hid hgl
        have Hgw := Lib.hid hgw
        simp only [Value.slice.injEq, true_and] at ep
        obtain ⟨rfl, rfl⟩ := ep
        unfold ptrV at hcell
        generalize qs[k] = qk at *
        clear hgl hgw hsm hmk hzr hza hzq iz hr1 hkp
        go_wp2_with fail
        refine Hcall.out.mono ?_
        rintro e w2 ⟨rfl, hg3, b3, hs3, hd3⟩
        have Hg3 := Lib.hid hg3
        have Hs3 := Lib.hid hs3
        have Hd3 := Lib.hid hd3
        clear hg3 hs3 hd3 hcell
        go_wp2
        go_roundw
        case rel => exact ⟨k + 1, b3, by omega, by go_num, grownBy_trans Hgl.out Hg3.out, grownBy_trans Hgw.out Hg3.out, Hs3.out, Hstep.out _ Hd3.out⟩
        case measure => simp [intOf]; omega
      · have hke : k = y.ps.length := by have := Hql.out; omega
        rw [hke] at hmk
        have Hmk := Lib.hid (mkk_end Hsrt.out Hin.out hy Hc.out hmk)
        have Hgw := Lib.hid hgw
        have Hsm := Lib.hid hsm
        clear hmk hgl hgw hsm hke
        go_wp2
        go_end0
        exact ⟨rfl, Hgw.out, b2, Hsm.out, Hmk.out⟩

end Go.Proofs.Ytejpoeejhmgphaa
