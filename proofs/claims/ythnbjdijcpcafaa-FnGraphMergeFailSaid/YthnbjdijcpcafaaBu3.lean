/- Texts that the laws of this folder share, one behind another; no conditions. -/
import Derived.Test.YthnbjdijcpcafaaRows
import Derived.Test.YthnbjdijcpcafaaBu2
import Derived.Test.YthnbjdijcpcafaaBu0
import Derived.Test.YthnbjdijcpcafaaBu1
import Derived.Maps.AppendAt

/- impl's adding of a vertex to a graph of pointers, by a walk of its text; conditions: lists are shorter than 2^40, the committee, the graph and its vertices are valid. -/
namespace Go.Proofs.Ythnbjdijcpcafaa
open Go.RowKit

theorem run_index_z {P : Program} {T E : TypeId} {n s k B o : Nat} {z : Int} (hu : P.underlying T = some (.array n E)) (hs : (P.info? E).map (·.size) = some s) (hz : z = (k : Int)) (hk : k < n) (w : World) :
    (Instr.indexAt T (.pointer (some ⟨B, o, none⟩)) (.int .i64 z)).run P w = .ok (.pointer (some ⟨B, o + k * s, none⟩)) w := by
  subst hz
  have h1 := run_underlying hu w
  cases hq : P.info? E with
  | none => simp [hq] at hs
  | some i =>
    have hz : i.size = s := by simpa [hq] using hs
    simp [Instr.indexAt, asIntOf, Instr.sureAddr, Sem.run_bind, h1, sizeOf, typeInfo, hq, hz, hk, addr_add']

theorem below_rowP {w w' : World} (h : Below w.heap.size w w') (row : Option Nat) : w.grownBy w' row := ⟨h.os, h.tape, h.output, h.size, fun k hk _ => h.block k hk⟩

/-- 'append(s, p)', p a pointer. -/
theorem wpList_pushP {P : Program} {T E : TypeId} (hsl : P.underlying T = some (.slice E)) (hinf : (P.info? E).map (fun i => (i.zero, i.size, i.bytes)) = some (some (.pointer none), 1, 8)) {w : World} {ops : Array Oper} {rest : List Oper} {o : Oper} {a : Act} {Q : Exit → Act → World → Prop} (hgd : o.guard = none) (s x : Operand)
    (ho : o.op = .call { callee := .builtin .append, args := #[s, x], argTypes := #[T, T] }) (B : Nat) (v : Value) (qs : List Nat) (q : Nat) (hs : a.eval s = v) (hown : OwnP E w B v qs)
    (hlen : qs.length ≤ 1099511627776) (hx : a.eval x = .slice (some ⟨w.heap.size, 0, none⟩) 1 1) (hB : B ≤ w.heap.size)
    (h : ∀ v' w', OwnP E w' B v' (qs ++ [q]) → w.grownBy w' v.ownBlock → (∀ g, v'.ownBlock = some g → v.ownBlock = some g ∨ w.heap.size ≤ g) → wpList P ops Q rest (a.put o.dst v') w') : wpList P ops Q (o :: rest) a (w.alloc (.cells #[.pointer (some ⟨q, 0, none⟩)] E)) := by
  refine wpList_want (by unfold Region.wanted; rw [hgd]) fun K hK => ?_
  obtain ⟨i, hi, hz, hsz, hby⟩ := info_parts hinf
  obtain ⟨v', w', hrun, h1, h2, _, h4⟩ := run_append_own_at (P := P) (w.alloc (.cells #[.pointer (some ⟨q, 0, none⟩)] E)) B T o.type E i (.pointer none) 1 8 hsl hi hz hsz hby rfl (by decide) v qs.length _ (World.ownsRow.alloc hown _) ⟨w.heap.size, 0, none⟩ 1 1 [ptrV q] rfl
    (cells_ptr w E q) (by intro u hu; simp at hu; subst hu; rfl) (by unfold maxLen; omega) (by omega) (by simp; omega)
  unfold Oper.wp execOp
  simp only [ho, resolve, invoke, builtin, Sem.run_bind, Sem.run_pure, Result.andThen_ok, List.map_toArray, List.map_cons, List.map_nil, hs, hx, hrun]
  refine hK _ _ (h v' w' ?_ (grownBy_trans (World.grownBy_alloc _ _ _) h2) fun g e => ?_)
  · unfold OwnP; simpa using h1
  · rcases h4 with h4 | h4
    · exact .inl (by rw [← h4]; exact e)
    · rw [h4] at e; cases e; exact .inr (by simp)

/-- The code of an addition to a graph that is valid, and the graph after it. -/
def adN (c : List Int) (g : List Vx) (x : Vx) : Int := if vtxB c x = true then addN g x else 4
def adG (c : List Int) (g : List Vx) (x : Vx) : List Vx := if vtxB c x = true then addG g x else g
def AddPost (w0 w : World) (G : Nat) (mv : Value) (c : List Int) (g : List Vx) (x : Vx) : Ending → World → Prop := fun e w' =>
  e = .returned (.int .i64 (adN c g x)) ∧ w.grownBy w' (some G) ∧ ∃ hi h, Lk w0 w' hi G mv h (adG c g x)
theorem vtx_pl {c : List Int} {x : Vx} (hv : validB c = true) (h : vtxB c x = true) : inPl x := by
  obtain ⟨hn1, hn7⟩ := validB_len hv
  unfold vtxB rngB autB at h
  simp only [Bool.and_eq_true, decide_eq_true_eq] at h
  unfold inPl; omega
theorem vtx_mem {c : List Int} {x : Vx} (h : vtxB c x = true) : membersB c.length x.ps = true := by
  unfold vtxB at h
  simp only [Bool.and_eq_true] at h
  exact h.2.2.1
theorem vtx_r0 {c : List Int} {x : Vx} (h : vtxB c x = true) (h0 : x.r = 0) : x.ps.length = 0 := by
  unfold vtxB quoB at h
  simp only [Bool.and_eq_true, if_pos h0, decide_eq_true_eq] at h
  exact h.2.2.2.2
theorem run_place (G : Nat) (r a : Int) (hr : 0 ≤ r) (hr2 : r ≤ 30) (ha : 0 ≤ a) (ha2 : a ≤ 6) : ∃ o1, (∀ w, (Instr.indexAt 75 (.pointer (some ⟨G, 1, none⟩)) (.int .i64 r)).run Try.prog w = .ok (.pointer (some ⟨G, o1, none⟩)) w) ∧
    ∀ w, (Instr.indexAt 74 (.pointer (some ⟨G, o1, none⟩)) (.int .i64 a)).run Try.prog w = .ok (.pointer (some ⟨G, plN r a, none⟩)) w := by
  refine ⟨1 + r.toNat * 7, fun w => ?_, fun w => ?_⟩
  · exact run_index_z (s := 7) Try.underlying75 (by kernel_rfl) (by omega) (by omega) w
  · have := run_index_z (P := Try.prog) (B := G) (o := 1 + r.toNat * 7) (s := 1) (k := a.toNat) (z := a) Try.underlying74 (by kernel_rfl) (by omega) (by omega) w
    rw [this]
    unfold plN
    rw [Nat.mul_one, Nat.add_assoc]
theorem add_found {c : List Int} {g : List Vx} {x y : Vx} (hs : Srt g) (hx : vtxB c x = true) (hy : y ∈ g) (hr : y.r = x.r) (ha : y.a = x.a) :
    (sameB y x = true → adN c g x = 1 ∧ adG c g x = g) ∧ (sameB y x = false → adN c g x = 2 ∧ adG c g x = g) := by
  obtain ⟨k, hk, e, rfl⟩ := findZ_mem hs hy
  rw [hr, ha] at e
  unfold adN adG
  rw [if_pos hx, if_pos hx]
  exact ⟨fun h => addN_same hk e h, fun h => addN_twice hk e h⟩
theorem add_fresh {c : List Int} {g : List Vx} {x : Vx} (hx : vtxB c x = true) (hn : ∀ y ∈ g, ¬ (y.r = x.r ∧ y.a = x.a)) :
    (parB g x = false → adN c g x = 3 ∧ adG c g x = g) ∧ (parB g x = true → adN c g x = 0 ∧ adG c g x = insG g x) := by
  unfold adN adG
  rw [if_pos hx, if_pos hx]
  exact ⟨fun h => addN_miss (findZ_none hn) h, fun h => addN_done (findZ_none hn) h⟩
theorem ad_not {c : List Int} {g : List Vx} {x : Vx} (hx : vtxB c x = false) : adN c g x = 4 ∧ adG c g x = g := by
  unfold adN adG
  rw [if_neg (by simp [hx]), if_neg (by simp [hx])]
  exact ⟨rfl, rfl⟩
theorem Lk.place {w0 w : World} {hi G : Nat} {mv : Value} {h : Nat → Value} {g : List Vx} {r : Int} {ps : List Int} (l : Lk w0 w hi G mv h g) (hs : Srt g) (k : Nat) (hk : k < ps.length) (h0 : 0 ≤ r - 1) (h1 : r - 1 ≤ 30) (h2 : 0 ≤ ps[k]) (h3 : ps[k] ≤ 6) :
    (∃ q, h (plN (r - 1) ps[k]) = ptrV q ∧ hasP g r ps k = true) ∨ (h (plN (r - 1) ps[k]) = .pointer none ∧ hasP g r ps k = false) := by
  unfold hasP
  rw [getD_get hk]
  by_cases he : ∃ y ∈ g, y.r = r - 1 ∧ y.a = ps[k]
  · obtain ⟨y, hy, er, ea⟩ := he
    obtain ⟨q, hq, _⟩ := l.has y hy
    obtain ⟨j, _, e, _⟩ := findZ_mem hs hy
    rw [er, ea] at hq e
    exact .inl ⟨q, hq, by rw [e]; exact decide_eq_true (by omega)⟩
  · have hn : ∀ y ∈ g, ¬ (y.r = r - 1 ∧ y.a = ps[k]) := fun y hy e => he ⟨y, hy, e⟩
    exact .inr ⟨l.non _ _ h0 h1 h2 h3 hn, by rw [findZ_none hn]; rfl⟩
theorem qs_step {h : Nat → Value} {r : Int} {ps : List Int} {qs : List Nat} {q k : Nat} (hq : ∀ j (_ : j < qs.length) (hj' : j < ps.length), h (plN (r - 1) ps[j]) = ptrV qs[j]) (hl : qs.length = k) (hk : k < ps.length) (he : h (plN (r - 1) ps[k]) = ptrV q) :
    ∀ j (hj : j < (qs ++ [q]).length) (hj' : j < ps.length), h (plN (r - 1) ps[j]) = ptrV (qs ++ [q])[j] := by
  intro j hj hj'
  by_cases e : j < qs.length
  · rw [List.getElem_append_left e]; exact hq j e hj'
  · have : j = k := by rw [List.length_append] at hj; simp at hj; omega
    subst this
    rw [he]
    congr 1
    rw [List.getElem_append_right (by omega)]; simp
set_option maxRecDepth 8000 in
set_option maxHeartbeats 4000000 in
theorem graph_add (w0 w : World) (hi G : Nat) (ac : Option Addr) (capc : Nat) (c : List Int) (h : Nat → Value) (g : List Vx) (x : Vx) (pa : Option Addr) (pc : Nat) (hv : validB c = true) (hbp : x.ps.length ≤ 1099511627776) (hgp : ∀ y ∈ g, y.ps.length ≤ 1099511627776)
    (hs : SrcAt w0 pa pc x.ps) (hip : IntsAt w0 pa x.ps) (hc : IntsAt w0 ac c) (hb : Below w0.heap.size w0 w) (hL : Lk w0 w hi G (.slice ac c.length capc) h g) (hsrt : Srt g) (hgv : ∀ y ∈ g, vtxB c y = true) :
    Calls Try.prog 36 #[.pointer (some ⟨G, 0, none⟩), .agg #[.int .i64 x.r, .int .i64 x.a, .slice pa x.ps.length pc, .int .i64 x.d]] w (AddPost w0 w G (.slice ac c.length capc) c g x) := by
  have hb0 : Below w.heap.size w (w.alloc (.cells #[.int .i64 x.r, .int .i64 x.a, .slice pa x.ps.length pc, .int .i64 x.d] 25)) := (Below.refl _ _).alloc (Nat.le_refl _) _
  have hsz0 : (w.alloc (.cells #[.int .i64 x.r, .int .i64 x.a, .slice pa x.ps.length pc, .int .i64 x.d] 25)).heap.size = w.heap.size + 1 := by simp
  have s0 := Str.new w 25 #[.int .i64 x.r, .int .i64 x.a, .slice pa x.ps.length pc, .int .i64 x.d]
  have k0 := s0.cell 0 (v := .int .i64 x.r) rfl
  have k1 := s0.cell 1 (v := .int .i64 x.a) rfl
  have k2 := s0.cell 2 (v := .slice pa x.ps.length pc) rfl
  have k3 := s0.cell 3 (v := .int .i64 x.d) rfl
  have hL0 := hL.under hb0
  have g0 := hL0.cell (k := 0) (by omega)
  rw [hL.mem] at g0
  have hGw : G < w.heap.size := Nat.lt_of_lt_of_le hL.lt hL.le
  have hbW := below_step hb hb.size hb0
  have HbW := Lib.hid hbW; clear hbW
  have HF := Lib.hid (fun W (h : Below (w.alloc (.cells #[.int .i64 x.r, .int .i64 x.a, .slice pa x.ps.length pc, .int .i64 x.d] 25)).heap.size (w.alloc (.cells #[.int .i64 x.r, .int .i64 x.a, .slice pa x.ps.length pc, .int .i64 x.d] 25)) W) => vertex_fits ac capc c x pa pc W hv hbp (hc.below (below_step HbW.out HbW.out.size h)) (hip.below (below_step HbW.out HbW.out.size h)))
  have HL0 := Lib.hid hL0; clear hL0
  have HL := Lib.hid hL; clear hL
  have Hb := Lib.hid hb; clear hb
  have Hb0 := Lib.hid hb0; clear hb0
  have Hs0 := Lib.hid s0; clear s0
  have Hs := Lib.hid hs; clear hs
  have Hip := Lib.hid hip; clear hip
  have Hgv := Lib.hid hgv; clear hgv
  have Hgp := Lib.hid hgp; clear hgp
  have Hsrt := Lib.hid hsrt; clear hsrt
  have Hv := Lib.hid hv; clear hv hc
  go_enter Try.func36, Try.ntmps36
  go_wp2_with fail
  generalize w.alloc (.cells #[.int .i64 x.r, .int .i64 x.a, .slice pa x.ps.length pc, .int .i64 x.d] 25) = W0 at *
  refine wp_region_held_drew (S := fun w' => Below W0.heap.size W0 w' ∧ w'.cell? ⟨w.heap.size, 0, none⟩ = some (.int .i64 x.r) ∧ w'.cell? ⟨w.heap.size, 1, none⟩ = some (.int .i64 x.a) ∧ w'.cell? ⟨w.heap.size, 2, none⟩ = some (.slice pa x.ps.length pc) ∧ w'.cell? ⟨w.heap.size, 3, none⟩ = some (.int .i64 x.d) ∧ w'.cell? ⟨G, 0, none⟩ = some (.slice ac c.length capc)) (by kernel_rfl) ⟨(Below.refl _ _).drew, k0, k1, k2, k3, g0⟩ (fun hH => ?_)
  refine takeH 0 (v := ?va0) rfl (by kernel_rfl) (by kernel_rfl) (by kernel_rfl) (fun _ _ _ h => h) hH rfl ?ya0 ?ra0
  case ya0 => intro W hSw; go_simp; try with_reducible rfl
  try simp only [Act.put, List.setIfInBounds_toArray, List.set_cons_zero, List.set_cons_succ]
  refine takeH 1 (v := ?va1) rfl (by kernel_rfl) (by kernel_rfl) (by kernel_rfl) (fun _ _ _ h => h) hH rfl ?ya1 ?ra1
  case ya1 => intro W hSw; go_simp; try with_reducible rfl
  try simp only [Act.put, List.setIfInBounds_toArray, List.set_cons_zero, List.set_cons_succ]
  refine takeH 2 (v := ?va2) rfl (by kernel_rfl) (by kernel_rfl) (by kernel_rfl) (fun _ _ _ h => h) hH rfl ?ya2 ?ra2
  case ya2 => intro W hSw; go_simp; try with_reducible rfl
  try simp only [Act.put, List.setIfInBounds_toArray, List.set_cons_zero, List.set_cons_succ]
  refine takeH 3 (v := ?va3) rfl (by kernel_rfl) (by kernel_rfl) (by kernel_rfl) (fun _ _ _ h => h) hH rfl ?ya3 ?ra3
  case ya3 => intro W hSw; go_simp; try with_reducible rfl
  try simp only [Act.put, List.setIfInBounds_toArray, List.set_cons_zero, List.set_cons_succ]
  refine takeH 4 (v := ?va4) rfl (by kernel_rfl) (by kernel_rfl) (by kernel_rfl) (fun _ _ _ h => h) hH rfl ?ya4 ?ra4
  case ya4 => intro W hSw; go_simp; try with_reducible rfl
  try simp only [Act.put, List.setIfInBounds_toArray, List.set_cons_zero, List.set_cons_succ]
  refine callH 5 rfl (by kernel_rfl) rfl (fun K hK => ?_)
  go_simp
  go_at_call 28
  refine (HF.out _ hH.1).mono ?_
  rintro e wx ⟨rfl, hbx⟩
  refine hK.out _ _ ⟨hH.1.trans (hbx.mono hH.1.size), (hbx.cell (p := ⟨w.heap.size, 0, none⟩) (by simp only; have := hH.1.size; omega)).trans hH.2.1, (hbx.cell (p := ⟨w.heap.size, 1, none⟩) (by simp only; have := hH.1.size; omega)).trans hH.2.2.1, (hbx.cell (p := ⟨w.heap.size, 2, none⟩) (by simp only; have := hH.1.size; omega)).trans hH.2.2.2.1, (hbx.cell (p := ⟨w.heap.size, 3, none⟩) (by simp only; have := hH.1.size; omega)).trans hH.2.2.2.2.1, (hbx.cell (p := ⟨G, 0, none⟩) (by simp only; have := hH.1.size; omega)).trans hH.2.2.2.2.2⟩ (fun hH => ?_)
  clear hK K
  try simp only [Act.put, List.setIfInBounds_toArray, List.set_cons_zero, List.set_cons_succ]
  refine takeH 6 (v := ?va6) rfl (by kernel_rfl) (by kernel_rfl) (by kernel_rfl) (fun _ _ _ h => h) hH rfl ?ya6 ?ra6
  case ya6 => intro W hSw; go_simp; try with_reducible rfl
  try simp only [Act.put, List.setIfInBounds_toArray, List.set_cons_zero, List.set_cons_succ]
  refine wpAnyH_done (by kernel_rfl) ?_ _
  try simp only [Act.put]
  obtain ⟨hbw, k0, k1, k2, k3, g0⟩ := hH
  have HL1 := Lib.hid (HL0.out.under hbw)
  have Hb1 := Lib.hid (Hb0.out.trans (hbw.mono (by omega)))
  clear g0
  have HB1 := Lib.hid (below_step Hb.out Hb.out.size Hb1.out)
  have Hs1 := Lib.hid (show Str _ w.heap.size 25 #[.int .i64 x.r, .int .i64 x.a, .slice pa x.ps.length pc, .int .i64 x.d] from (hbw.block _ Hs0.out.lt).trans Hs0.out)
  clear hbw HL0 Hb0 Hs0 HbW
  cases hx : vtxB c x with
  | false =>
    obtain ⟨hz1, hz2⟩ := ad_not (g := g) hx
    have Hz1 := Lib.hid hz1
    have Hz2 := Lib.hid hz2
    clear hz1 hz2
    go_wp2
    go_ret
    exact ⟨by rw [Hz1.out]; rfl, below_rowP Hb1.out _, _, _, by rw [Hz2.out]; exact HL1.out⟩
  | true =>
  have hpl := vtx_pl Hv.out hx
  have hpl' := hpl
  unfold inPl at hpl'
  obtain ⟨hr0, hr1, ha0, ha1⟩ := hpl'
  obtain ⟨o1, ho1, ho2⟩ := run_place G x.r x.a hr0 hr1 ha0 ha1
  have gp := HL1.out.cell (plN_bd hr1 ha1).2
  by_cases hfound : ∃ y ∈ g, y.r = x.r ∧ y.a = x.a
  · obtain ⟨y, hy, er, ea⟩ := hfound
    obtain ⟨q, hq, hn⟩ := HL1.out.has y hy
    rw [er, ea] at hq
    rw [hq] at gp
    unfold ptrV at gp
    obtain ⟨pa', pc', pv, qs, hsq, hiq, _, _⟩ := hn.ex
    obtain ⟨F1, F2⟩ := add_found Hsrt.out hx hy er ea
    have HS0 := Lib.hid (fun W (h1 : IntsAt W pa' y.ps) (h2 : IntsAt W pa x.ps) => impl_sameVertex y x pa' pa pc' pc W (Hgp.out y hy) hbp h1 h2)
    have F1 := Lib.hid F1
    have F2 := Lib.hid F2
    have Hsq := Lib.hid hsq
    have Hiq := Lib.hid hiq
    have Hpl := Lib.hid hpl
    clear hn hq hsq hiq hpl er ea hy
    go_wp2_with fail
    refine wp_region_held_drew (S := fun w' => Below wx.heap.size wx w' ∧ w'.cell? ⟨w.heap.size, 0, none⟩ = some (.int .i64 x.r) ∧ w'.cell? ⟨w.heap.size, 1, none⟩ = some (.int .i64 x.a) ∧ w'.cell? ⟨G, plN x.r x.a, none⟩ = some (.pointer (some ⟨q, 0, none⟩))) (by kernel_rfl) ⟨(Below.refl _ _).drew, k0, k1, gp⟩ (fun hH => ?_)
    refine takeH 0 (v := ?vb0) rfl (by kernel_rfl) (by kernel_rfl) (by kernel_rfl) (fun _ _ _ h => h) hH rfl ?yb0 ?rb0
    case yb0 => intro W hSw; go_simp; try with_reducible rfl
    try simp only [Act.put, List.setIfInBounds_toArray, List.set_cons_zero, List.set_cons_succ]
    refine takeH 1 (v := ?vb1) rfl (by kernel_rfl) (by kernel_rfl) (by kernel_rfl) (fun _ _ _ h => h) hH rfl ?yb1 ?rb1
    case yb1 => intro W hSw; go_simp; try with_reducible rfl
    try simp only [Act.put, List.setIfInBounds_toArray, List.set_cons_zero, List.set_cons_succ]
    refine takeH 2 (v := ?vb2) rfl (by kernel_rfl) (by kernel_rfl) (by kernel_rfl) (fun _ _ _ h => h) hH rfl ?yb2 ?rb2
    case yb2 => intro W hSw; go_simp; try with_reducible rfl
    try simp only [Act.put, List.setIfInBounds_toArray, List.set_cons_zero, List.set_cons_succ]
    refine takeH 3 (v := ?vb3) rfl (by kernel_rfl) (by kernel_rfl) (by kernel_rfl) (fun _ _ _ h => h) hH rfl ?yb3 ?rb3
    case yb3 => intro W hSw; go_simp; try with_reducible rfl
    try simp only [Act.put, List.setIfInBounds_toArray, List.set_cons_zero, List.set_cons_succ]
    refine takeH 4 (v := ?vb4) rfl (by kernel_rfl) (by kernel_rfl) (by kernel_rfl) (fun _ _ _ h => h) hH rfl ?yb4 ?rb4
    case yb4 => intro W hSw; go_simp; try with_reducible rfl
    try simp only [Act.put, List.setIfInBounds_toArray, List.set_cons_zero, List.set_cons_succ]
    refine takeH 5 (v := ?vb5) rfl (by kernel_rfl) (by kernel_rfl) (by kernel_rfl) (fun _ _ _ h => h) hH rfl ?yb5 ?rb5
    case yb5 => intro W hSw; go_simp; try with_reducible rfl
    try simp only [Act.put, List.setIfInBounds_toArray, List.set_cons_zero, List.set_cons_succ]
    refine takeH 6 (v := ?vb6) rfl (by kernel_rfl) (by kernel_rfl) (by kernel_rfl) (fun _ _ _ h => h) hH rfl ?yb6 ?rb6
    case yb6 => intro W hSw; go_simp; try with_reducible rfl
    try simp only [Act.put, List.setIfInBounds_toArray, List.set_cons_zero, List.set_cons_succ]
    refine takeH 7 (v := ?vb7) rfl (by kernel_rfl) (by kernel_rfl) (by kernel_rfl) (fun _ _ _ h => h) hH rfl ?yb7 ?rb7
    case yb7 => intro W hSw; go_simp; try with_reducible rfl
    try simp only [Act.put, List.setIfInBounds_toArray, List.set_cons_zero, List.set_cons_succ]
    refine takeH 8 (v := ?vb8) rfl (by kernel_rfl) (by kernel_rfl) (by kernel_rfl) (fun _ _ _ h => h) hH rfl ?yb8 ?rb8
    case yb8 => intro W hSw; go_simp; try with_reducible rfl
    try simp only [Act.put, List.setIfInBounds_toArray, List.set_cons_zero, List.set_cons_succ]
    refine takeH 9 (v := ?vb9) rfl (by kernel_rfl) (by kernel_rfl) (by kernel_rfl) (fun _ _ _ h => h) hH rfl ?yb9 ?rb9
    case yb9 => intro W hSw; go_simp; try with_reducible rfl
    try simp only [Act.put, List.setIfInBounds_toArray, List.set_cons_zero, List.set_cons_succ]
    refine takeH 10 (v := ?vb10) rfl (by kernel_rfl) (by kernel_rfl) (by kernel_rfl) (fun _ _ _ h => h) hH rfl ?yb10 ?rb10
    case yb10 => intro W hSw; go_simp; try with_reducible rfl
    try simp only [Act.put, List.setIfInBounds_toArray, List.set_cons_zero, List.set_cons_succ]
    refine wpAnyH_done (by kernel_rfl) ?_ _
    try simp only [Act.put]
    obtain ⟨hbw, k0, k1, gp⟩ := hH
    generalize hW3 : wx.drew = W3 at *
    clear hW3
    have HL3 := Lib.hid (HL1.out.under hbw)
    have HB3 := Lib.hid (below_step HB1.out HB1.out.size hbw)
    have Hb3 := Lib.hid (below_step Hb1.out Hb1.out.size hbw)
    have k2 := (hbw.cell (p := ⟨w.heap.size, 2, none⟩) Hs1.out.lt).trans k2
    have k3 := (hbw.cell (p := ⟨w.heap.size, 3, none⟩) Hs1.out.lt).trans k3
    have hq3 := (hbw.block _ Hsq.out.lt).trans Hsq.out
    have hlt3 := Str.lt (W := W3) hq3
    have hwlt : w.heap.size < W3.heap.size := Nat.lt_of_lt_of_le Hs1.out.lt hbw.size
    have j0 := Str.cell hq3 0 (v := .int .i64 y.r) rfl
    have j1 := Str.cell hq3 1 (v := .int .i64 y.a) rfl
    have j2 := Str.cell hq3 2 (v := .slice pa' y.ps.length pc') rfl
    have j3 := Str.cell hq3 3 (v := .int .i64 y.d) rfl
    have HS := Lib.hid (fun W (h : Below W3.heap.size W3 W) => HS0.out W (Hiq.out.below (below_step HB3.out HB3.out.size h)) (Hip.out.below (below_step HB3.out HB3.out.size h)))
    clear hq3 hbw gp HS0 HL1 HB1 Hb1 Hs1
    go_wp2_with fail
    refine wp_region_held_drew (S := fun w' => Below W3.heap.size W3 w' ∧ w'.cell? ⟨q, 0, none⟩ = some (.int .i64 y.r) ∧ w'.cell? ⟨q, 1, none⟩ = some (.int .i64 y.a) ∧ w'.cell? ⟨q, 2, none⟩ = some (.slice pa' y.ps.length pc') ∧ w'.cell? ⟨q, 3, none⟩ = some (.int .i64 y.d) ∧ w'.cell? ⟨w.heap.size, 0, none⟩ = some (.int .i64 x.r) ∧ w'.cell? ⟨w.heap.size, 1, none⟩ = some (.int .i64 x.a) ∧ w'.cell? ⟨w.heap.size, 2, none⟩ = some (.slice pa x.ps.length pc) ∧ w'.cell? ⟨w.heap.size, 3, none⟩ = some (.int .i64 x.d)) (by kernel_rfl) ⟨(Below.refl _ _).drew, j0, j1, j2, j3, k0, k1, k2, k3⟩ (fun hH => ?_)
    refine takeH 0 (v := ?vd0) rfl (by kernel_rfl) (by kernel_rfl) (by kernel_rfl) (fun _ _ _ h => h) hH rfl ?yd0 ?rd0
    case yd0 => intro W hSw; go_simp; try with_reducible rfl
    try simp only [Act.put, List.setIfInBounds_toArray, List.set_cons_zero, List.set_cons_succ]
    refine takeH 1 (v := ?vd1) rfl (by kernel_rfl) (by kernel_rfl) (by kernel_rfl) (fun _ _ _ h => h) hH rfl ?yd1 ?rd1
    case yd1 => intro W hSw; go_simp; try with_reducible rfl
    try simp only [Act.put, List.setIfInBounds_toArray, List.set_cons_zero, List.set_cons_succ]
    refine takeH 2 (v := ?vd2) rfl (by kernel_rfl) (by kernel_rfl) (by kernel_rfl) (fun _ _ _ h => h) hH rfl ?yd2 ?rd2
    case yd2 => intro W hSw; go_simp; try with_reducible rfl
    try simp only [Act.put, List.setIfInBounds_toArray, List.set_cons_zero, List.set_cons_succ]
    refine takeH 3 (v := ?vd3) rfl (by kernel_rfl) (by kernel_rfl) (by kernel_rfl) (fun _ _ _ h => h) hH rfl ?yd3 ?rd3
    case yd3 => intro W hSw; go_simp; try with_reducible rfl
    try simp only [Act.put, List.setIfInBounds_toArray, List.set_cons_zero, List.set_cons_succ]
    refine takeH 4 (v := ?vd4) rfl (by kernel_rfl) (by kernel_rfl) (by kernel_rfl) (fun _ _ _ h => h) hH rfl ?yd4 ?rd4
    case yd4 => intro W hSw; go_simp; try with_reducible rfl
    try simp only [Act.put, List.setIfInBounds_toArray, List.set_cons_zero, List.set_cons_succ]
    refine callH 5 rfl (by kernel_rfl) rfl (fun K hK => ?_)
    go_simp
    go_at_call 60
    refine (HS.out _ hH.1).mono ?_
    rintro e wy ⟨rfl, hbx⟩
    refine hK.out _ _ ⟨hH.1.trans (hbx.mono hH.1.size), (hbx.cell (p := ⟨q, 0, none⟩) (by simp only; have := hH.1.size; omega)).trans hH.2.1, (hbx.cell (p := ⟨q, 1, none⟩) (by simp only; have := hH.1.size; omega)).trans hH.2.2.1, (hbx.cell (p := ⟨q, 2, none⟩) (by simp only; have := hH.1.size; omega)).trans hH.2.2.2.1, (hbx.cell (p := ⟨q, 3, none⟩) (by simp only; have := hH.1.size; omega)).trans hH.2.2.2.2.1, (hbx.cell (p := ⟨w.heap.size, 0, none⟩) (by simp only; have := hH.1.size; omega)).trans hH.2.2.2.2.2.1, (hbx.cell (p := ⟨w.heap.size, 1, none⟩) (by simp only; have := hH.1.size; omega)).trans hH.2.2.2.2.2.2.1, (hbx.cell (p := ⟨w.heap.size, 2, none⟩) (by simp only; have := hH.1.size; omega)).trans hH.2.2.2.2.2.2.2.1, (hbx.cell (p := ⟨w.heap.size, 3, none⟩) (by simp only; have := hH.1.size; omega)).trans hH.2.2.2.2.2.2.2.2⟩ (fun hH => ?_)
    clear hK K
    try simp only [Act.put, List.setIfInBounds_toArray, List.set_cons_zero, List.set_cons_succ]
    refine wpAnyH_done (by kernel_rfl) ?_ _
    try simp only [Act.put]
    obtain ⟨hbw, _⟩ := hH
    have Hb5 := Lib.hid (below_step Hb3.out Hb3.out.size hbw)
    have HL5 := Lib.hid (HL3.out.under hbw)
    clear hbw
    cases hsb : sameB y x with
    | true =>
      obtain ⟨hz1, hz2⟩ := F1.out hsb
      have Hz1 := Lib.hid hz1
      have Hz2 := Lib.hid hz2
      clear hz1 hz2 F1 F2 HS
      go_wp2
      go_ret
      exact ⟨by rw [Hz1.out]; rfl, below_rowP Hb5.out _, _, _, by rw [Hz2.out]; exact HL5.out⟩
    | false =>
      obtain ⟨hz1, hz2⟩ := F2.out hsb
      have Hz1 := Lib.hid hz1
      have Hz2 := Lib.hid hz2
      clear hz1 hz2 F1 F2 HS
      go_wp2
      go_ret
      exact ⟨by rw [Hz1.out]; rfl, below_rowP Hb5.out _, _, _, by rw [Hz2.out]; exact HL5.out⟩
  · have hno : ∀ y ∈ g, ¬ (y.r = x.r ∧ y.a = x.a) := fun y hy e => hfound ⟨y, hy, e⟩
    clear hfound
    rw [HL1.out.non x.r x.a hr0 hr1 ha0 ha1 hno] at gp
    obtain ⟨F1, F2⟩ := add_fresh hx hno
    have F1 := Lib.hid F1
    have F2 := Lib.hid F2
    have Hpl := Lib.hid hpl; clear hpl
    have Hno := Lib.hid hno; clear hno
    go_wp2_with fail
    refine wp_region_held_drew (S := fun w' => Below wx.heap.size wx w' ∧ w'.cell? ⟨w.heap.size, 0, none⟩ = some (.int .i64 x.r) ∧ w'.cell? ⟨w.heap.size, 1, none⟩ = some (.int .i64 x.a) ∧ w'.cell? ⟨G, plN x.r x.a, none⟩ = some (.pointer none)) (by kernel_rfl) ⟨(Below.refl _ _).drew, k0, k1, gp⟩ (fun hH => ?_)
    refine takeH 0 (v := ?ve0) rfl (by kernel_rfl) (by kernel_rfl) (by kernel_rfl) (fun _ _ _ h => h) hH rfl ?ye0 ?re0
    case ye0 => intro W hSw; go_simp; try with_reducible rfl
    try simp only [Act.put, List.setIfInBounds_toArray, List.set_cons_zero, List.set_cons_succ]
    refine takeH 1 (v := ?ve1) rfl (by kernel_rfl) (by kernel_rfl) (by kernel_rfl) (fun _ _ _ h => h) hH rfl ?ye1 ?re1
    case ye1 => intro W hSw; go_simp; try with_reducible rfl
    try simp only [Act.put, List.setIfInBounds_toArray, List.set_cons_zero, List.set_cons_succ]
    refine takeH 2 (v := ?ve2) rfl (by kernel_rfl) (by kernel_rfl) (by kernel_rfl) (fun _ _ _ h => h) hH rfl ?ye2 ?re2
    case ye2 => intro W hSw; go_simp; try with_reducible rfl
    try simp only [Act.put, List.setIfInBounds_toArray, List.set_cons_zero, List.set_cons_succ]
    refine takeH 3 (v := ?ve3) rfl (by kernel_rfl) (by kernel_rfl) (by kernel_rfl) (fun _ _ _ h => h) hH rfl ?ye3 ?re3
    case ye3 => intro W hSw; go_simp; try with_reducible rfl
    try simp only [Act.put, List.setIfInBounds_toArray, List.set_cons_zero, List.set_cons_succ]
    refine takeH 4 (v := ?ve4) rfl (by kernel_rfl) (by kernel_rfl) (by kernel_rfl) (fun _ _ _ h => h) hH rfl ?ye4 ?re4
    case ye4 => intro W hSw; go_simp; try with_reducible rfl
    try simp only [Act.put, List.setIfInBounds_toArray, List.set_cons_zero, List.set_cons_succ]
    refine takeH 5 (v := ?ve5) rfl (by kernel_rfl) (by kernel_rfl) (by kernel_rfl) (fun _ _ _ h => h) hH rfl ?ye5 ?re5
    case ye5 => intro W hSw; go_simp; try with_reducible rfl
    try simp only [Act.put, List.setIfInBounds_toArray, List.set_cons_zero, List.set_cons_succ]
    refine takeH 6 (v := ?ve6) rfl (by kernel_rfl) (by kernel_rfl) (by kernel_rfl) (fun _ _ _ h => h) hH rfl ?ye6 ?re6
    case ye6 => intro W hSw; go_simp; try with_reducible rfl
    try simp only [Act.put, List.setIfInBounds_toArray, List.set_cons_zero, List.set_cons_succ]
    refine takeH 7 (v := ?ve7) rfl (by kernel_rfl) (by kernel_rfl) (by kernel_rfl) (fun _ _ _ h => h) hH rfl ?ye7 ?re7
    case ye7 => intro W hSw; go_simp; try with_reducible rfl
    try simp only [Act.put, List.setIfInBounds_toArray, List.set_cons_zero, List.set_cons_succ]
    refine takeH 8 (v := ?ve8) rfl (by kernel_rfl) (by kernel_rfl) (by kernel_rfl) (fun _ _ _ h => h) hH rfl ?ye8 ?re8
    case ye8 => intro W hSw; go_simp; try with_reducible rfl
    try simp only [Act.put, List.setIfInBounds_toArray, List.set_cons_zero, List.set_cons_succ]
    refine takeH 9 (v := ?ve9) rfl (by kernel_rfl) (by kernel_rfl) (by kernel_rfl) (fun _ _ _ h => h) hH rfl ?ye9 ?re9
    case ye9 => intro W hSw; go_simp; try with_reducible rfl
    try simp only [Act.put, List.setIfInBounds_toArray, List.set_cons_zero, List.set_cons_succ]
    refine takeH 10 (v := ?ve10) rfl (by kernel_rfl) (by kernel_rfl) (by kernel_rfl) (fun _ _ _ h => h) hH rfl ?ye10 ?re10
    case ye10 => intro W hSw; go_simp; try with_reducible rfl
    try simp only [Act.put, List.setIfInBounds_toArray, List.set_cons_zero, List.set_cons_succ]
    refine wpAnyH_done (by kernel_rfl) ?_ _
    try simp only [Act.put]
    obtain ⟨hbw, k0, k1, gp⟩ := hH
    generalize hW3 : wx.drew = W3 at *
    clear hW3
    have HL3 := Lib.hid (HL1.out.under hbw)
    have HB3 := Lib.hid (below_step HB1.out HB1.out.size hbw)
    have Hb3 := Lib.hid (below_step Hb1.out Hb1.out.size hbw)
    have k2 := (hbw.cell (p := ⟨w.heap.size, 2, none⟩) Hs1.out.lt).trans k2
    have k3 := (hbw.cell (p := ⟨w.heap.size, 3, none⟩) Hs1.out.lt).trans k3
    have sB : Str W3 w.heap.size 25 #[.int .i64 x.r, .int .i64 x.a, .slice pa x.ps.length pc, .int .i64 x.d] := (hbw.block _ Hs1.out.lt).trans Hs1.out
    have hwlt : w.heap.size < W3.heap.size := sB.lt
    have hhi : hi ≤ W3.heap.size := HL3.out.le
    have hbA : Below W3.heap.size W3 (W3.alloc (.cells #[.int .i64 x.r, .int .i64 x.a, .slice pa x.ps.length pc, .int .i64 x.d, .slice none 0 0] 81)) := (Below.refl _ _).alloc (Nat.le_refl _) _
    have sN := Str.new W3 81 #[.int .i64 x.r, .int .i64 x.a, .slice pa x.ps.length pc, .int .i64 x.d, .slice none 0 0]
    have k2A := (sB.alloc (.cells #[.int .i64 x.r, .int .i64 x.a, .slice pa x.ps.length pc, .int .i64 x.d, .slice none 0 0] 81)).cell 2 (v := .slice pa x.ps.length pc) rfl
    have HbA := Lib.hid hbA
    have HsN := Lib.hid sN
    have HsB := Lib.hid sB
    have HmB := Lib.hid (fun k hk => membersB_at (vtx_mem hx) k hk)
    have Hr0 := Lib.hid (fun h0 => vtx_r0 hx h0)
    have HL3' := Lib.hid (fun W (hW : Below W3.heap.size W3 W) => (HL3.out.under hW))
    clear hbA sN sB hbw gp HL1 HB1 Hb1 Hs1 HF
    go_wp2_with fail
    simp only [Bool.not_true]
    go_loopw [41] (fun i wr => ∃ (k : Nat) (qs : List Nat) (pv : Value), k ≤ x.ps.length ∧ i = .int .i64 k ∧ qs.length = k ∧ (∀ j (hj : j < qs.length) (hj' : j < x.ps.length), h (plN (x.r - 1) x.ps[j]) = ptrV qs[j]) ∧ Upto (hasP g x.r x.ps) k ∧ OwnP 73 wr w0.heap.size pv qs ∧ (∀ b, pv.ownBlock = some b → W3.heap.size < b) ∧ Str wr W3.heap.size 81 #[.int .i64 x.r, .int .i64 x.a, .slice pa x.ps.length pc, .int .i64 x.d, pv] ∧ Below W3.heap.size W3 wr) (fun i _ => x.ps.length - (intOf i).toNat)
    case atStart => exact ⟨0, [], _, by omega, rfl, rfl, (fun j hj => by simp at hj), upto_zero _, OwnP.nil _ _ _, (fun b e => by cases e), HsN.out, HbA.out⟩
    case round =>
      obtain ⟨k, qs, pv, hk, rfl, hql, hqs, hup, hown, hpb, sQ, hbel⟩ := hrel
      have HsQ := Lib.hid sQ
      have Hown := Lib.hid hown
      have Hqs := Lib.hid hqs
      have Hup := Lib.hid hup
      have Hbel := Lib.hid hbel
      have Hpb := Lib.hid hpb
      have Hql := Lib.hid hql
      have sB : Str wr w.heap.size 25 #[.int .i64 x.r, .int .i64 x.a, .slice pa x.ps.length pc, .int .i64 x.d] := (hbel.block _ HsB.out.lt).trans HsB.out
      have k0 := sB.cell 0 (v := .int .i64 x.r) rfl
      have k1 := sB.cell 1 (v := .int .i64 x.a) rfl
      have HLr := Lib.hid (HL3'.out wr hbel)
      have hwr : W3.heap.size ≤ wr.heap.size := Hbel.out.size
      clear sQ hown hqs hup hpb hbel sB
      by_cases hlt : k < x.ps.length
      · obtain ⟨b, off, rfl, hbb, hat⟩ := (Hip.out.below (below_step HB3.out HB3.out.size Hbel.out)).cell (by omega)
        have hcp := hat k hlt
        have hm := HmB.out k hlt
        have hn7 := (validB_len Hv.out).2
        have hrn : 1 ≤ x.r := by
          by_cases e : x.r = 0
          · have := Hr0.out e; omega
          · omega
        obtain ⟨o2, hq1, hq2⟩ := run_place G (x.r - 1) x.ps[k] (by omega) (by omega) hm.1 (by omega)
        have gp := HLr.out.cell (plN_bd (r := x.r - 1) (a := x.ps[k]) (by omega) (by omega)).2
        have hw1 : IntKind.i64.wrap (x.r - 1) = x.r - 1 := IntWalk.i64_in _ (by omega)
        have hpl := HLr.out.place Hsrt.out (r := x.r) (ps := x.ps) k hlt (by omega) (by omega) hm.1 (by omega)
        have hst := fun q (he : h (plN (x.r - 1) x.ps[k]) = ptrV q) => qs_step Hqs.out hql hlt he
        have Hst := Lib.hid hst
        clear hat hst hm hn7 Hqs ho1 ho2
        rcases hpl with ⟨q, he, hh⟩ | ⟨he, hh⟩
        · have HstQ := Lib.hid (Hst.out q he)
          clear Hst
          rw [he] at gp
          unfold ptrV at gp
          have Hh := Lib.hid (upto_step Hup.out hh)
          clear he hh Hup
          generalize x.ps[k] = p at *
          go_wp2_with fail
          refine wp_region_held_drew (S := fun w' => Below wr.heap.size wr w' ∧ w'.cell? ⟨w.heap.size, 0, none⟩ = some (.int .i64 x.r) ∧ w'.cell? ⟨G, plN (x.r - 1) p, none⟩ = some (.pointer (some ⟨q, 0, none⟩))) (by kernel_rfl) ⟨(Below.refl _ _).drew, k0, gp⟩ (fun hH => ?_)
          refine takeH 0 (v := ?vf0) rfl (by kernel_rfl) (by kernel_rfl) (by kernel_rfl) (fun _ _ _ h => h) hH rfl ?yf0 ?rf0
          case yf0 => intro W hSw; go_simp; try with_reducible rfl
          try simp only [Act.put, List.setIfInBounds_toArray, List.set_cons_zero, List.set_cons_succ]
          refine takeH 1 (v := ?vf1) rfl (by kernel_rfl) (by kernel_rfl) (by kernel_rfl) (fun _ _ _ h => h) hH rfl ?yf1 ?rf1
          case yf1 => intro W hSw; go_simp; try with_reducible rfl
          try simp only [Act.put, List.setIfInBounds_toArray, List.set_cons_zero, List.set_cons_succ]
          refine takeH 2 (v := ?vf2) rfl (by kernel_rfl) (by kernel_rfl) (by kernel_rfl) (fun _ _ _ h => h) hH rfl ?yf2 ?rf2
          case yf2 => intro W hSw; go_simp; try with_reducible rfl
          try simp only [Act.put, List.setIfInBounds_toArray, List.set_cons_zero, List.set_cons_succ]
          refine takeH 3 (v := ?vf3) rfl (by kernel_rfl) (by kernel_rfl) (by kernel_rfl) (fun _ _ _ h => h) hH rfl ?yf3 ?rf3
          case yf3 => intro W hSw; go_simp; try with_reducible rfl
          try simp only [Act.put, List.setIfInBounds_toArray, List.set_cons_zero, List.set_cons_succ]
          refine takeH 4 (v := ?vf4) rfl (by kernel_rfl) (by kernel_rfl) (by kernel_rfl) (fun _ _ _ h => h) hH rfl ?yf4 ?rf4
          case yf4 => intro W hSw; go_simp; try with_reducible rfl
          try simp only [Act.put, List.setIfInBounds_toArray, List.set_cons_zero, List.set_cons_succ]
          refine takeH 5 (v := ?vf5) rfl (by kernel_rfl) (by kernel_rfl) (by kernel_rfl) (fun _ _ _ h => h) hH rfl ?yf5 ?rf5
          case yf5 => intro W hSw; go_simp; try with_reducible rfl
          try simp only [Act.put, List.setIfInBounds_toArray, List.set_cons_zero, List.set_cons_succ]
          refine takeH 6 (v := ?vf6) rfl (by kernel_rfl) (by kernel_rfl) (by kernel_rfl) (fun _ _ _ h => h) hH rfl ?yf6 ?rf6
          case yf6 => intro W hSw; go_simp; try with_reducible rfl
          try simp only [Act.put, List.setIfInBounds_toArray, List.set_cons_zero, List.set_cons_succ]
          refine takeH 7 (v := ?vf7) rfl (by kernel_rfl) (by kernel_rfl) (by kernel_rfl) (fun _ _ _ h => h) hH rfl ?yf7 ?rf7
          case yf7 => intro W hSw; go_simp; try with_reducible rfl
          try simp only [Act.put, List.setIfInBounds_toArray, List.set_cons_zero, List.set_cons_succ]
          refine takeH 8 (v := ?vf8) rfl (by kernel_rfl) (by kernel_rfl) (by kernel_rfl) (fun _ _ _ h => h) hH rfl ?yf8 ?rf8
          case yf8 => intro W hSw; go_simp; try with_reducible rfl
          try simp only [Act.put, List.setIfInBounds_toArray, List.set_cons_zero, List.set_cons_succ]
          refine takeH 9 (v := ?vf9) rfl (by kernel_rfl) (by kernel_rfl) (by kernel_rfl) (fun _ _ _ h => h) hH rfl ?yf9 ?rf9
          case yf9 => intro W hSw; go_simp; try with_reducible rfl
          try simp only [Act.put, List.setIfInBounds_toArray, List.set_cons_zero, List.set_cons_succ]
          refine takeH 10 (v := ?vf10) rfl (by kernel_rfl) (by kernel_rfl) (by kernel_rfl) (fun _ _ _ h => h) hH rfl ?yf10 ?rf10
          case yf10 => intro W hSw; go_simp; try with_reducible rfl
          try simp only [Act.put, List.setIfInBounds_toArray, List.set_cons_zero, List.set_cons_succ]
          refine wpAnyH_done (by kernel_rfl) ?_ _
          try simp only [Act.put]
          obtain ⟨hbw, _, _⟩ := hH
          have hz5 : wr.heap.size ≤ wr.drew.heap.size := Nat.le_refl _
          have s5 : Str wr.drew W3.heap.size 81 #[.int .i64 x.r, .int .i64 x.a, .slice (some ⟨b, off, none⟩) x.ps.length pc, .int .i64 x.d, pv] := HsQ.out
          have own5 : OwnP 73 wr.drew w0.heap.size pv qs := Hown.out
          have Hb5 := Lib.hid Hbel.out.drew
          generalize wr.drew = W5 at *
          have j4 := s5.cell 4 (v := pv) rfl
          have hQ5 := s5.lt
          have Hs5 := Lib.hid s5
          have Hown5 := Lib.hid own5
          have hB5 : w0.heap.size ≤ W5.heap.size := by have := HB3.out.size; omega
          have hW5 : W3.heap.size ≤ W5.heap.size := by omega
          have hql' : qs.length ≤ 1099511627776 := by omega
          clear s5 own5 hbw gp k0 k1
          go_wp2_with (at_builtin; refine wpList_pushP Try.underlying79 (by kernel_rfl) rfl (.tmp 61) (.tmp 63) rfl w0.heap.size pv qs q rfl Hown5.out hql' rfl hB5 ?_; intro v8 w8 hown8 hg8 hloc8; (obtain ⟨a8, n8, c8, rfl⟩ : ∃ a n c, v8 = Value.slice a n c := (by obtain ⟨a, c, e, _⟩ := hown8.slice; exact ⟨a, _, c, e⟩)); (have t8 := Hs5.out.kept hg8 (fun e => by have := Hpb.out _ e.symm; omega)); (have j4 := t8.cell 4 (v := pv) rfl); (have f4 := t8.frozen 4); (have Ht8 := Lib.hid t8); (have Hown8 := Lib.hid hown8); (have Hloc8 := Lib.hid hloc8); (have Hb8 := Lib.hid (Hb5.out.grown hg8 hW5 (fun g e => by have := Hpb.out g e; omega))); (clear t8 hown8 hloc8 hg8))
          go_roundw
          case rel =>
            have hv8 : ∀ b, (Value.slice a8 n8 c8).ownBlock = some b → W3.heap.size < b := fun b e => by
              rcases Hloc8.out b e with h | h
              · exact Hpb.out b h
              · omega
            refine ⟨k + 1, qs ++ [q], .slice a8 n8 c8, by omega, by go_num, by rw [List.length_append, hql]; rfl, HstQ.out, Hh.out, Hown8.out.kept (grownBy_set _ _ _ _) (.inr fun e => ?_), hv8, Ht8.out.set 4 _, Hb8.out.setCell (p := ⟨W3.heap.size, 4, none⟩) (Nat.le_refl _) _⟩
            have := hv8 _ e; omega
          case measure => simp [intOf]; omega
        · rw [he] at gp
          have Hz := Lib.hid (F1.out (allB_no hlt hh))
          clear he hh Hst
          generalize x.ps[k] = p at *
          go_wp2_with fail
          refine wp_region_held_drew (S := fun w' => Below wr.heap.size wr w' ∧ w'.cell? ⟨w.heap.size, 0, none⟩ = some (.int .i64 x.r) ∧ w'.cell? ⟨G, plN (x.r - 1) p, none⟩ = some (.pointer none)) (by kernel_rfl) ⟨(Below.refl _ _).drew, k0, gp⟩ (fun hH => ?_)
          refine takeH 0 (v := ?vg0) rfl (by kernel_rfl) (by kernel_rfl) (by kernel_rfl) (fun _ _ _ h => h) hH rfl ?yg0 ?rg0
          case yg0 => intro W hSw; go_simp; try with_reducible rfl
          try simp only [Act.put, List.setIfInBounds_toArray, List.set_cons_zero, List.set_cons_succ]
          refine takeH 1 (v := ?vg1) rfl (by kernel_rfl) (by kernel_rfl) (by kernel_rfl) (fun _ _ _ h => h) hH rfl ?yg1 ?rg1
          case yg1 => intro W hSw; go_simp; try with_reducible rfl
          try simp only [Act.put, List.setIfInBounds_toArray, List.set_cons_zero, List.set_cons_succ]
          refine takeH 2 (v := ?vg2) rfl (by kernel_rfl) (by kernel_rfl) (by kernel_rfl) (fun _ _ _ h => h) hH rfl ?yg2 ?rg2
          case yg2 => intro W hSw; go_simp; try with_reducible rfl
          try simp only [Act.put, List.setIfInBounds_toArray, List.set_cons_zero, List.set_cons_succ]
          refine takeH 3 (v := ?vg3) rfl (by kernel_rfl) (by kernel_rfl) (by kernel_rfl) (fun _ _ _ h => h) hH rfl ?yg3 ?rg3
          case yg3 => intro W hSw; go_simp; try with_reducible rfl
          try simp only [Act.put, List.setIfInBounds_toArray, List.set_cons_zero, List.set_cons_succ]
          refine takeH 4 (v := ?vg4) rfl (by kernel_rfl) (by kernel_rfl) (by kernel_rfl) (fun _ _ _ h => h) hH rfl ?yg4 ?rg4
          case yg4 => intro W hSw; go_simp; try with_reducible rfl
          try simp only [Act.put, List.setIfInBounds_toArray, List.set_cons_zero, List.set_cons_succ]
          refine takeH 5 (v := ?vg5) rfl (by kernel_rfl) (by kernel_rfl) (by kernel_rfl) (fun _ _ _ h => h) hH rfl ?yg5 ?rg5
          case yg5 => intro W hSw; go_simp; try with_reducible rfl
          try simp only [Act.put, List.setIfInBounds_toArray, List.set_cons_zero, List.set_cons_succ]
          refine takeH 6 (v := ?vg6) rfl (by kernel_rfl) (by kernel_rfl) (by kernel_rfl) (fun _ _ _ h => h) hH rfl ?yg6 ?rg6
          case yg6 => intro W hSw; go_simp; try with_reducible rfl
          try simp only [Act.put, List.setIfInBounds_toArray, List.set_cons_zero, List.set_cons_succ]
          refine takeH 7 (v := ?vg7) rfl (by kernel_rfl) (by kernel_rfl) (by kernel_rfl) (fun _ _ _ h => h) hH rfl ?yg7 ?rg7
          case yg7 => intro W hSw; go_simp; try with_reducible rfl
          try simp only [Act.put, List.setIfInBounds_toArray, List.set_cons_zero, List.set_cons_succ]
          refine takeH 8 (v := ?vg8) rfl (by kernel_rfl) (by kernel_rfl) (by kernel_rfl) (fun _ _ _ h => h) hH rfl ?yg8 ?rg8
          case yg8 => intro W hSw; go_simp; try with_reducible rfl
          try simp only [Act.put, List.setIfInBounds_toArray, List.set_cons_zero, List.set_cons_succ]
          refine takeH 9 (v := ?vg9) rfl (by kernel_rfl) (by kernel_rfl) (by kernel_rfl) (fun _ _ _ h => h) hH rfl ?yg9 ?rg9
          case yg9 => intro W hSw; go_simp; try with_reducible rfl
          try simp only [Act.put, List.setIfInBounds_toArray, List.set_cons_zero, List.set_cons_succ]
          refine takeH 10 (v := ?vg10) rfl (by kernel_rfl) (by kernel_rfl) (by kernel_rfl) (fun _ _ _ h => h) hH rfl ?yg10 ?rg10
          case yg10 => intro W hSw; go_simp; try with_reducible rfl
          try simp only [Act.put, List.setIfInBounds_toArray, List.set_cons_zero, List.set_cons_succ]
          refine wpAnyH_done (by kernel_rfl) ?_ _
          try simp only [Act.put]
          obtain ⟨hbw, _, _⟩ := hH
          have HL5 := Lib.hid (HLr.out.under hbw)
          have Hb5 := Lib.hid (Hb3.out.trans ((Hbel.out.trans (hbw.mono hwr)).mono (by have := Hb3.out.size; omega)))
          generalize wr.drew = W5 at *
          clear hbw gp k0 k1
          go_wp2
          go_ret
          exact ⟨by rw [Hz.out.1]; rfl, below_rowP Hb5.out _, _, _, by rw [Hz.out.2]; exact HL5.out⟩
      · have Hz := Lib.hid (F2.out (allB_yes Hup.out (by omega)))
        have hq := HLr.out.cell (plN_bd hr1 ha1).2
        have gf : wr.drew.frozen? ⟨G, plN x.r x.a, none⟩ = false := HLr.out.str.frozen _
        have gq : wr.drew.cell? ⟨G, plN x.r x.a, none⟩ = some (h (plN x.r x.a)) := hq
        have hqn : h (plN x.r x.a) = .pointer none := HL3.out.non x.r x.a hr0 hr1 ha0 ha1 Hno.out
        rw [hqn] at gq
        have Hb5 := Lib.hid Hbel.out.drew
        have s5 : Str wr.drew W3.heap.size 81 #[.int .i64 x.r, .int .i64 x.a, .slice pa x.ps.length pc, .int .i64 x.d, pv] := HsQ.out
        have own5 : OwnP 73 wr.drew w0.heap.size pv qs := Hown.out
        have hob : ∀ b, pv.ownBlock = some b → b ≠ G ∧ b < wr.heap.size := fun b e => ⟨by have := Hpb.out b e; have := HL3.out.lt; omega, (own5.lt b e).2⟩
        have HP := Lib.hid (HL3.out.put (below_grown Hb5.out) Hpl.out Hno.out hhi (hi2 := wr.heap.size) s5.lt (by omega) (Nat.le_refl _) s5 Hip.out Hs.out own5 hob (by omega) Hqs.out (g' := insG g x) (fun y => ins_mem))
        have HG := Lib.hid (grownBy_trans (below_rowP (Hb3.out.trans (Hb5.out.mono (by have := Hb3.out.size; omega))) (some G)) (grownBy_set wr.drew G (plN x.r x.a) (ptrV W3.heap.size)))
        clear hq hqn s5 own5 hob Hb5
        go_wp2_with fail
        refine wp_region_L 10 (fun w' => w'.cell? ⟨w.heap.size, 0, none⟩ = some (.int .i64 x.r) ∧ w'.cell? ⟨w.heap.size, 1, none⟩ = some (.int .i64 x.a)) (by kernel_rfl) ⟨k0, k1⟩ (fun hH => ?_)
        refine takeL 0 (v := ?vh0) rfl (by kernel_rfl) (by kernel_rfl) (by kernel_rfl) (by kernel_rfl) (by kernel_rfl) (fun _ _ _ h => h) hH rfl ?yh0 ?rh0
        case yh0 => intro w hSw; go_simp; try with_reducible rfl
        try simp only [Act.put, List.setIfInBounds_toArray, List.set_cons_zero, List.set_cons_succ]
        refine takeL 1 (v := ?vh1) rfl (by kernel_rfl) (by kernel_rfl) (by kernel_rfl) (by kernel_rfl) (by kernel_rfl) (fun _ _ _ h => h) hH rfl ?yh1 ?rh1
        case yh1 => intro w hSw; go_simp; try with_reducible rfl
        try simp only [Act.put, List.setIfInBounds_toArray, List.set_cons_zero, List.set_cons_succ]
        refine takeL 2 (v := ?vh2) rfl (by kernel_rfl) (by kernel_rfl) (by kernel_rfl) (by kernel_rfl) (by kernel_rfl) (fun _ _ _ h => h) hH rfl ?yh2 ?rh2
        case yh2 => intro w hSw; go_simp; try with_reducible rfl
        try simp only [Act.put, List.setIfInBounds_toArray, List.set_cons_zero, List.set_cons_succ]
        refine takeL 3 (v := ?vh3) rfl (by kernel_rfl) (by kernel_rfl) (by kernel_rfl) (by kernel_rfl) (by kernel_rfl) (fun _ _ _ h => h) hH rfl ?yh3 ?rh3
        case yh3 => intro w hSw; go_simp; try with_reducible rfl
        try simp only [Act.put, List.setIfInBounds_toArray, List.set_cons_zero, List.set_cons_succ]
        refine takeL 4 (v := ?vh4) rfl (by kernel_rfl) (by kernel_rfl) (by kernel_rfl) (by kernel_rfl) (by kernel_rfl) (fun _ _ _ h => h) hH rfl ?yh4 ?rh4
        case yh4 => intro w hSw; go_simp; try with_reducible rfl
        try simp only [Act.put, List.setIfInBounds_toArray, List.set_cons_zero, List.set_cons_succ]
        refine takeL 5 (v := ?vh5) rfl (by kernel_rfl) (by kernel_rfl) (by kernel_rfl) (by kernel_rfl) (by kernel_rfl) (fun _ _ _ h => h) hH rfl ?yh5 ?rh5
        case yh5 => intro w hSw; go_simp; try with_reducible rfl
        try simp only [Act.put, List.setIfInBounds_toArray, List.set_cons_zero, List.set_cons_succ]
        refine callL 6 rfl (by kernel_rfl) rfl (fun K hK => ?_)
        go_simp
        refine hK.out _ _ hH (fun hH => ?_)
        clear hK K
        try simp only [Act.put, List.setIfInBounds_toArray, List.set_cons_zero, List.set_cons_succ]
        refine callL 7 rfl (by kernel_rfl) rfl (fun K hK => ?_)
        go_simp
        refine hK.out _ _ hH (fun hH => ?_)
        clear hK K
        try simp only [Act.put, List.setIfInBounds_toArray, List.set_cons_zero, List.set_cons_succ]
        refine callL 8 rfl (by kernel_rfl) rfl (fun K hK => ?_)
        go_simp
        refine hK.out _ _ hH (fun hH => ?_)
        clear hK K
        try simp only [Act.put, List.setIfInBounds_toArray, List.set_cons_zero, List.set_cons_succ]
        refine callL 9 rfl (by kernel_rfl) rfl (fun K hK => ?_)
        go_simp
        refine hK.out _ _ hH (fun hH => ?_)
        clear hK K
        try simp only [Act.put, List.setIfInBounds_toArray, List.set_cons_zero, List.set_cons_succ]
        refine lastL rfl (by kernel_rfl) (by kernel_rfl) (by kernel_rfl) rfl (fun K hK => ?_)
        go_simp
        refine hK.out _ _ ?_
        clear hK K
        try simp only [Act.put, List.setIfInBounds_toArray, List.set_cons_zero, List.set_cons_succ]
        go_wp2
        go_ret
        exact ⟨by rw [Hz.out.1]; rfl, HG.out, _, _, by rw [Hz.out.2]; exact HP.out⟩

end Go.Proofs.Ythnbjdijcpcafaa

/- impl's linking of a list of vertices, by a walk of its text; conditions: lists are shorter than 2^40 (a graph: 2^20). -/
namespace Go.Proofs.Ythnbjdijcpcafaa
open Go.RowKit

/-- The vertex at place k may be added to those ahead of it. -/
def stepB (c : List Int) (g : List Vx) (k : Nat) : Bool := (k == 0 || befB (g.getD (k - 1) vx0) (g.getD k vx0)) && (vtxB c (g.getD k vx0) && parB (g.take k) (g.getD k vx0))
theorem hasP_iff {g : List Vx} {r : Int} {ps : List Int} {k : Nat} : hasP g r ps k = true ↔ ∃ y ∈ g, y.r = r - 1 ∧ y.a = ps.getD k 0 := by
  unfold hasP
  rw [decide_eq_true_iff]
  rcases findZ_cases g (r - 1) (ps.getD k 0) with ⟨e, hn⟩ | ⟨j, hj, e, hs, _⟩
  · rw [e]
    refine ⟨fun h => by omega, fun ⟨y, hy, er, ea⟩ => ?_⟩
    have := hn y hy
    unfold sameRA at this
    simp [er, ea] at this
  · rw [e]
    refine ⟨fun _ => ⟨g[j], List.getElem_mem hj, of_decide_eq_true hs⟩, fun _ => by omega⟩
theorem parB_iff {g : List Vx} {x : Vx} : parB g x = true ↔ ∀ p ∈ x.ps, ∃ y ∈ g, y.r = x.r - 1 ∧ y.a = p := by
  constructor
  · intro h p hp
    obtain ⟨k, hk, rfl⟩ := List.mem_iff_getElem.1 hp
    have := hasP_iff.1 (allB_upto h k hk)
    rwa [getD_get hk] at this
  · intro h
    refine allB_yes (k := x.ps.length) (fun k hk => hasP_iff.2 ?_) (Nat.le_refl _)
    rw [getD_get hk]
    exact h _ (List.getElem_mem hk)
theorem step_srt {c : List Int} {g : List Vx} : ∀ k, k ≤ g.length → Upto (stepB c g) k → Srt (g.take k) ∧ ∀ y ∈ g.take k, vtxB c y = true
  | 0, _, _ => ⟨by simp [Srt], by simp⟩
  | k + 1, hk, h => by
    obtain ⟨h1, h2⟩ := step_srt k (by omega) (fun j hj => h j (by omega))
    have hs := h k (by omega)
    unfold stepB at hs
    rw [getV (show k < g.length by omega)] at hs
    simp only [Bool.and_eq_true, Bool.or_eq_true, beq_iff_eq] at hs
    rw [List.take_succ_eq_append_getElem (show k < g.length by omega)]
    refine ⟨?_, ?_⟩
    · unfold Srt at *
      rw [List.pairwise_append]
      refine ⟨h1, by simp, fun a ha b hb => ?_⟩
      simp at hb; subst hb
      rcases hs.1 with e | e
      · subst e; simp at ha
      · rcases Nat.eq_zero_or_pos k with e0 | e0
        · subst e0; simp at ha
        · rw [getV (show k - 1 < g.length by omega)] at e
          obtain ⟨j, hj, rfl⟩ := List.mem_iff_getElem.1 ha
          rw [List.length_take] at hj
          rw [List.getElem_take]
          by_cases ej : j = k - 1
          · subst ej; exact e
          · have := (List.pairwise_iff_getElem.1 h1) j (k - 1) (by rw [List.length_take]; omega) (by rw [List.length_take]; omega) (by omega)
            rw [List.getElem_take, List.getElem_take] at this
            exact bef_trans this e
    · intro y hy
      rcases List.mem_append.1 hy with hy | hy
      · exact h2 y hy
      · simp at hy; subst hy; exact hs.2.1
theorem graph_step {c : List Int} {g : List Vx} : graphB c g = (validB c && allB (stepB c g) g.length) := by
  rw [Bool.eq_iff_iff]
  constructor
  · intro h
    have hs := graph_sorted h
    unfold graphB at h
    rw [Bool.and_eq_true] at h
    rw [Bool.and_eq_true]
    refine ⟨h.1, allB_yes (k := g.length) (fun k hk => ?_) (Nat.le_refl _)⟩
    have ho := allB_upto h.2 k hk
    unfold okV at ho
    unfold stepB
    simp only [Bool.and_eq_true] at ho ⊢
    refine ⟨ho.2.1, ho.1, parB_iff.2 fun p hp => ?_⟩
    obtain ⟨y, hy, er, ea⟩ := parB_iff.1 ho.2.2 p hp
    obtain ⟨j, hj, rfl⟩ := List.mem_iff_getElem.1 hy
    refine ⟨g[j], ?_, er, ea⟩
    rw [getV hk] at er
    have hjk : j < k := by
      rcases Nat.lt_trichotomy j k with h1 | h1 | h1
      · exact h1
      · subst h1; omega
      · have := befB_iff.1 ((List.pairwise_iff_getElem.1 hs) k j hk hj h1); omega
    exact List.mem_iff_getElem.2 ⟨j, by rw [List.length_take]; omega, by rw [List.getElem_take]⟩
  · intro h
    rw [Bool.and_eq_true] at h
    unfold graphB
    rw [Bool.and_eq_true]
    refine ⟨h.1, allB_yes (k := g.length) (fun k hk => ?_) (Nat.le_refl _)⟩
    have hs := allB_upto h.2 k hk
    unfold stepB at hs
    unfold okV
    simp only [Bool.and_eq_true] at hs ⊢
    refine ⟨hs.2.1, hs.1, parB_iff.2 fun p hp => ?_⟩
    obtain ⟨y, hy, er, ea⟩ := parB_iff.1 hs.2.2 p hp
    exact ⟨y, List.mem_of_mem_take hy, er, ea⟩
/-- What adding the next vertex answers, where it comes behind the one ahead of it. -/
theorem step_add {c : List Int} {g : List Vx} {k : Nat} (hk : k < g.length) (hu : Upto (stepB c g) k) (hb : k = 0 ∨ befB (g.getD (k - 1) vx0) g[k] = true) :
    (stepB c g k = true → adN c (g.take k) g[k] = 0 ∧ adG c (g.take k) g[k] = g.take (k + 1)) ∧ (stepB c g k = false → adN c (g.take k) g[k] ≠ 0) := by
  obtain ⟨h1, h2⟩ := step_srt k (by omega) hu
  have hall : ∀ y ∈ g.take k, befB y g[k] = true := by
    intro y hy
    rcases hb with e | e
    · subst e; simp at hy
    · rcases Nat.eq_zero_or_pos k with e0 | e0
      · subst e0; simp at hy
      · rw [getV (show k - 1 < g.length by omega)] at e
        obtain ⟨j, hj, rfl⟩ := List.mem_iff_getElem.1 hy
        rw [List.length_take] at hj
        rw [List.getElem_take]
        by_cases ej : j = k - 1
        · subst ej; exact e
        · have := (List.pairwise_iff_getElem.1 h1) j (k - 1) (by rw [List.length_take]; omega) (by rw [List.length_take]; omega) (by omega)
          rw [List.getElem_take, List.getElem_take] at this
          exact bef_trans this e
  have hno : ∀ y ∈ g.take k, ¬ (y.r = g[k].r ∧ y.a = g[k].a) := fun y hy e => by
    have := befB_iff.1 (hall y hy); omega
  have hs : stepB c g k = (vtxB c g[k] && parB (g.take k) g[k]) := by
    unfold stepB
    rw [getV hk]
    rcases hb with e | e
    · subst e; rfl
    · rw [e]; simp
  rw [hs]
  cases hv : vtxB c g[k] with
  | false => exact ⟨fun h => by simp at h, fun _ => by rw [(ad_not hv).1]; decide⟩
  | true =>
    obtain ⟨f1, f2⟩ := add_fresh hv hno
    refine ⟨fun h => ?_, fun h => ?_⟩
    · obtain ⟨e1, e2⟩ := f2 (by simpa using h)
      exact ⟨e1, by rw [e2, ins_last hall, List.take_succ_eq_append_getElem hk]⟩
    · rw [(f1 (by simpa using h)).1]; decide

def OfPost (w : World) (mv : Value) (c : List Int) (g : List Vx) : Ending → World → Prop := fun e w' => Below w.heap.size w w' ∧
  ((graphB c g = false ∧ e = .returned (.tuple #[.pointer none, .bool false])) ∨ (graphB c g = true ∧ ∃ G hi h, e = .returned (.tuple #[.pointer (some ⟨G, 0, none⟩), .bool true]) ∧ w.heap.size ≤ G ∧ Lk w w' hi G mv h g))
theorem of_no {w w' : World} {mv : Value} {c : List Int} {g : List Vx} {e : Ending} (h : graphB c g = false) (he : e = .returned (.tuple #[.pointer none, .bool false])) (hb : Below w.heap.size w w') : OfPost w mv c g e w' := ⟨hb, .inl ⟨h, he⟩⟩
theorem of_yes {w w' : World} {mv : Value} {c : List Int} {g : List Vx} {e : Ending} {G hi : Nat} {h : Nat → Value} (hg : graphB c g = true) (he : e = .returned (.tuple #[.pointer (some ⟨G, 0, none⟩), .bool true])) (hb : Below w.heap.size w w') (hG : w.heap.size ≤ G) (hl : Lk w w' hi G mv h g) : OfPost w mv c g e w' :=
  ⟨hb, .inr ⟨hg, G, hi, h, he, hG, hl⟩⟩
set_option maxRecDepth 8000 in
set_option maxHeartbeats 4000000 in
theorem impl_graphOf (ac : Option Addr) (capc : Nat) (c : List Int) (g : List Vx) (v : Value) (fp : List Nat) (w : World) (hn : c.length ≤ 1099511627776) (hbig : g.length ≤ 1048576) (hps : ∀ x ∈ g, x.ps.length ≤ 1099511627776) (hc : IntsAt w ac c) (hg : Gr w g v fp) :
    Calls Try.prog 35 #[.slice ac c.length capc, v] w (OfPost w (.slice ac c.length capc) c g) := by
  obtain ⟨va, vc, rfl⟩ := hg.slice
  have Hcv := Lib.hid (impl_CommitteeValid ac capc c w hn hc)
  cases hv : validB c with
  | false =>
    have hz : graphB c g = false := by unfold graphB; rw [hv]; rfl
    rw [hv] at Hcv
    have Hz := Lib.hid hz; clear hz hc hg hps
    go_enter Try.func35, Try.ntmps35
    go_wp2_with fail
    refine Hcv.out.mono ?_
    rintro e w1 ⟨rfl, rfl⟩
    go_wp2
    go_ret2
    exact of_no Hz.out rfl (Below.refl _ _)
  | true =>
  rw [hv] at Hcv
  have Hres := Lib.hid (show graphB c g = allB (stepB c g) g.length by rw [graph_step, hv]; rfl)
  have hA : Try.zeroCells77.setIfInBounds 0 (.slice ac c.length capc) = arrP 218 fun i => if i = 0 then .slice ac c.length capc else .pointer none := by kernel_rfl
  have hb0 : Below w.heap.size w (w.alloc (.cells (Try.zeroCells77.setIfInBounds 0 (.slice ac c.length capc)) 77)) := (Below.refl _ _).alloc (Nat.le_refl _) _
  have hL0 : Lk w (w.alloc (.cells (Try.zeroCells77.setIfInBounds 0 (.slice ac c.length capc)) 77)) (w.heap.size + 1) w.heap.size (.slice ac c.length capc) (fun i => if i = 0 then .slice ac c.length capc else .pointer none) [] :=
    Lk.new (by rw [hA]; exact Str.new w 77 _) (Nat.le_refl _) (by omega) (by simp)
  clear hA
  have HL0 := Lib.hid hL0; clear hL0
  have HP := Lib.hid hps; clear hps
  have Hc := Lib.hid hc; clear hc
  have Hg := Lib.hid hg; clear hg
  have Hb0 := Lib.hid hb0; clear hb0
  go_enter Try.func35, Try.ntmps35
  go_wp2_with fail
  refine Hcv.out.mono ?_
  rintro e w1 ⟨rfl, rfl⟩
  go_wp2_with fail
  go_loopw [17] (fun i wr => ∃ (k hi : Nat) (h : Nat → Value), k ≤ g.length ∧ i = .int .i64 k ∧ Upto (stepB c g) k ∧ Lk w wr hi w.heap.size (.slice ac c.length capc) h (g.take k) ∧ Below w.heap.size w wr) (fun i _ => g.length - (intOf i).toNat)
  case atStart => exact ⟨0, _, _, by omega, rfl, upto_zero _, HL0.out, Hb0.out⟩
  case round =>
    obtain ⟨k, hi, h, hk, rfl, hup, hL, hbel⟩ := hrel
    have HL := Lib.hid hL; clear hL
    have Hbel := Lib.hid hbel; clear hbel
    have Hup := Lib.hid hup; clear hup
    by_cases hlt : k < g.length
    · obtain ⟨b, off, rfl, hb, hat⟩ := Hg.out.at (by omega)
      obtain ⟨c0, c1, ⟨pa, pc, c2, i2, s2⟩, c3⟩ := hat k hlt
      have hpx := HP.out _ (List.getElem_mem hlt)
      have c0 := (Hbel.out.cell (p := ⟨b, off + k * 4, none⟩) hb).trans c0
      have c1 := (Hbel.out.cell (p := ⟨b, off + k * 4 + 1, none⟩) hb).trans c1
      have c2 := (Hbel.out.cell (p := ⟨b, off + k * 4 + 2, none⟩) hb).trans c2
      have c3 := (Hbel.out.cell (p := ⟨b, off + k * 4 + 3, none⟩) hb).trans c3
      have Hat := Lib.hid hat; clear hat
      have HSA := Lib.hid (step_add hlt Hup.out)
      have hbA : Below wr.heap.size wr (wr.alloc (.cells #[.int .i64 g[k].r, .int .i64 g[k].a, .slice pa g[k].ps.length pc, .int .i64 g[k].d] 25)) := (Below.refl _ _).alloc (Nat.le_refl _) _
      have s0 := Str.new wr 25 #[.int .i64 g[k].r, .int .i64 g[k].a, .slice pa g[k].ps.length pc, .int .i64 g[k].d]
      have k0 := s0.cell 0 (v := .int .i64 g[k].r) rfl
      have k1 := s0.cell 1 (v := .int .i64 g[k].a) rfl
      have k2 := s0.cell 2 (v := .slice pa g[k].ps.length pc) rfl
      have k3 := s0.cell 3 (v := .int .i64 g[k].d) rfl
      have hbwA := below_step Hbel.out Hbel.out.size hbA
      have hsr := step_srt k (by omega) Hup.out
      have hgpt : ∀ y ∈ g.take k, y.ps.length ≤ 1099511627776 := fun y hy => HP.out y (List.mem_of_mem_take hy)
      have HAdd := Lib.hid (fun W (hW : Below (wr.alloc (.cells #[.int .i64 g[k].r, .int .i64 g[k].a, .slice pa g[k].ps.length pc, .int .i64 g[k].d] 25)).heap.size (wr.alloc (.cells #[.int .i64 g[k].r, .int .i64 g[k].a, .slice pa g[k].ps.length pc, .int .i64 g[k].d] 25)) W) =>
        graph_add w W hi w.heap.size ac capc c h (g.take k) g[k] pa pc hv hpx hgpt s2 i2 Hc.out (below_step hbwA hbwA.size hW) ((HL.out.under hbA).under hW) hsr.1 hsr.2)
      have hltB : b < (wr.alloc (.cells #[.int .i64 g[k].r, .int .i64 g[k].a, .slice pa g[k].ps.length pc, .int .i64 g[k].d] 25)).heap.size := Nat.lt_of_lt_of_le hb hbwA.size
      have hlwB : w.heap.size < wr.heap.size := Nat.lt_of_lt_of_le HL.out.lt HL.out.le
      have hwrB : wr.heap.size < (wr.alloc (.cells #[.int .i64 g[k].r, .int .i64 g[k].a, .slice pa g[k].ps.length pc, .int .i64 g[k].d] 25)).heap.size := by simp
      have Hg1 := Lib.hid (show ∀ j, j < g.length → (wr.alloc (.cells #[.int .i64 g[k].r, .int .i64 g[k].a, .slice pa g[k].ps.length pc, .int .i64 g[k].d] 25)).cell? ⟨b, off + j * 4, none⟩ = some (.int .i64 (g.getD j vx0).r) ∧ (wr.alloc (.cells #[.int .i64 g[k].r, .int .i64 g[k].a, .slice pa g[k].ps.length pc, .int .i64 g[k].d] 25)).cell? ⟨b, off + j * 4 + 1, none⟩ = some (.int .i64 (g.getD j vx0).a) ∧ ∃ pa' pc', (wr.alloc (.cells #[.int .i64 g[k].r, .int .i64 g[k].a, .slice pa g[k].ps.length pc, .int .i64 g[k].d] 25)).cell? ⟨b, off + j * 4 + 2, none⟩ = some (.slice pa' (g.getD j vx0).ps.length pc') ∧ (wr.alloc (.cells #[.int .i64 g[k].r, .int .i64 g[k].a, .slice pa g[k].ps.length pc, .int .i64 g[k].d] 25)).cell? ⟨b, off + j * 4 + 3, none⟩ = some (.int .i64 (g.getD j vx0).d) from fun j hj => by
        obtain ⟨d0, d1, ⟨pa', pc', d2, _⟩, d3⟩ := Hat.out j hj
        rw [getV hj]
        exact ⟨(hbwA.cell (p := ⟨b, off + j * 4, none⟩) hb).trans d0, (hbwA.cell (p := ⟨b, off + j * 4 + 1, none⟩) hb).trans d1, pa', pc', (hbwA.cell (p := ⟨b, off + j * 4 + 2, none⟩) hb).trans d2, (hbwA.cell (p := ⟨b, off + j * 4 + 3, none⟩) hb).trans d3⟩)
      have HbwA := Lib.hid hbwA
      have hgk := getV hlt
      have Hgk := Lib.hid hgk
      clear hbA s0 hbwA hsr hgpt i2 s2 hpx Hat hgk HL
      generalize hx : g[k] = x at *
      have Hx := Lib.hid hx; clear hx
      obtain ⟨xr, xa, xp, xd⟩ := x
      dsimp only at *
      go_wp2_with fail
      generalize wr.alloc (.cells #[.int .i64 xr, .int .i64 xa, .slice pa xp.length pc, .int .i64 xd] 25) = wB at *
      clear c0 c1 c2 c3
      have hw1 : IntKind.i64.wrap ((k : Int) - 1) = k - 1 := IntWalk.i64_in _ (by omega)
      by_cases h0 : k = 0
      · have hgt : decide ((0 : Int) < (k : Int)) = false := decide_eq_false (by omega)
        have hgt' : ¬ (0 : Int) < (k : Int) := by omega
        have HS2 := Lib.hid (HSA.out (.inl h0))
        have H0 := Lib.hid h0; clear h0 hw1 HSA
        cases hst : stepB c g k with
        | false =>
          have Hne := Lib.hid (HS2.out.2 hst)
          have Hz := Lib.hid (allB_no hlt hst)
          refine wp_region_held_drew (S := fun w' => wB.grownBy w' (some w.heap.size) ∧ w'.cell? ⟨wr.heap.size, 0, none⟩ = some (.int .i64 xr) ∧ w'.cell? ⟨wr.heap.size, 1, none⟩ = some (.int .i64 xa) ∧ w'.cell? ⟨wr.heap.size, 2, none⟩ = some (.slice pa xp.length pc) ∧ w'.cell? ⟨wr.heap.size, 3, none⟩ = some (.int .i64 xd)) (by kernel_rfl) ⟨below_rowP (Below.refl _ _).drew _, k0, k1, k2, k3⟩ (fun hH => ?_)
          refine takeH 0 (v := ?va0) rfl (by kernel_rfl) (by kernel_rfl) (by kernel_rfl) (fun _ _ _ h => h) hH rfl ?ya0 ?ra0
          case ya0 => intro W hSw; go_simp; try with_reducible rfl
          try simp only [Act.put, List.setIfInBounds_toArray, List.set_cons_zero, List.set_cons_succ]
          refine takeH 1 (v := .bool false) rfl (by kernel_rfl) (by kernel_rfl) (by kernel_rfl) (fun _ _ _ h => h) hH rfl ?ya1 ?ra1
          case ya1 => intro W hSw; go_simp; first | done | simp only [hgt] | omega | (simp; omega)
          try simp only [Act.put, List.setIfInBounds_toArray, List.set_cons_zero, List.set_cons_succ]
          refine takeH 2 (v := ?va2) rfl (by kernel_rfl) (by kernel_rfl) (by kernel_rfl) (fun _ _ _ h => h) hH rfl ?ya2 ?ra2
          case ya2 => intro W hSw; go_simp; try with_reducible rfl
          try simp only [Act.put, List.setIfInBounds_toArray, List.set_cons_zero, List.set_cons_succ]
          refine skipH 3 rfl (by kernel_rfl) (by kernel_rfl) (by kernel_rfl) (fun _ _ _ h => h) hH rfl ?_
          try simp only [Act.put, List.setIfInBounds_toArray, List.set_cons_zero, List.set_cons_succ]
          refine skipH 4 rfl (by kernel_rfl) (by kernel_rfl) (by kernel_rfl) (fun _ _ _ h => h) hH rfl ?_
          try simp only [Act.put, List.setIfInBounds_toArray, List.set_cons_zero, List.set_cons_succ]
          refine skipH 5 rfl (by kernel_rfl) (by kernel_rfl) (by kernel_rfl) (fun _ _ _ h => h) hH rfl ?_
          try simp only [Act.put, List.setIfInBounds_toArray, List.set_cons_zero, List.set_cons_succ]
          refine skipH 6 rfl (by kernel_rfl) (by kernel_rfl) (by kernel_rfl) (fun _ _ _ h => h) hH rfl ?_
          try simp only [Act.put, List.setIfInBounds_toArray, List.set_cons_zero, List.set_cons_succ]
          refine skipH 7 rfl (by kernel_rfl) (by kernel_rfl) (by kernel_rfl) (fun _ _ _ h => h) hH rfl ?_
          try simp only [Act.put, List.setIfInBounds_toArray, List.set_cons_zero, List.set_cons_succ]
          refine skipH 8 rfl (by kernel_rfl) (by kernel_rfl) (by kernel_rfl) (fun _ _ _ h => h) hH rfl ?_
          try simp only [Act.put, List.setIfInBounds_toArray, List.set_cons_zero, List.set_cons_succ]
          refine skipH 9 rfl (by kernel_rfl) (by kernel_rfl) (by kernel_rfl) (fun _ _ _ h => h) hH rfl ?_
          try simp only [Act.put, List.setIfInBounds_toArray, List.set_cons_zero, List.set_cons_succ]
          refine skipH 10 rfl (by kernel_rfl) (by kernel_rfl) (by kernel_rfl) (fun _ _ _ h => h) hH rfl ?_
          try simp only [Act.put, List.setIfInBounds_toArray, List.set_cons_zero, List.set_cons_succ]
          refine takeH 11 (v := ?va11) rfl (by kernel_rfl) (by kernel_rfl) (by kernel_rfl) (fun _ _ _ h => h) hH rfl ?ya11 ?ra11
          case ya11 => intro W hSw; go_simp; try with_reducible rfl
          try simp only [Act.put, List.setIfInBounds_toArray, List.set_cons_zero, List.set_cons_succ]
          refine takeH 12 (v := ?va12) rfl (by kernel_rfl) (by kernel_rfl) (by kernel_rfl) (fun _ _ _ h => h) hH rfl ?ya12 ?ra12
          case ya12 => intro W hSw; go_simp; try with_reducible rfl
          try simp only [Act.put, List.setIfInBounds_toArray, List.set_cons_zero, List.set_cons_succ]
          refine takeH 13 (v := ?va13) rfl (by kernel_rfl) (by kernel_rfl) (by kernel_rfl) (fun _ _ _ h => h) hH rfl ?ya13 ?ra13
          case ya13 => intro W hSw; go_simp; try with_reducible rfl
          try simp only [Act.put, List.setIfInBounds_toArray, List.set_cons_zero, List.set_cons_succ]
          refine takeH 14 (v := ?va14) rfl (by kernel_rfl) (by kernel_rfl) (by kernel_rfl) (fun _ _ _ h => h) hH rfl ?ya14 ?ra14
          case ya14 => intro W hSw; go_simp; try with_reducible rfl
          try simp only [Act.put, List.setIfInBounds_toArray, List.set_cons_zero, List.set_cons_succ]
          refine callH 15 rfl (by kernel_rfl) rfl (fun K hK => ?_)
          go_simp
          go_at_call 36
          refine (HAdd.out _ ((Below.refl _ _).drew)).mono ?_
          rintro e wz ⟨rfl, hgz, _⟩
          generalize hm : adN c (g.take k) ⟨xr, xa, xp, xd⟩ = m at *
          have hm' : (m != 0) = true := by simpa using Hne.out
          clear hm
          refine hK.out _ _ ⟨grownBy_trans hH.1 (hgz), (hgz).cell hH.2.1 (by simp only [ne_eq, Option.some.injEq]; omega), (hgz).cell hH.2.2.1 (by simp only [ne_eq, Option.some.injEq]; omega), (hgz).cell hH.2.2.2.1 (by simp only [ne_eq, Option.some.injEq]; omega), (hgz).cell hH.2.2.2.2 (by simp only [ne_eq, Option.some.injEq]; omega)⟩ (fun hH => ?_)
          clear hK K
          try simp only [Act.put, List.setIfInBounds_toArray, List.set_cons_zero, List.set_cons_succ]
          refine takeH 16 (v := ?va16) rfl (by kernel_rfl) (by kernel_rfl) (by kernel_rfl) (fun _ _ _ h => h) hH rfl ?ya16 ?ra16
          case ya16 => intro W hSw; go_simp; try with_reducible rfl
          try simp only [Act.put, List.setIfInBounds_toArray, List.set_cons_zero, List.set_cons_succ]
          refine takeH 17 (v := ?va17) rfl (by kernel_rfl) (by kernel_rfl) (by kernel_rfl) (fun _ _ _ h => h) hH rfl ?ya17 ?ra17
          case ya17 => intro W hSw; go_simp; try with_reducible rfl
          try simp only [Act.put, List.setIfInBounds_toArray, List.set_cons_zero, List.set_cons_succ]
          refine wpAnyH_done (by kernel_rfl) ?_ _
          try simp only [Act.put]
          have Hend := Lib.hid (HbwA.out.grown hH.1 HbwA.out.size (fun g e => by cases e; exact Nat.le_refl _))
          go_wp2
          go_ret2
          exact of_no (by rw [Hres.out, Hz.out]) rfl Hend.out
        | true =>
          obtain ⟨hz1, hz2⟩ := HS2.out.1 hst
          have Hz1 := Lib.hid hz1
          have Hz2 := Lib.hid hz2
          have Hup1 := Lib.hid (upto_step Hup.out hst)
          clear hz1 hz2
          refine wp_region_held_drew (S := fun w' => wB.grownBy w' (some w.heap.size) ∧ w'.cell? ⟨wr.heap.size, 0, none⟩ = some (.int .i64 xr) ∧ w'.cell? ⟨wr.heap.size, 1, none⟩ = some (.int .i64 xa) ∧ w'.cell? ⟨wr.heap.size, 2, none⟩ = some (.slice pa xp.length pc) ∧ w'.cell? ⟨wr.heap.size, 3, none⟩ = some (.int .i64 xd)) (by kernel_rfl) ⟨below_rowP (Below.refl _ _).drew _, k0, k1, k2, k3⟩ (fun hH => ?_)
          refine takeH 0 (v := ?vb0) rfl (by kernel_rfl) (by kernel_rfl) (by kernel_rfl) (fun _ _ _ h => h) hH rfl ?yb0 ?rb0
          case yb0 => intro W hSw; go_simp; try with_reducible rfl
          try simp only [Act.put, List.setIfInBounds_toArray, List.set_cons_zero, List.set_cons_succ]
          refine takeH 1 (v := .bool false) rfl (by kernel_rfl) (by kernel_rfl) (by kernel_rfl) (fun _ _ _ h => h) hH rfl ?yb1 ?rb1
          case yb1 => intro W hSw; go_simp; first | done | simp only [hgt] | omega | (simp; omega)
          try simp only [Act.put, List.setIfInBounds_toArray, List.set_cons_zero, List.set_cons_succ]
          refine takeH 2 (v := ?vb2) rfl (by kernel_rfl) (by kernel_rfl) (by kernel_rfl) (fun _ _ _ h => h) hH rfl ?yb2 ?rb2
          case yb2 => intro W hSw; go_simp; try with_reducible rfl
          try simp only [Act.put, List.setIfInBounds_toArray, List.set_cons_zero, List.set_cons_succ]
          refine skipH 3 rfl (by kernel_rfl) (by kernel_rfl) (by kernel_rfl) (fun _ _ _ h => h) hH rfl ?_
          try simp only [Act.put, List.setIfInBounds_toArray, List.set_cons_zero, List.set_cons_succ]
          refine skipH 4 rfl (by kernel_rfl) (by kernel_rfl) (by kernel_rfl) (fun _ _ _ h => h) hH rfl ?_
          try simp only [Act.put, List.setIfInBounds_toArray, List.set_cons_zero, List.set_cons_succ]
          refine skipH 5 rfl (by kernel_rfl) (by kernel_rfl) (by kernel_rfl) (fun _ _ _ h => h) hH rfl ?_
          try simp only [Act.put, List.setIfInBounds_toArray, List.set_cons_zero, List.set_cons_succ]
          refine skipH 6 rfl (by kernel_rfl) (by kernel_rfl) (by kernel_rfl) (fun _ _ _ h => h) hH rfl ?_
          try simp only [Act.put, List.setIfInBounds_toArray, List.set_cons_zero, List.set_cons_succ]
          refine skipH 7 rfl (by kernel_rfl) (by kernel_rfl) (by kernel_rfl) (fun _ _ _ h => h) hH rfl ?_
          try simp only [Act.put, List.setIfInBounds_toArray, List.set_cons_zero, List.set_cons_succ]
          refine skipH 8 rfl (by kernel_rfl) (by kernel_rfl) (by kernel_rfl) (fun _ _ _ h => h) hH rfl ?_
          try simp only [Act.put, List.setIfInBounds_toArray, List.set_cons_zero, List.set_cons_succ]
          refine skipH 9 rfl (by kernel_rfl) (by kernel_rfl) (by kernel_rfl) (fun _ _ _ h => h) hH rfl ?_
          try simp only [Act.put, List.setIfInBounds_toArray, List.set_cons_zero, List.set_cons_succ]
          refine skipH 10 rfl (by kernel_rfl) (by kernel_rfl) (by kernel_rfl) (fun _ _ _ h => h) hH rfl ?_
          try simp only [Act.put, List.setIfInBounds_toArray, List.set_cons_zero, List.set_cons_succ]
          refine takeH 11 (v := ?vb11) rfl (by kernel_rfl) (by kernel_rfl) (by kernel_rfl) (fun _ _ _ h => h) hH rfl ?yb11 ?rb11
          case yb11 => intro W hSw; go_simp; try with_reducible rfl
          try simp only [Act.put, List.setIfInBounds_toArray, List.set_cons_zero, List.set_cons_succ]
          refine takeH 12 (v := ?vb12) rfl (by kernel_rfl) (by kernel_rfl) (by kernel_rfl) (fun _ _ _ h => h) hH rfl ?yb12 ?rb12
          case yb12 => intro W hSw; go_simp; try with_reducible rfl
          try simp only [Act.put, List.setIfInBounds_toArray, List.set_cons_zero, List.set_cons_succ]
          refine takeH 13 (v := ?vb13) rfl (by kernel_rfl) (by kernel_rfl) (by kernel_rfl) (fun _ _ _ h => h) hH rfl ?yb13 ?rb13
          case yb13 => intro W hSw; go_simp; try with_reducible rfl
          try simp only [Act.put, List.setIfInBounds_toArray, List.set_cons_zero, List.set_cons_succ]
          refine takeH 14 (v := ?vb14) rfl (by kernel_rfl) (by kernel_rfl) (by kernel_rfl) (fun _ _ _ h => h) hH rfl ?yb14 ?rb14
          case yb14 => intro W hSw; go_simp; try with_reducible rfl
          try simp only [Act.put, List.setIfInBounds_toArray, List.set_cons_zero, List.set_cons_succ]
          refine callH 15 rfl (by kernel_rfl) rfl (fun K hK => ?_)
          go_simp
          go_at_call 36
          refine (HAdd.out _ ((Below.refl _ _).drew)).mono ?_
          rintro e wz ⟨rfl, hgz, hi2, h2, hl2⟩
          rw [Hz1.out]
          rw [Hz2.out] at hl2
          have Hadd := Lib.hid hl2
          clear hl2
          refine hK.out _ _ ⟨grownBy_trans hH.1 (hgz), (hgz).cell hH.2.1 (by simp only [ne_eq, Option.some.injEq]; omega), (hgz).cell hH.2.2.1 (by simp only [ne_eq, Option.some.injEq]; omega), (hgz).cell hH.2.2.2.1 (by simp only [ne_eq, Option.some.injEq]; omega), (hgz).cell hH.2.2.2.2 (by simp only [ne_eq, Option.some.injEq]; omega)⟩ (fun hH => ?_)
          clear hK K
          try simp only [Act.put, List.setIfInBounds_toArray, List.set_cons_zero, List.set_cons_succ]
          refine takeH 16 (v := ?vb16) rfl (by kernel_rfl) (by kernel_rfl) (by kernel_rfl) (fun _ _ _ h => h) hH rfl ?yb16 ?rb16
          case yb16 => intro W hSw; go_simp; try with_reducible rfl
          try simp only [Act.put, List.setIfInBounds_toArray, List.set_cons_zero, List.set_cons_succ]
          refine takeH 17 (v := ?vb17) rfl (by kernel_rfl) (by kernel_rfl) (by kernel_rfl) (fun _ _ _ h => h) hH rfl ?yb17 ?rb17
          case yb17 => intro W hSw; go_simp; try with_reducible rfl
          try simp only [Act.put, List.setIfInBounds_toArray, List.set_cons_zero, List.set_cons_succ]
          refine wpAnyH_done (by kernel_rfl) ?_ _
          try simp only [Act.put]
          have Hend := Lib.hid (HbwA.out.grown hH.1 HbwA.out.size (fun g e => by cases e; exact Nat.le_refl _))
          go_wp2
          go_roundw
          case rel => exact ⟨k + 1, _, _, by omega, by go_num, Hup1.out, Hadd.out, Hend.out⟩
          case measure => simp [intOf]; omega
      · have hgt : decide ((0 : Int) < (k : Int)) = true := decide_eq_true (by omega)
        have hgt' : (0 : Int) < (k : Int) := by omega
        obtain ⟨d0, d1, pa', pc', d2, d3⟩ := Hg1.out (k - 1) (by omega)
        have Hk0 := Lib.hid (show (k == 0) = false by simpa using h0)
        have Hst := Lib.hid (show befB (g.getD (k - 1) vx0) ⟨xr, xa, xp, xd⟩ = false → stepB c g k = false from fun h => by unfold stepB; rw [Hk0.out, Hgk.out, h]; rfl)
        have HS2 := Lib.hid (fun h => HSA.out (.inr h))
        clear Hg1 HSA
        generalize hy : g.getD (k - 1) vx0 = y at *
        have Hy := Lib.hid hy; clear hy
        obtain ⟨yr, ya, yp, yd⟩ := y
        dsimp only at *
        have HB := Lib.hid (vertex_isBefore ⟨yr, ya, yp, yd⟩ ⟨xr, xa, xp, xd⟩ pa' pa pc' pc)
        have e3 : ((k : Int) - 1).toNat = k - 1 := by omega
        have e4 : 0 ≤ (k : Int) - 1 := by omega
        have e5 : 1 ≤ (k : Int) := by omega
        have e6 : (k : Int) - 1 < g.length := by omega
        cases h2 : befB ⟨yr, ya, yp, yd⟩ ⟨xr, xa, xp, xd⟩ with
        | false =>
          rw [h2] at HB
          have Hz := Lib.hid (allB_no hlt (Hst.out h2))
          refine wp_region_held_drew (S := fun w' => wB.grownBy w' (some w.heap.size) ∧ w'.cell? ⟨wr.heap.size, 0, none⟩ = some (.int .i64 xr) ∧ w'.cell? ⟨wr.heap.size, 1, none⟩ = some (.int .i64 xa) ∧ w'.cell? ⟨wr.heap.size, 2, none⟩ = some (.slice pa xp.length pc) ∧ w'.cell? ⟨wr.heap.size, 3, none⟩ = some (.int .i64 xd) ∧ w'.cell? ⟨b, off + (k - 1) * 4, none⟩ = some (.int .i64 yr) ∧ w'.cell? ⟨b, off + (k - 1) * 4 + 1, none⟩ = some (.int .i64 ya) ∧ w'.cell? ⟨b, off + (k - 1) * 4 + 2, none⟩ = some (.slice pa' yp.length pc') ∧ w'.cell? ⟨b, off + (k - 1) * 4 + 3, none⟩ = some (.int .i64 yd)) (by kernel_rfl) ⟨below_rowP (Below.refl _ _).drew _, k0, k1, k2, k3, d0, d1, d2, d3⟩ (fun hH => ?_)
          refine takeH 0 (v := ?vd0) rfl (by kernel_rfl) (by kernel_rfl) (by kernel_rfl) (fun _ _ _ h => h) hH rfl ?yd0 ?rd0
          case yd0 => intro W hSw; go_simp; try with_reducible rfl
          try simp only [Act.put, List.setIfInBounds_toArray, List.set_cons_zero, List.set_cons_succ]
          refine takeH 1 (v := .bool true) rfl (by kernel_rfl) (by kernel_rfl) (by kernel_rfl) (fun _ _ _ h => h) hH rfl ?yd1 ?rd1
          case yd1 => intro W hSw; go_simp; first | done | simp only [hgt] | omega | (simp; omega)
          try simp only [Act.put, List.setIfInBounds_toArray, List.set_cons_zero, List.set_cons_succ]
          refine takeH 2 (v := ?vd2) rfl (by kernel_rfl) (by kernel_rfl) (by kernel_rfl) (fun _ _ _ h => h) hH rfl ?yd2 ?rd2
          case yd2 => intro W hSw; go_simp; try with_reducible rfl
          try simp only [Act.put, List.setIfInBounds_toArray, List.set_cons_zero, List.set_cons_succ]
          refine takeH 3 (v := ?vd3) rfl (by kernel_rfl) (by kernel_rfl) (by kernel_rfl) (fun _ _ _ h => h) hH rfl ?yd3 ?rd3
          case yd3 => intro W hSw; go_simp; try with_reducible rfl
          try simp only [Act.put, List.setIfInBounds_toArray, List.set_cons_zero, List.set_cons_succ]
          refine takeH 4 (v := ?vd4) rfl (by kernel_rfl) (by kernel_rfl) (by kernel_rfl) (fun _ _ _ h => h) hH rfl ?yd4 ?rd4
          case yd4 => intro W hSw; go_simp; try with_reducible rfl
          try simp only [Act.put, List.setIfInBounds_toArray, List.set_cons_zero, List.set_cons_succ]
          refine takeH 5 (v := ?vd5) rfl (by kernel_rfl) (by kernel_rfl) (by kernel_rfl) (fun _ _ _ h => h) hH rfl ?yd5 ?rd5
          case yd5 => intro W hSw; go_simp; try with_reducible rfl
          try simp only [Act.put, List.setIfInBounds_toArray, List.set_cons_zero, List.set_cons_succ]
          refine takeH 6 (v := ?vd6) rfl (by kernel_rfl) (by kernel_rfl) (by kernel_rfl) (fun _ _ _ h => h) hH rfl ?yd6 ?rd6
          case yd6 => intro W hSw; go_simp; try with_reducible rfl
          try simp only [Act.put, List.setIfInBounds_toArray, List.set_cons_zero, List.set_cons_succ]
          refine takeH 7 (v := ?vd7) rfl (by kernel_rfl) (by kernel_rfl) (by kernel_rfl) (fun _ _ _ h => h) hH rfl ?yd7 ?rd7
          case yd7 => intro W hSw; go_simp; try with_reducible rfl
          try simp only [Act.put, List.setIfInBounds_toArray, List.set_cons_zero, List.set_cons_succ]
          refine takeH 8 (v := ?vd8) rfl (by kernel_rfl) (by kernel_rfl) (by kernel_rfl) (fun _ _ _ h => h) hH rfl ?yd8 ?rd8
          case yd8 => intro W hSw; go_simp; try with_reducible rfl
          try simp only [Act.put, List.setIfInBounds_toArray, List.set_cons_zero, List.set_cons_succ]
          refine callH 9 rfl (by kernel_rfl) rfl (fun K hK => ?_)
          go_simp
          go_at_call 59
          refine (HB.out _).mono ?_
          rintro e wx ⟨rfl, hbx⟩
          refine hK.out _ _ ⟨grownBy_trans hH.1 (below_rowP hbx (some w.heap.size)), (below_rowP hbx (some w.heap.size)).cell hH.2.1 (by simp only [ne_eq, Option.some.injEq]; omega), (below_rowP hbx (some w.heap.size)).cell hH.2.2.1 (by simp only [ne_eq, Option.some.injEq]; omega), (below_rowP hbx (some w.heap.size)).cell hH.2.2.2.1 (by simp only [ne_eq, Option.some.injEq]; omega), (below_rowP hbx (some w.heap.size)).cell hH.2.2.2.2.1 (by simp only [ne_eq, Option.some.injEq]; omega), (below_rowP hbx (some w.heap.size)).cell hH.2.2.2.2.2.1 (by simp only [ne_eq, Option.some.injEq]; omega), (below_rowP hbx (some w.heap.size)).cell hH.2.2.2.2.2.2.1 (by simp only [ne_eq, Option.some.injEq]; omega), (below_rowP hbx (some w.heap.size)).cell hH.2.2.2.2.2.2.2.1 (by simp only [ne_eq, Option.some.injEq]; omega), (below_rowP hbx (some w.heap.size)).cell hH.2.2.2.2.2.2.2.2 (by simp only [ne_eq, Option.some.injEq]; omega)⟩ (fun hH => ?_)
          clear hK K
          try simp only [Act.put, List.setIfInBounds_toArray, List.set_cons_zero, List.set_cons_succ]
          refine takeH 10 (v := ?vd10) rfl (by kernel_rfl) (by kernel_rfl) (by kernel_rfl) (fun _ _ _ h => h) hH rfl ?yd10 ?rd10
          case yd10 => intro W hSw; go_simp; try with_reducible rfl
          try simp only [Act.put, List.setIfInBounds_toArray, List.set_cons_zero, List.set_cons_succ]
          refine takeH 11 (v := ?vd11) rfl (by kernel_rfl) (by kernel_rfl) (by kernel_rfl) (fun _ _ _ h => h) hH rfl ?yd11 ?rd11
          case yd11 => intro W hSw; go_simp; try with_reducible rfl
          try simp only [Act.put, List.setIfInBounds_toArray, List.set_cons_zero, List.set_cons_succ]
          refine takeH 12 (v := ?vd12) rfl (by kernel_rfl) (by kernel_rfl) (by kernel_rfl) (fun _ _ _ h => h) hH rfl ?yd12 ?rd12
          case yd12 => intro W hSw; go_simp; try with_reducible rfl
          try simp only [Act.put, List.setIfInBounds_toArray, List.set_cons_zero, List.set_cons_succ]
          refine skipH 13 rfl (by kernel_rfl) (by kernel_rfl) (by kernel_rfl) (fun _ _ _ h => h) hH rfl ?_
          try simp only [Act.put, List.setIfInBounds_toArray, List.set_cons_zero, List.set_cons_succ]
          refine skipH 14 rfl (by kernel_rfl) (by kernel_rfl) (by kernel_rfl) (fun _ _ _ h => h) hH rfl ?_
          try simp only [Act.put, List.setIfInBounds_toArray, List.set_cons_zero, List.set_cons_succ]
          refine skipH 15 rfl (by kernel_rfl) (by kernel_rfl) (by kernel_rfl) (fun _ _ _ h => h) hH rfl ?_
          try simp only [Act.put, List.setIfInBounds_toArray, List.set_cons_zero, List.set_cons_succ]
          refine skipH 16 rfl (by kernel_rfl) (by kernel_rfl) (by kernel_rfl) (fun _ _ _ h => h) hH rfl ?_
          try simp only [Act.put, List.setIfInBounds_toArray, List.set_cons_zero, List.set_cons_succ]
          refine takeH 17 (v := ?vd17) rfl (by kernel_rfl) (by kernel_rfl) (by kernel_rfl) (fun _ _ _ h => h) hH rfl ?yd17 ?rd17
          case yd17 => intro W hSw; go_simp; try with_reducible rfl
          try simp only [Act.put, List.setIfInBounds_toArray, List.set_cons_zero, List.set_cons_succ]
          refine wpAnyH_done (by kernel_rfl) ?_ _
          try simp only [Act.put]
          have Hend := Lib.hid (HbwA.out.grown hH.1 HbwA.out.size (fun g e => by cases e; exact Nat.le_refl _))
          go_wp2
          go_ret2
          exact of_no (by rw [Hres.out, Hz.out]) rfl Hend.out
        | true =>
        rw [h2] at HB
        have HS2 := Lib.hid (HS2.out h2)
        cases hst : stepB c g k with
        | false =>
          have Hne := Lib.hid (HS2.out.2 hst)
          have Hz := Lib.hid (allB_no hlt hst)
          refine wp_region_held_drew (S := fun w' => wB.grownBy w' (some w.heap.size) ∧ w'.cell? ⟨wr.heap.size, 0, none⟩ = some (.int .i64 xr) ∧ w'.cell? ⟨wr.heap.size, 1, none⟩ = some (.int .i64 xa) ∧ w'.cell? ⟨wr.heap.size, 2, none⟩ = some (.slice pa xp.length pc) ∧ w'.cell? ⟨wr.heap.size, 3, none⟩ = some (.int .i64 xd) ∧ w'.cell? ⟨b, off + (k - 1) * 4, none⟩ = some (.int .i64 yr) ∧ w'.cell? ⟨b, off + (k - 1) * 4 + 1, none⟩ = some (.int .i64 ya) ∧ w'.cell? ⟨b, off + (k - 1) * 4 + 2, none⟩ = some (.slice pa' yp.length pc') ∧ w'.cell? ⟨b, off + (k - 1) * 4 + 3, none⟩ = some (.int .i64 yd)) (by kernel_rfl) ⟨below_rowP (Below.refl _ _).drew _, k0, k1, k2, k3, d0, d1, d2, d3⟩ (fun hH => ?_)
          refine takeH 0 (v := ?ve0) rfl (by kernel_rfl) (by kernel_rfl) (by kernel_rfl) (fun _ _ _ h => h) hH rfl ?ye0 ?re0
          case ye0 => intro W hSw; go_simp; try with_reducible rfl
          try simp only [Act.put, List.setIfInBounds_toArray, List.set_cons_zero, List.set_cons_succ]
          refine takeH 1 (v := .bool true) rfl (by kernel_rfl) (by kernel_rfl) (by kernel_rfl) (fun _ _ _ h => h) hH rfl ?ye1 ?re1
          case ye1 => intro W hSw; go_simp; first | done | simp only [hgt] | omega | (simp; omega)
          try simp only [Act.put, List.setIfInBounds_toArray, List.set_cons_zero, List.set_cons_succ]
          refine takeH 2 (v := ?ve2) rfl (by kernel_rfl) (by kernel_rfl) (by kernel_rfl) (fun _ _ _ h => h) hH rfl ?ye2 ?re2
          case ye2 => intro W hSw; go_simp; try with_reducible rfl
          try simp only [Act.put, List.setIfInBounds_toArray, List.set_cons_zero, List.set_cons_succ]
          refine takeH 3 (v := ?ve3) rfl (by kernel_rfl) (by kernel_rfl) (by kernel_rfl) (fun _ _ _ h => h) hH rfl ?ye3 ?re3
          case ye3 => intro W hSw; go_simp; try with_reducible rfl
          try simp only [Act.put, List.setIfInBounds_toArray, List.set_cons_zero, List.set_cons_succ]
          refine takeH 4 (v := ?ve4) rfl (by kernel_rfl) (by kernel_rfl) (by kernel_rfl) (fun _ _ _ h => h) hH rfl ?ye4 ?re4
          case ye4 => intro W hSw; go_simp; try with_reducible rfl
          try simp only [Act.put, List.setIfInBounds_toArray, List.set_cons_zero, List.set_cons_succ]
          refine takeH 5 (v := ?ve5) rfl (by kernel_rfl) (by kernel_rfl) (by kernel_rfl) (fun _ _ _ h => h) hH rfl ?ye5 ?re5
          case ye5 => intro W hSw; go_simp; try with_reducible rfl
          try simp only [Act.put, List.setIfInBounds_toArray, List.set_cons_zero, List.set_cons_succ]
          refine takeH 6 (v := ?ve6) rfl (by kernel_rfl) (by kernel_rfl) (by kernel_rfl) (fun _ _ _ h => h) hH rfl ?ye6 ?re6
          case ye6 => intro W hSw; go_simp; try with_reducible rfl
          try simp only [Act.put, List.setIfInBounds_toArray, List.set_cons_zero, List.set_cons_succ]
          refine takeH 7 (v := ?ve7) rfl (by kernel_rfl) (by kernel_rfl) (by kernel_rfl) (fun _ _ _ h => h) hH rfl ?ye7 ?re7
          case ye7 => intro W hSw; go_simp; try with_reducible rfl
          try simp only [Act.put, List.setIfInBounds_toArray, List.set_cons_zero, List.set_cons_succ]
          refine takeH 8 (v := ?ve8) rfl (by kernel_rfl) (by kernel_rfl) (by kernel_rfl) (fun _ _ _ h => h) hH rfl ?ye8 ?re8
          case ye8 => intro W hSw; go_simp; try with_reducible rfl
          try simp only [Act.put, List.setIfInBounds_toArray, List.set_cons_zero, List.set_cons_succ]
          refine callH 9 rfl (by kernel_rfl) rfl (fun K hK => ?_)
          go_simp
          go_at_call 59
          refine (HB.out _).mono ?_
          rintro e wx ⟨rfl, hbx⟩
          refine hK.out _ _ ⟨grownBy_trans hH.1 (below_rowP hbx (some w.heap.size)), (below_rowP hbx (some w.heap.size)).cell hH.2.1 (by simp only [ne_eq, Option.some.injEq]; omega), (below_rowP hbx (some w.heap.size)).cell hH.2.2.1 (by simp only [ne_eq, Option.some.injEq]; omega), (below_rowP hbx (some w.heap.size)).cell hH.2.2.2.1 (by simp only [ne_eq, Option.some.injEq]; omega), (below_rowP hbx (some w.heap.size)).cell hH.2.2.2.2.1 (by simp only [ne_eq, Option.some.injEq]; omega), (below_rowP hbx (some w.heap.size)).cell hH.2.2.2.2.2.1 (by simp only [ne_eq, Option.some.injEq]; omega), (below_rowP hbx (some w.heap.size)).cell hH.2.2.2.2.2.2.1 (by simp only [ne_eq, Option.some.injEq]; omega), (below_rowP hbx (some w.heap.size)).cell hH.2.2.2.2.2.2.2.1 (by simp only [ne_eq, Option.some.injEq]; omega), (below_rowP hbx (some w.heap.size)).cell hH.2.2.2.2.2.2.2.2 (by simp only [ne_eq, Option.some.injEq]; omega)⟩ (fun hH => ?_)
          clear hK K
          try simp only [Act.put, List.setIfInBounds_toArray, List.set_cons_zero, List.set_cons_succ]
          refine takeH 10 (v := ?ve10) rfl (by kernel_rfl) (by kernel_rfl) (by kernel_rfl) (fun _ _ _ h => h) hH rfl ?ye10 ?re10
          case ye10 => intro W hSw; go_simp; try with_reducible rfl
          try simp only [Act.put, List.setIfInBounds_toArray, List.set_cons_zero, List.set_cons_succ]
          refine takeH 11 (v := ?ve11) rfl (by kernel_rfl) (by kernel_rfl) (by kernel_rfl) (fun _ _ _ h => h) hH rfl ?ye11 ?re11
          case ye11 => intro W hSw; go_simp; try with_reducible rfl
          try simp only [Act.put, List.setIfInBounds_toArray, List.set_cons_zero, List.set_cons_succ]
          refine takeH 12 (v := ?ve12) rfl (by kernel_rfl) (by kernel_rfl) (by kernel_rfl) (fun _ _ _ h => h) hH rfl ?ye12 ?re12
          case ye12 => intro W hSw; go_simp; try with_reducible rfl
          try simp only [Act.put, List.setIfInBounds_toArray, List.set_cons_zero, List.set_cons_succ]
          refine takeH 13 (v := ?ve13) rfl (by kernel_rfl) (by kernel_rfl) (by kernel_rfl) (fun _ _ _ h => h) hH rfl ?ye13 ?re13
          case ye13 => intro W hSw; go_simp; try with_reducible rfl
          try simp only [Act.put, List.setIfInBounds_toArray, List.set_cons_zero, List.set_cons_succ]
          refine takeH 14 (v := ?ve14) rfl (by kernel_rfl) (by kernel_rfl) (by kernel_rfl) (fun _ _ _ h => h) hH rfl ?ye14 ?re14
          case ye14 => intro W hSw; go_simp; try with_reducible rfl
          try simp only [Act.put, List.setIfInBounds_toArray, List.set_cons_zero, List.set_cons_succ]
          refine callH 15 rfl (by kernel_rfl) rfl (fun K hK => ?_)
          go_simp
          go_at_call 36
          refine (HAdd.out _ ((Below.refl _ _).drew.trans hbx)).mono ?_
          rintro e wz ⟨rfl, hgz, _⟩
          generalize hm : adN c (g.take k) ⟨xr, xa, xp, xd⟩ = m at *
          have hm' : (m != 0) = true := by simpa using Hne.out
          clear hm
          refine hK.out _ _ ⟨grownBy_trans hH.1 (hgz), (hgz).cell hH.2.1 (by simp only [ne_eq, Option.some.injEq]; omega), (hgz).cell hH.2.2.1 (by simp only [ne_eq, Option.some.injEq]; omega), (hgz).cell hH.2.2.2.1 (by simp only [ne_eq, Option.some.injEq]; omega), (hgz).cell hH.2.2.2.2.1 (by simp only [ne_eq, Option.some.injEq]; omega), (hgz).cell hH.2.2.2.2.2.1 (by simp only [ne_eq, Option.some.injEq]; omega), (hgz).cell hH.2.2.2.2.2.2.1 (by simp only [ne_eq, Option.some.injEq]; omega), (hgz).cell hH.2.2.2.2.2.2.2.1 (by simp only [ne_eq, Option.some.injEq]; omega), (hgz).cell hH.2.2.2.2.2.2.2.2 (by simp only [ne_eq, Option.some.injEq]; omega)⟩ (fun hH => ?_)
          clear hK K
          try simp only [Act.put, List.setIfInBounds_toArray, List.set_cons_zero, List.set_cons_succ]
          refine takeH 16 (v := ?ve16) rfl (by kernel_rfl) (by kernel_rfl) (by kernel_rfl) (fun _ _ _ h => h) hH rfl ?ye16 ?re16
          case ye16 => intro W hSw; go_simp; try with_reducible rfl
          try simp only [Act.put, List.setIfInBounds_toArray, List.set_cons_zero, List.set_cons_succ]
          refine takeH 17 (v := ?ve17) rfl (by kernel_rfl) (by kernel_rfl) (by kernel_rfl) (fun _ _ _ h => h) hH rfl ?ye17 ?re17
          case ye17 => intro W hSw; go_simp; try with_reducible rfl
          try simp only [Act.put, List.setIfInBounds_toArray, List.set_cons_zero, List.set_cons_succ]
          refine wpAnyH_done (by kernel_rfl) ?_ _
          try simp only [Act.put]
          have Hend := Lib.hid (HbwA.out.grown hH.1 HbwA.out.size (fun g e => by cases e; exact Nat.le_refl _))
          go_wp2
          go_ret2
          exact of_no (by rw [Hres.out, Hz.out]) rfl Hend.out
        | true =>
          obtain ⟨hz1, hz2⟩ := HS2.out.1 hst
          have Hz1 := Lib.hid hz1
          have Hz2 := Lib.hid hz2
          have Hup1 := Lib.hid (upto_step Hup.out hst)
          clear hz1 hz2
          refine wp_region_held_drew (S := fun w' => wB.grownBy w' (some w.heap.size) ∧ w'.cell? ⟨wr.heap.size, 0, none⟩ = some (.int .i64 xr) ∧ w'.cell? ⟨wr.heap.size, 1, none⟩ = some (.int .i64 xa) ∧ w'.cell? ⟨wr.heap.size, 2, none⟩ = some (.slice pa xp.length pc) ∧ w'.cell? ⟨wr.heap.size, 3, none⟩ = some (.int .i64 xd) ∧ w'.cell? ⟨b, off + (k - 1) * 4, none⟩ = some (.int .i64 yr) ∧ w'.cell? ⟨b, off + (k - 1) * 4 + 1, none⟩ = some (.int .i64 ya) ∧ w'.cell? ⟨b, off + (k - 1) * 4 + 2, none⟩ = some (.slice pa' yp.length pc') ∧ w'.cell? ⟨b, off + (k - 1) * 4 + 3, none⟩ = some (.int .i64 yd)) (by kernel_rfl) ⟨below_rowP (Below.refl _ _).drew _, k0, k1, k2, k3, d0, d1, d2, d3⟩ (fun hH => ?_)
          refine takeH 0 (v := ?vf0) rfl (by kernel_rfl) (by kernel_rfl) (by kernel_rfl) (fun _ _ _ h => h) hH rfl ?yf0 ?rf0
          case yf0 => intro W hSw; go_simp; try with_reducible rfl
          try simp only [Act.put, List.setIfInBounds_toArray, List.set_cons_zero, List.set_cons_succ]
          refine takeH 1 (v := .bool true) rfl (by kernel_rfl) (by kernel_rfl) (by kernel_rfl) (fun _ _ _ h => h) hH rfl ?yf1 ?rf1
          case yf1 => intro W hSw; go_simp; first | done | simp only [hgt] | omega | (simp; omega)
          try simp only [Act.put, List.setIfInBounds_toArray, List.set_cons_zero, List.set_cons_succ]
          refine takeH 2 (v := ?vf2) rfl (by kernel_rfl) (by kernel_rfl) (by kernel_rfl) (fun _ _ _ h => h) hH rfl ?yf2 ?rf2
          case yf2 => intro W hSw; go_simp; try with_reducible rfl
          try simp only [Act.put, List.setIfInBounds_toArray, List.set_cons_zero, List.set_cons_succ]
          refine takeH 3 (v := ?vf3) rfl (by kernel_rfl) (by kernel_rfl) (by kernel_rfl) (fun _ _ _ h => h) hH rfl ?yf3 ?rf3
          case yf3 => intro W hSw; go_simp; try with_reducible rfl
          try simp only [Act.put, List.setIfInBounds_toArray, List.set_cons_zero, List.set_cons_succ]
          refine takeH 4 (v := ?vf4) rfl (by kernel_rfl) (by kernel_rfl) (by kernel_rfl) (fun _ _ _ h => h) hH rfl ?yf4 ?rf4
          case yf4 => intro W hSw; go_simp; try with_reducible rfl
          try simp only [Act.put, List.setIfInBounds_toArray, List.set_cons_zero, List.set_cons_succ]
          refine takeH 5 (v := ?vf5) rfl (by kernel_rfl) (by kernel_rfl) (by kernel_rfl) (fun _ _ _ h => h) hH rfl ?yf5 ?rf5
          case yf5 => intro W hSw; go_simp; try with_reducible rfl
          try simp only [Act.put, List.setIfInBounds_toArray, List.set_cons_zero, List.set_cons_succ]
          refine takeH 6 (v := ?vf6) rfl (by kernel_rfl) (by kernel_rfl) (by kernel_rfl) (fun _ _ _ h => h) hH rfl ?yf6 ?rf6
          case yf6 => intro W hSw; go_simp; try with_reducible rfl
          try simp only [Act.put, List.setIfInBounds_toArray, List.set_cons_zero, List.set_cons_succ]
          refine takeH 7 (v := ?vf7) rfl (by kernel_rfl) (by kernel_rfl) (by kernel_rfl) (fun _ _ _ h => h) hH rfl ?yf7 ?rf7
          case yf7 => intro W hSw; go_simp; try with_reducible rfl
          try simp only [Act.put, List.setIfInBounds_toArray, List.set_cons_zero, List.set_cons_succ]
          refine takeH 8 (v := ?vf8) rfl (by kernel_rfl) (by kernel_rfl) (by kernel_rfl) (fun _ _ _ h => h) hH rfl ?yf8 ?rf8
          case yf8 => intro W hSw; go_simp; try with_reducible rfl
          try simp only [Act.put, List.setIfInBounds_toArray, List.set_cons_zero, List.set_cons_succ]
          refine callH 9 rfl (by kernel_rfl) rfl (fun K hK => ?_)
          go_simp
          go_at_call 59
          refine (HB.out _).mono ?_
          rintro e wx ⟨rfl, hbx⟩
          refine hK.out _ _ ⟨grownBy_trans hH.1 (below_rowP hbx (some w.heap.size)), (below_rowP hbx (some w.heap.size)).cell hH.2.1 (by simp only [ne_eq, Option.some.injEq]; omega), (below_rowP hbx (some w.heap.size)).cell hH.2.2.1 (by simp only [ne_eq, Option.some.injEq]; omega), (below_rowP hbx (some w.heap.size)).cell hH.2.2.2.1 (by simp only [ne_eq, Option.some.injEq]; omega), (below_rowP hbx (some w.heap.size)).cell hH.2.2.2.2.1 (by simp only [ne_eq, Option.some.injEq]; omega), (below_rowP hbx (some w.heap.size)).cell hH.2.2.2.2.2.1 (by simp only [ne_eq, Option.some.injEq]; omega), (below_rowP hbx (some w.heap.size)).cell hH.2.2.2.2.2.2.1 (by simp only [ne_eq, Option.some.injEq]; omega), (below_rowP hbx (some w.heap.size)).cell hH.2.2.2.2.2.2.2.1 (by simp only [ne_eq, Option.some.injEq]; omega), (below_rowP hbx (some w.heap.size)).cell hH.2.2.2.2.2.2.2.2 (by simp only [ne_eq, Option.some.injEq]; omega)⟩ (fun hH => ?_)
          clear hK K
          try simp only [Act.put, List.setIfInBounds_toArray, List.set_cons_zero, List.set_cons_succ]
          refine takeH 10 (v := ?vf10) rfl (by kernel_rfl) (by kernel_rfl) (by kernel_rfl) (fun _ _ _ h => h) hH rfl ?yf10 ?rf10
          case yf10 => intro W hSw; go_simp; try with_reducible rfl
          try simp only [Act.put, List.setIfInBounds_toArray, List.set_cons_zero, List.set_cons_succ]
          refine takeH 11 (v := ?vf11) rfl (by kernel_rfl) (by kernel_rfl) (by kernel_rfl) (fun _ _ _ h => h) hH rfl ?yf11 ?rf11
          case yf11 => intro W hSw; go_simp; try with_reducible rfl
          try simp only [Act.put, List.setIfInBounds_toArray, List.set_cons_zero, List.set_cons_succ]
          refine takeH 12 (v := ?vf12) rfl (by kernel_rfl) (by kernel_rfl) (by kernel_rfl) (fun _ _ _ h => h) hH rfl ?yf12 ?rf12
          case yf12 => intro W hSw; go_simp; try with_reducible rfl
          try simp only [Act.put, List.setIfInBounds_toArray, List.set_cons_zero, List.set_cons_succ]
          refine takeH 13 (v := ?vf13) rfl (by kernel_rfl) (by kernel_rfl) (by kernel_rfl) (fun _ _ _ h => h) hH rfl ?yf13 ?rf13
          case yf13 => intro W hSw; go_simp; try with_reducible rfl
          try simp only [Act.put, List.setIfInBounds_toArray, List.set_cons_zero, List.set_cons_succ]
          refine takeH 14 (v := ?vf14) rfl (by kernel_rfl) (by kernel_rfl) (by kernel_rfl) (fun _ _ _ h => h) hH rfl ?yf14 ?rf14
          case yf14 => intro W hSw; go_simp; try with_reducible rfl
          try simp only [Act.put, List.setIfInBounds_toArray, List.set_cons_zero, List.set_cons_succ]
          refine callH 15 rfl (by kernel_rfl) rfl (fun K hK => ?_)
          go_simp
          go_at_call 36
          refine (HAdd.out _ ((Below.refl _ _).drew.trans hbx)).mono ?_
          rintro e wz ⟨rfl, hgz, hi2, h2, hl2⟩
          rw [Hz1.out]
          rw [Hz2.out] at hl2
          have Hadd := Lib.hid hl2
          clear hl2
          refine hK.out _ _ ⟨grownBy_trans hH.1 (hgz), (hgz).cell hH.2.1 (by simp only [ne_eq, Option.some.injEq]; omega), (hgz).cell hH.2.2.1 (by simp only [ne_eq, Option.some.injEq]; omega), (hgz).cell hH.2.2.2.1 (by simp only [ne_eq, Option.some.injEq]; omega), (hgz).cell hH.2.2.2.2.1 (by simp only [ne_eq, Option.some.injEq]; omega), (hgz).cell hH.2.2.2.2.2.1 (by simp only [ne_eq, Option.some.injEq]; omega), (hgz).cell hH.2.2.2.2.2.2.1 (by simp only [ne_eq, Option.some.injEq]; omega), (hgz).cell hH.2.2.2.2.2.2.2.1 (by simp only [ne_eq, Option.some.injEq]; omega), (hgz).cell hH.2.2.2.2.2.2.2.2 (by simp only [ne_eq, Option.some.injEq]; omega)⟩ (fun hH => ?_)
          clear hK K
          try simp only [Act.put, List.setIfInBounds_toArray, List.set_cons_zero, List.set_cons_succ]
          refine takeH 16 (v := ?vf16) rfl (by kernel_rfl) (by kernel_rfl) (by kernel_rfl) (fun _ _ _ h => h) hH rfl ?yf16 ?rf16
          case yf16 => intro W hSw; go_simp; try with_reducible rfl
          try simp only [Act.put, List.setIfInBounds_toArray, List.set_cons_zero, List.set_cons_succ]
          refine takeH 17 (v := ?vf17) rfl (by kernel_rfl) (by kernel_rfl) (by kernel_rfl) (fun _ _ _ h => h) hH rfl ?yf17 ?rf17
          case yf17 => intro W hSw; go_simp; try with_reducible rfl
          try simp only [Act.put, List.setIfInBounds_toArray, List.set_cons_zero, List.set_cons_succ]
          refine wpAnyH_done (by kernel_rfl) ?_ _
          try simp only [Act.put]
          have Hend := Lib.hid (HbwA.out.grown hH.1 HbwA.out.size (fun g e => by cases e; exact Nat.le_refl _))
          go_wp2
          go_roundw
          case rel => exact ⟨k + 1, _, _, by omega, by go_num, Hup1.out, Hadd.out, Hend.out⟩
          case measure => simp [intOf]; omega
    · have hke : k = g.length := by omega
      subst hke
      rw [List.take_length] at HL
      have Hz := Lib.hid (show graphB c g = true by rw [Hres.out]; exact allB_yes Hup.out (Nat.le_refl _))
      go_wp2
      go_ret2
      exact of_yes Hz.out rfl Hbel.out (Nat.le_refl _) HL.out

end Go.Proofs.Ythnbjdijcpcafaa

/- What the laws of graphs say of the reference's answers, and the past of a vertex: it is closed, it ends with the vertex; plain facts on lists, nothing here is walked. -/
namespace Go.Proofs.Ythnbjdijcpcafaa
open Go.RowKit

theorem Own.cap' {E : TypeId} {w : World} {B : Nat} {v : Value} {xs : List Int} (h : Own E w B v xs) : ∀ a n c, v = .slice a n c → xs.length ≤ c := fun a n c e => by subst e; exact h.cap
/-- In a valid graph a vertex is found where it stands. -/
theorem find_uni {c : List Int} {g : List Vx} {r a : Int} (h : graphB c g = true) (k : Nat) (hk : k < g.length) : (g[k].r = r ∧ g[k].a = a) ↔ (k : Int) = findZ g r a := by
  have hs := List.pairwise_iff_getElem.1 (graph_sorted h)
  rcases findZ_cases g r a with ⟨e, hno⟩ | ⟨j, hj, e, hyes, hbef⟩
  · constructor
    · intro hh
      have := hno _ (List.getElem_mem hk)
      exact absurd (decide_eq_true hh) (by unfold sameRA at this; rw [this]; simp)
    · intro hh; omega
  · have hj2 : g[j].r = r ∧ g[j].a = a := of_decide_eq_true hyes
    constructor
    · intro hh
      rcases Nat.lt_trichotomy j k with hlt | heq | hgt
      · have := of_decide_eq_true (hs j k hj hk hlt)
        omega
      · omega
      · have := of_decide_eq_true (hs k j hk hj hgt)
        omega
    · intro hh
      have : k = j := by omega
      subst this
      exact hj2
theorem find_lt (g : List Vx) (r a : Int) : findZ g r a < g.length := by
  rcases findZ_cases g r a with ⟨e, _⟩ | ⟨j, hj, e, _⟩ <;> omega
theorem parent_lt {c : List Int} {g : List Vx} (h : graphB c g = true) {i j : Nat} (hi : i < g.length) {p : Int} (hj : j < g.length) (e : findZ g (g[i].r - 1) p = j) : j < i := by
  have hs := List.pairwise_iff_getElem.1 (graph_sorted h)
  rcases findZ_cases g (g[i].r - 1) p with ⟨e', _⟩ | ⟨j', hj', e', hyes, _⟩
  · omega
  · have : j' = j := by omega
    subst this
    have hr : g[j'].r = g[i].r - 1 := (of_decide_eq_true hyes).1
    rcases Nat.lt_trichotomy j' i with hlt | heq | hgt
    · exact hlt
    · subst heq; omega
    · have := of_decide_eq_true (hs i j' hi hj hgt)
      omega
theorem setB_get (bs : List Bool) (i j : Nat) : (bs.set i true).getD j false = true ↔ bs.getD j false = true ∨ (i = j ∧ j < bs.length) := by
  simp only [List.getD_eq_getElem?_getD, List.getElem?_set]
  by_cases e : i = j
  · subst e
    rw [if_pos rfl]
    by_cases h : i < bs.length
    · rw [if_pos h]; simp [h]
    · rw [if_neg h, List.getElem?_eq_none (by omega)]; simp [h]
  · rw [if_neg e]; simp [e]
theorem foldB_get (g : List Vx) (r : Int) : ∀ (ps : List Int) (bs : List Bool) (j : Nat), (ps.foldl (putB g r) bs).getD j false = true ↔ bs.getD j false = true ∨ ∃ p ∈ ps, (findZ g (r - 1) p).toNat = j ∧ j < bs.length
  | [], bs, j => by simp
  | p :: ps, bs, j => by
    rw [List.foldl_cons, foldB_get g r ps, putB_len]
    unfold putB
    rw [setB_get]
    constructor
    · rintro ((h | h) | ⟨q, hq, h⟩)
      · exact .inl h
      · exact .inr ⟨p, by simp, h⟩
      · exact .inr ⟨q, List.mem_cons_of_mem _ hq, h⟩
    · rintro (h | ⟨q, hq, h⟩)
      · exact .inl (.inl h)
      · rcases List.mem_cons.1 hq with rfl | hq
        · exact .inl (.inr h)
        · exact .inr ⟨q, hq, h⟩
/-- From row n on, the parents of what is marked are marked. -/
def ClosedFrom (g : List Vx) (bs : List Bool) (n : Nat) : Prop := ∀ i (hi : i < g.length), n ≤ i → bs.getD i false = true → ∀ k (hk : k < g[i].ps.length), bs.getD (findZ g (g[i].r - 1) g[i].ps[k]).toNat false = true
theorem fromB_len (g : List Vx) (bs : List Bool) (x : Vx) (i : Nat) : (fromB g bs x i 0).length = bs.length := by
  have hf : ∀ (r : Int) (ps : List Int) (bs : List Bool), (ps.foldl (putB g r) bs).length = bs.length := by
    intro r ps
    induction ps with
    | nil => intro bs; rfl
    | cons p ps ih => intro bs; rw [List.foldl_cons, ih, putB_len]
  unfold fromB
  split
  · exact hf _ _ _
  · rfl
theorem down_closed {c : List Int} {g : List Vx} (h : graphB c g = true) : ∀ (n : Nat) (bs : List Bool), n ≤ g.length → bs.length = g.length → ClosedFrom g bs n → ClosedFrom g (downB g n bs) 0 ∧ (∀ j, bs.getD j false = true → (downB g n bs).getD j false = true) ∧ ∀ j, n ≤ j → (downB g n bs).getD j false = true → bs.getD j false = true
  | 0, bs, _, _, hc => ⟨hc, fun _ h => h, fun _ _ h => h⟩
  | n + 1, bs, hn, hl, hc => by
    have hnl : n < g.length := by omega
    have hpar := fun k hk => graph_parents h n hnl k hk
    rw [downB, getV hnl]
    have hget : ∀ j, (fromB g bs g[n] n 0).getD j false = true ↔ bs.getD j false = true ∨ (bs.getD n false = true ∧ ∃ p ∈ g[n].ps, (findZ g (g[n].r - 1) p).toNat = j ∧ j < bs.length) := by
      intro j
      unfold fromB
      split
      · rename_i hb
        rw [List.drop_zero, foldB_get]
        exact ⟨fun h => h.imp id (fun h => ⟨hb, h⟩), fun h => h.imp id (·.2)⟩
      · rename_i hb
        exact ⟨.inl, fun h => h.elim id fun h => absurd h.1 hb⟩
    have hlow : ∀ j, n ≤ j → (fromB g bs g[n] n 0).getD j false = true → bs.getD j false = true := by
      intro j hj hb
      rcases (hget j).1 hb with hb | ⟨_, p, hp, e, hjl⟩
      · exact hb
      · obtain ⟨k, hk, rfl⟩ := List.mem_iff_getElem.1 hp
        obtain ⟨j', hj', e'⟩ := hpar k hk
        have := parent_lt h hnl hj' e'
        rw [e'] at e
        have : j' = j := by simpa using e
        omega
    have hcl : ClosedFrom g (fromB g bs g[n] n 0) n := by
      intro i hi hni hb k hk
      have hbi := hlow i hni hb
      rcases Nat.eq_or_lt_of_le hni with heq | hlt
      · subst heq
        obtain ⟨j', hj', e'⟩ := hpar k hk
        rw [hget]
        exact .inr ⟨hbi, g[n].ps[k], List.getElem_mem hk, rfl, by rw [e', hl]; simpa using hj'⟩
      · rw [hget]
        exact .inl (hc i hi (by omega) hbi k hk)
    obtain ⟨h1, h2, h3⟩ := down_closed h n _ (by omega) (by rw [fromB_len]; exact hl) hcl
    exact ⟨h1, fun j hb => h2 j ((hget j).2 (.inl hb)), fun j hj hb => hlow j (by omega) (h3 j (by omega) hb)⟩
theorem fromB_get {g : List Vx} {bs : List Bool} {x : Vx} {n : Nat} (j : Nat) : (fromB g bs x n 0).getD j false = true ↔ bs.getD j false = true ∨ (bs.getD n false = true ∧ ∃ p ∈ x.ps, (findZ g (x.r - 1) p).toNat = j ∧ j < bs.length) := by
  unfold fromB
  split
  · rename_i hb
    rw [List.drop_zero, foldB_get]
    exact ⟨fun h => h.imp id (fun h => ⟨hb, h⟩), fun h => h.imp id (·.2)⟩
  · rename_i hb
    exact ⟨.inl, fun h => h.elim id fun h => absurd h.1 hb⟩
/-- What is marked is the vertex itself or a parent of what is marked from row n on. -/
def ProvFrom (g : List Vx) (a : Nat) (bs : List Bool) (n : Nat) : Prop := ∀ j, bs.getD j false = true → j = a ∨ ∃ i, ∃ hi : i < g.length, n ≤ i ∧ bs.getD i false = true ∧ ∃ p ∈ g[i].ps, (findZ g (g[i].r - 1) p).toNat = j
theorem down_prov {g : List Vx} {a : Nat} : ∀ (n : Nat) (bs : List Bool), n ≤ g.length → bs.length = g.length → ProvFrom g a bs n → ProvFrom g a (downB g n bs) 0
  | 0, _, _, _, h => h
  | n + 1, bs, hn, hl, h => by
    have hnl : n < g.length := by omega
    rw [downB, getV hnl]
    refine down_prov n _ (by omega) (by rw [fromB_len]; exact hl) fun j hj => ?_
    rcases (fromB_get j).1 hj with hb | ⟨hb, p, hp, e, _⟩
    · rcases h j hb with e | ⟨i, hi, hni, hbi, hp⟩
      · exact .inl e
      · exact .inr ⟨i, hi, by omega, (fromB_get i).2 (.inl hbi), hp⟩
    · exact .inr ⟨n, hnl, Nat.le_refl _, (fromB_get n).2 (.inl hb), p, hp, e⟩
/-- Each marked vertex but the last has a later marked one that refers to it. -/
theorem past_least {c : List Int} {g : List Vx} (h : graphB c g = true) {a : Nat} (ha : a < g.length) (j : Nat) (hj : (pastB g (a : Int)).getD j false = true) (hne : j ≠ a) :
    ∃ i, ∃ hi : i < g.length, j < i ∧ (pastB g (a : Int)).getD i false = true ∧ ∃ hjl : j < g.length, g[i].r = g[j].r + 1 ∧ g[j].a ∈ g[i].ps := by
  have e : pastB g (a : Int) = downB g (a + 1) ((List.replicate g.length false).set a true) := by unfold pastB; rw [if_neg (by omega)]; rfl
  have hp : ProvFrom g a (pastB g (a : Int)) 0 := by
    rw [e]
    refine down_prov (a + 1) _ (by omega) (by simp) fun j hb => ?_
    rw [setB_get] at hb
    rcases hb with hb | hb
    · rw [List.getD_eq_getElem?_getD, List.getElem?_replicate] at hb
      split at hb <;> simp at hb
    · exact .inl hb.1.symm
  rcases hp j hj with e1 | ⟨i, hi, _, hbi, p, hpm, ej⟩
  · exact absurd e1 hne
  · obtain ⟨k, hk, rfl⟩ := List.mem_iff_getElem.1 hpm
    obtain ⟨j', hj', e'⟩ := graph_parents h i hi k hk
    rw [e'] at ej
    have : j' = j := by simpa using ej
    subst this
    have hlt := parent_lt h hi hj' e'
    rcases findZ_cases g (g[i].r - 1) g[i].ps[k] with ⟨e2, _⟩ | ⟨j2, hj2, e2, hy, _⟩
    · omega
    · have : j2 = j' := by omega
      subst this
      have hy2 : g[j2].r = g[i].r - 1 ∧ g[j2].a = g[i].ps[k] := of_decide_eq_true hy
      exact ⟨i, hi, hlt, hbi, hj2, by omega, by rw [hy2.2]; exact List.getElem_mem hk⟩
/-- The past of a vertex that is there: it is closed, it has the vertex, and none behind it. -/
theorem past_closed {c : List Int} {g : List Vx} (h : graphB c g = true) {a : Nat} (ha : a < g.length) : ClosedFrom g (pastB g a) 0 ∧ (pastB g a).getD a false = true ∧ ∀ j, a < j → (pastB g a).getD j false = false := by
  have e : pastB g (a : Int) = downB g (a + 1) ((List.replicate g.length false).set a true) := by unfold pastB; rw [if_neg (by omega)]; rfl
  have hb : ∀ j, ((List.replicate g.length false).set a true).getD j false = true ↔ a = j := by
    intro j
    rw [setB_get]
    have : (List.replicate g.length false).getD j false = false := by
      rw [List.getD_eq_getElem?_getD, List.getElem?_replicate]
      split <;> rfl
    rw [this]
    simp
    omega
  obtain ⟨h1, h2, h3⟩ := down_closed h (a + 1) ((List.replicate g.length false).set a true) (by omega) (by simp) (fun i hi hni hbi => by have := (hb i).1 hbi; omega)
  rw [e]
  refine ⟨h1, h2 a ((hb a).2 rfl), fun j hj => Bool.eq_false_iff.2 fun hh => ?_⟩
  have := (hb j).1 (h3 j hj hh)
  omega

theorem idxTo_mem {bs : List Bool} {n m : Nat} : (m : Int) ∈ idxTo bs n ↔ m < n ∧ bs.getD m false = true := by
  unfold idxTo
  rw [List.mem_map]
  constructor
  · rintro ⟨k, hk, e⟩
    have : k = m := by have : (k : Int) = m := e; omega
    subst this
    have := List.mem_filter.1 hk
    exact ⟨List.mem_range.1 this.1, this.2⟩
  · rintro ⟨h1, h2⟩
    exact ⟨m, List.mem_filter.2 ⟨List.mem_range.2 h1, h2⟩, rfl⟩
theorem idxTo_all {bs : List Bool} {n : Nat} : ∀ x ∈ idxTo bs n, ∃ m : Nat, x = m ∧ m < n ∧ bs.getD m false = true := by
  intro x hx
  have hx' := hx
  unfold idxTo at hx
  obtain ⟨k, _, rfl⟩ := List.mem_map.1 hx
  exact ⟨k, rfl, idxTo_mem.1 hx'⟩
theorem idxTo_asc (bs : List Bool) (n : Nat) : (idxTo bs n).Pairwise (· < ·) := by
  unfold idxTo
  rw [List.pairwise_map]
  refine (List.Pairwise.filter _ List.pairwise_lt_range).imp fun {a b} h => ?_
  show (a : Int) < b
  omega
/-- What the law of the past asks of the indexes. -/
theorem past_law {c : List Int} {g : List Vx} {r b : Int} {L : List Int} (hL : gpZ c g r b = L) (hne : 0 < L.length) : graphB c g = true ∧ ∃ a : Nat, a < g.length ∧ findZ g r b = a ∧
    (∀ i (hi : i < L.length), ∃ m : Nat, ∃ hm : m < g.length, L[i] = m ∧ ∀ k (hk : k < g[m].ps.length), ∃ j : Nat, j < g.length ∧ findZ g (g[m].r - 1) g[m].ps[k] = j ∧ (j : Int) ∈ L) ∧
    (∀ i (hi : i < L.length), 0 < i → L[i - 1]'(by omega) < L[i]) ∧ L[L.length - 1]'(by omega) = a := by
  cases hgb : graphB c g with
  | false =>
    exfalso
    unfold gpZ at hL
    rw [hgb] at hL
    subst hL
    simp at hne
  | true =>
    have e : idxTo (pastB g (findZ g r b)) g.length = L := by rw [← hL]; unfold gpZ; rw [if_pos hgb]
    rcases findZ_cases g r b with ⟨ez, _⟩ | ⟨a, ha, ez, _⟩
    · exfalso
      rw [ez] at e
      have hall := idxTo_all (bs := pastB g (-1)) (n := g.length)
      rw [e] at hall
      obtain ⟨m, _, _, hm⟩ := hall _ (List.getElem_mem hne)
      unfold pastB at hm
      rw [if_pos (by omega), List.getD_eq_getElem?_getD, List.getElem?_replicate] at hm
      split at hm <;> simp at hm
    · rw [ez] at e
      obtain ⟨h1, h2, h3⟩ := past_closed hgb ha
      have hpw := idxTo_asc (pastB g (a : Int)) g.length
      have hall := idxTo_all (bs := pastB g (a : Int)) (n := g.length)
      have hmem := fun m => idxTo_mem (bs := pastB g (a : Int)) (n := g.length) (m := m)
      rw [e] at hpw hall
      simp only [e] at hmem
      have hasc := List.pairwise_iff_getElem.1 hpw
      refine ⟨rfl, a, ha, ez, fun i hi => ?_, fun i hi h0 => hasc (i - 1) i (by omega) hi (by omega), ?_⟩
      · obtain ⟨m, em, hm, hb⟩ := hall _ (List.getElem_mem hi)
        refine ⟨m, hm, em, fun k hk => ?_⟩
        obtain ⟨j, hj, ej⟩ := graph_parents hgb m hm k hk
        have := h1 m hm (by omega) hb k hk
        rw [ej] at this
        exact ⟨j, hj, ej, (hmem j).2 ⟨hj, this⟩⟩
      · obtain ⟨i, hi, ei⟩ := List.mem_iff_getElem.1 ((hmem a).2 ⟨ha, h2⟩)
        obtain ⟨m, em, hm, hb⟩ := hall _ (List.getElem_mem (show L.length - 1 < L.length by omega))
        have hma : m ≤ a := by
          refine Nat.le_of_not_lt fun hlt => ?_
          rw [h3 m hlt] at hb
          simp at hb
        rcases Nat.eq_or_lt_of_le (show i ≤ L.length - 1 by omega) with hq | hq
        · simp only [← hq, ei]
        · have := hasc i (L.length - 1) hi (by omega) hq
          omega

/-- What P47 asks of the indexes. -/
theorem least_law {c : List Int} {g : List Vx} {r b : Int} {L : List Int} (hL : gpZ c g r b = L) (i : Nat) (hi : i + 1 < L.length) :
    ∃ k, ∃ hk : k < L.length, i < k ∧ ∃ m : Nat, ∃ hm : m < g.length, L[i] = m ∧ ∃ m' : Nat, ∃ hm' : m' < g.length, L[k] = m' ∧ g[m'].r = g[m].r + 1 ∧ g[m].a ∈ g[m'].ps := by
  obtain ⟨hgb, a, ha, hfa, hrow, hasc, hlast⟩ := past_law hL (by omega)
  have e : idxTo (pastB g (a : Int)) g.length = L := by rw [← hL]; unfold gpZ; rw [if_pos hgb, hfa]
  have hpw := idxTo_asc (pastB g (a : Int)) g.length
  have hall := idxTo_all (bs := pastB g (a : Int)) (n := g.length)
  have hmem := fun m => idxTo_mem (bs := pastB g (a : Int)) (n := g.length) (m := m)
  rw [e] at hpw hall
  simp only [e] at hmem
  have hasc := List.pairwise_iff_getElem.1 hpw
  obtain ⟨m, em, hm, hb⟩ := hall _ (List.getElem_mem (show i < L.length by omega))
  have hne : m ≠ a := by
    intro h
    have := hasc i (L.length - 1) (by omega) (by omega) (by omega)
    omega
  obtain ⟨m', hm', hlt, hb', _, h1, h2⟩ := past_least hgb ha m hb hne
  obtain ⟨k, hk, ek⟩ := List.mem_iff_getElem.1 ((hmem m').2 ⟨hm', hb'⟩)
  refine ⟨k, hk, ?_, m, hm, em, m', hm', ek, h1, h2⟩
  rcases Nat.lt_trichotomy i k with h | h | h
  · exact h
  · subst h; omega
  · have := hasc k i hk (by omega) h
    omega

end Go.Proofs.Ythnbjdijcpcafaa

/- What the laws of adding vertices say of the reference's answers; plain facts on lists, nothing here is walked. -/
namespace Go.Proofs.Ythnbjdijcpcafaa
open Go.RowKit

theorem graph_iff {c : List Int} {g : List Vx} : graphB c g = true ↔ validB c = true ∧ Srt g ∧ (∀ y ∈ g, vtxB c y = true) ∧ ∀ y ∈ g, parB g y = true := by
  constructor
  · intro h
    have h2 := h
    unfold graphB at h2
    rw [Bool.and_eq_true] at h2
    refine ⟨h2.1, graph_sorted h, graph_vtx h, fun y hy => ?_⟩
    obtain ⟨k, hk, rfl⟩ := List.mem_iff_getElem.1 hy
    have := allB_upto h2.2 k hk
    unfold okV at this
    simp only [Bool.and_eq_true] at this
    rw [getV hk] at this
    exact this.2.2
  · rintro ⟨h1, h2, h3, h4⟩
    unfold graphB
    rw [Bool.and_eq_true]
    refine ⟨h1, allB_yes (k := g.length) (fun k hk => ?_) (Nat.le_refl _)⟩
    unfold okV
    simp only [Bool.and_eq_true, Bool.or_eq_true, beq_iff_eq]
    rw [getV hk]
    refine ⟨h3 _ (List.getElem_mem hk), ?_, h4 _ (List.getElem_mem hk)⟩
    by_cases e : k = 0
    · exact .inl e
    · refine .inr ?_
      rw [getV (show k - 1 < g.length by omega)]
      exact List.pairwise_iff_getElem.1 h2 (k - 1) k (by omega) hk (by omega)
theorem srt_irr {x : Vx} (h : befB x x = true) : False := by have := befB_iff.1 h; omega
theorem srt_ext : ∀ {a b : List Vx}, Srt a → Srt b → (∀ x, x ∈ a ↔ x ∈ b) → a = b
  | [], [], _, _, _ => rfl
  | [], y :: b, _, _, h => by have := (h y).2 (by simp); cases this
  | x :: a, [], _, _, h => by have := (h x).1 (by simp); cases this
  | x :: a, y :: b, ha, hb, h => by
    obtain ⟨ha1, ha2⟩ := List.pairwise_cons.1 ha
    obtain ⟨hb1, hb2⟩ := List.pairwise_cons.1 hb
    have e : x = y := by
      rcases List.mem_cons.1 ((h x).1 (by simp)) with e | e
      · exact e
      · rcases List.mem_cons.1 ((h y).2 (by simp)) with e2 | e2
        · exact e2.symm
        · exact (srt_irr (bef_trans (ha1 y e2) (hb1 x e))).elim
    subst e
    congr 1
    refine srt_ext ha2 hb2 fun z => ⟨fun hz => ?_, fun hz => ?_⟩
    · rcases List.mem_cons.1 ((h z).1 (List.mem_cons_of_mem _ hz)) with e | e
      · subst e; exact (srt_irr (ha1 z hz)).elim
      · exact e
    · rcases List.mem_cons.1 ((h z).2 (List.mem_cons_of_mem _ hz)) with e | e
      · subst e; exact (srt_irr (hb1 z hz)).elim
      · exact e
theorem add0 {g : List Vx} {x : Vx} (hs : Srt g) (h : addN g x = 0) : (∀ y ∈ g, ¬ (y.r = x.r ∧ y.a = x.a)) ∧ parB g x = true := by
  unfold addN at h
  by_cases h1 : 0 ≤ findZ g x.r x.a
  · rw [if_pos h1] at h; split at h <;> cases h
  · rw [if_neg h1] at h
    refine ⟨fun y hy e => ?_, ?_⟩
    · obtain ⟨k, _, ek, _⟩ := findZ_mem hs hy
      rw [e.1, e.2] at ek; omega
    · by_cases h2 : parB g x = true
      · exact h2
      · rw [if_neg h2] at h; cases h
theorem of_add0 {g : List Vx} {x : Vx} (hn : ∀ y ∈ g, ¬ (y.r = x.r ∧ y.a = x.a)) (hp : parB g x = true) : addN g x = 0 ∧ addG g x = insG g x := addN_done (findZ_none hn) hp
theorem par_ins {g : List Vx} {x y : Vx} (h : parB g y = true) : parB (insG g x) y = true := by
  rw [parB_iff] at h ⊢
  intro p hp
  obtain ⟨z, hz, e⟩ := h p hp
  exact ⟨z, ins_mem.2 (.inl hz), e⟩
/-- The graph with one vertex more is valid. -/
theorem ins_graph {c : List Int} {g : List Vx} {x : Vx} (h : graphB c g = true) (hx : vtxB c x = true) (h0 : addN g x = 0) : graphB c (insG g x) = true := by
  obtain ⟨h1, h2, h3, h4⟩ := graph_iff.1 h
  obtain ⟨hn, hp⟩ := add0 h2 h0
  refine graph_iff.2 ⟨h1, ins_srt h2 hn, fun y hy => ?_, fun y hy => ?_⟩
  · rcases ins_mem.1 hy with hy | rfl
    · exact h3 y hy
    · exact hx
  · rcases ins_mem.1 hy with hy | rfl
    · exact par_ins (h4 y hy)
    · exact par_ins hp
theorem add_at {g : List Vx} {x y : Vx} (hs : Srt g) (hy : y ∈ g) (hr : y.r = x.r) (ha : y.a = x.a) : (addN g x = if sameB y x = true then 1 else 2) ∧ addG g x = g := by
  obtain ⟨k, hk, e, rfl⟩ := findZ_mem hs hy
  rw [hr, ha] at e
  cases h : sameB g[k] x with
  | true => obtain ⟨h1, h2⟩ := addN_same hk e h; exact ⟨h1, h2⟩
  | false => obtain ⟨h1, h2⟩ := addN_twice hk e h; exact ⟨by rw [h1]; rfl, h2⟩
theorem sameB_iff {x y : Vx} : sameB x y = true ↔ x = y := by unfold sameB; exact decide_eq_true_iff
theorem gaN_0 {c : List Int} {g : List Vx} {x : Vx} (h : gaN c g x = 0) : graphB c g = true ∧ vtxB c x = true ∧ addN g x = 0 ∧ gaG c g x = insG g x := by
  unfold gaN at h
  by_cases hb : gaB c g x = true
  · rw [if_pos hb] at h
    have hb2 := hb
    unfold gaB at hb2
    rw [Bool.and_eq_true] at hb2
    refine ⟨hb2.1, hb2.2, h, ?_⟩
    unfold gaG addG
    rw [if_pos hb, if_pos h]
  · rw [if_neg hb] at h; cases h
theorem ga_of {c : List Int} {g : List Vx} {x : Vx} (h1 : graphB c g = true) (h2 : vtxB c x = true) : gaN c g x = addN g x ∧ gaG c g x = addG g x := ga_yes (by unfold gaB; rw [h1, h2]; rfl)
/-- P43: a vertex that has been added is known; another one with its round and author is a second one. -/
theorem twice_law {c : List Int} {g : List Vx} {x u : Vx} (h : gaN c g x = 0) (hu : vtxB c x = true → vtxB c u = true) (hr : u.r = x.r) (ha : u.a = x.a) :
    gaN c (gaG c g x) x = 1 ∧ gaG c (gaG c g x) x = gaG c g x ∧ gaG c (gaG c g x) u = gaG c g x ∧ (gaN c (gaG c g x) u = 2 ∨ u.d = x.d) := by
  obtain ⟨h1, h2, h3, h4⟩ := gaN_0 h
  have hg := ins_graph h1 h2 h3
  have hs := graph_sorted hg
  have hm : x ∈ insG g x := ins_mem.2 (.inr rfl)
  rw [h4]
  obtain ⟨e1, e2⟩ := ga_of hg h2
  obtain ⟨e3, e4⟩ := ga_of hg (hu h2)
  obtain ⟨f1, f2⟩ := add_at (x := x) hs hm rfl rfl
  obtain ⟨f3, f4⟩ := add_at (x := u) hs hm hr.symm ha.symm
  rw [if_pos (sameB_iff.2 rfl)] at f1
  refine ⟨by rw [e1, f1], by rw [e2, f2], by rw [e4, f4], ?_⟩
  by_cases e : x = u
  · exact .inr (by rw [e])
  · rw [if_neg (fun h => e (sameB_iff.1 h))] at f3
    exact .inl (by rw [e3, f3])
/-- P45: two vertices may be added in either order. -/
theorem order_law {c : List Int} {g : List Vx} {v u : Vx} (h : gaN c g v = 0) (h1 : gaN c (gaG c g v) u = 0) (h2 : gaN c g u = 0) : gaN c (gaG c g u) v = 0 ∧ gaG c (gaG c g u) v = gaG c (gaG c g v) u := by
  obtain ⟨a1, a2, a3, a4⟩ := gaN_0 h
  obtain ⟨b1, b2, b3, b4⟩ := gaN_0 h2
  obtain ⟨d1, d2, d3, d4⟩ := gaN_0 h1
  rw [a4] at d3 d4 d1 ⊢
  rw [d4, b4]
  have hgu := ins_graph b1 b2 b3
  have hsv := graph_sorted a1
  obtain ⟨nv, pv⟩ := add0 hsv a3
  obtain ⟨nu, pu⟩ := add0 hsv b3
  obtain ⟨nvu, _⟩ := add0 (graph_sorted d1) d3
  have hne : ¬ (v.r = u.r ∧ v.a = u.a) := nvu v (ins_mem.2 (.inr rfl))
  have nuv : ∀ y ∈ insG g u, ¬ (y.r = v.r ∧ y.a = v.a) := fun y hy e => by
    rcases ins_mem.1 hy with hy | rfl
    · exact nv y hy e
    · exact hne ⟨e.1.symm, e.2.symm⟩
  obtain ⟨f1, f2⟩ := of_add0 nuv (par_ins pv)
  obtain ⟨e1, e2⟩ := ga_of hgu a2
  refine ⟨by rw [e1, f1], ?_⟩
  rw [e2, f2]
  refine srt_ext (ins_srt (ins_srt hsv nu) nuv) (ins_srt (ins_srt hsv nv) nvu) fun x => ?_
  rw [ins_mem, ins_mem, ins_mem, ins_mem]
  constructor
  · rintro ((h | h) | h)
    · exact .inl (.inl h)
    · exact .inr h
    · exact .inl (.inr h)
  · rintro ((h | h) | h)
    · exact .inl (.inl h)
    · exact .inr h
    · exact .inl (.inr h)
/-- P44: what each code says. -/
theorem codes_law {c : List Int} {g : List Vx} {x : Vx} (h0 : gaN c g x ≠ 0) (h4 : gaN c g x ≠ 4) : graphB c g = true ∧ vtxB c x = true ∧ gaG c g x = g ∧
    (gaN c g x = 1 ↔ ∃ k : Nat, ∃ hk : k < g.length, findZ g x.r x.a = k ∧ g[k] = x) ∧ (gaN c g x = 3 ↔ findZ g x.r x.a < 0 ∧ parB g x = false) := by
  have hb : gaB c g x = true := by
    by_cases hb : gaB c g x = true
    · exact hb
    · exact absurd (ga_no (by simpa using hb)).1 h4
  have hb2 := hb
  unfold gaB at hb2
  rw [Bool.and_eq_true] at hb2
  obtain ⟨e1, e2⟩ := ga_of hb2.1 hb2.2
  rw [e1] at h0 ⊢
  refine ⟨hb2.1, hb2.2, by rw [e2]; unfold addG; rw [if_neg h0], ?_, ?_⟩
  · unfold addN
    rcases findZ_cases g x.r x.a with ⟨e, _⟩ | ⟨k, hk, e, _⟩
    · rw [e, if_neg (by omega)]
      constructor
      · intro h; split at h <;> cases h
      · rintro ⟨k, _, h, _⟩; omega
    · rw [e, if_pos (by omega), Int.toNat_natCast, getV hk]
      constructor
      · intro h
        by_cases hs : sameB g[k] x = true
        · exact ⟨k, hk, rfl, sameB_iff.1 hs⟩
        · rw [if_neg hs] at h; cases h
      · rintro ⟨k', hk', e', h'⟩
        have : k' = k := by omega
        subst this
        rw [if_pos (sameB_iff.2 h')]
  · unfold addN
    rcases findZ_cases g x.r x.a with ⟨e, _⟩ | ⟨k, hk, e, _⟩
    · rw [e, if_neg (by omega)]
      cases hp : parB g x with
      | true => simp
      | false => simp
    · rw [e, if_pos (by omega)]
      constructor
      · intro h; split at h <;> cases h
      · rintro ⟨h, _⟩; omega

/-! the past as a list of vertices -/
def psV (c : List Int) (g : List Vx) (r a : Int) : List Vx := (gpZ c g r a).map fun i => g.getD i.toNat vx0
/-- A vertex of a graph's past: the least set that is closed. -/
inductive Past (g : List Vx) (y : Vx) : Vx → Prop
  | it : Past g y y
  | up {x z : Vx} : Past g y x → z ∈ g → z.r = x.r - 1 → z.a ∈ x.ps → Past g y z
theorem past_mem {g : List Vx} {y x : Vx} (hy : y ∈ g) (h : Past g y x) : x ∈ g := by
  cases h with
  | it => exact hy
  | up _ hz _ _ => exact hz
theorem pastB_iff {c : List Int} {g : List Vx} (h : graphB c g = true) {a : Nat} (ha : a < g.length) (j : Nat) (hj : j < g.length) : (pastB g a).getD j false = true ↔ Past g g[a] g[j] := by
  have hs := graph_sorted h
  obtain ⟨hcl, hca, hcb⟩ := past_closed h ha
  have huni : ∀ i j (hi : i < g.length) (hj : j < g.length), g[i] = g[j] → i = j := fun i j hi hj e => by
    rcases Nat.lt_trichotomy i j with h1 | h1 | h1
    · have := List.pairwise_iff_getElem.1 hs i j hi hj h1; rw [e] at this; exact (srt_irr this).elim
    · exact h1
    · have := List.pairwise_iff_getElem.1 hs j i hj hi h1; rw [e] at this; exact (srt_irr this).elim
  constructor
  · suffices hh : ∀ n j, (hj : j < g.length) → g.length - j ≤ n → (pastB g a).getD j false = true → Past g g[a] g[j] from hh (g.length - j) j hj (Nat.le_refl _)
    intro n
    induction n with
    | zero => intro j hj hn; omega
    | succ n ih =>
      intro j hj hn hb
      by_cases e : j = a
      · subst e; exact .it
      · obtain ⟨i, hi, hji, hbi, _, er, ep⟩ := past_least h ha j hb e
        exact .up (ih i hi (by omega) hbi) (List.getElem_mem hj) (by omega) ep
  · intro hp
    suffices hh : ∀ x, Past g g[a] x → ∀ j (hj : j < g.length), g[j] = x → (pastB g a).getD j false = true from hh _ hp j hj rfl
    intro x hx
    induction hx with
    | it => intro j hj e; rw [huni j a hj ha e]; exact hca
    | @up x z hpx hz er ep ih =>
      intro j hj e
      have hxm := past_mem (List.getElem_mem ha) hpx
      obtain ⟨i, hi, rfl⟩ := List.mem_iff_getElem.1 hxm
      have hbi := ih i hi rfl
      obtain ⟨k, hk, ek⟩ := List.mem_iff_getElem.1 ep
      have := hcl i hi (Nat.zero_le _) hbi k hk
      obtain ⟨m, hm, em, em2⟩ := findZ_mem hs hz
      rw [er, ← ek] at em
      rw [em, Int.toNat_natCast, huni m j hm hj (by rw [em2, e])] at this
      exact this
theorem idx_filter (g : List Vx) (P : Nat → Bool) (p : Vx → Bool) (h : ∀ j (hj : j < g.length), P j = p g[j]) : ∀ n, n ≤ g.length → (((List.range n).filter P).map fun i => g.getD i vx0) = (g.take n).filter p := by
  intro n
  induction n with
  | zero => intro _; simp
  | succ n ih =>
    intro hn
    rw [List.range_succ, List.filter_append, List.map_append, ih (by omega), List.take_succ_eq_append_getElem (show n < g.length by omega), List.filter_append]
    congr 1
    have := h n (by omega)
    by_cases hp : p g[n] = true
    · rw [hp] at this
      simp [this, hp, List.getElem?_eq_getElem (show n < g.length by omega)]
    · have hp' : p g[n] = false := by simpa using hp
      rw [hp'] at this
      simp [this, hp']
open Classical in
theorem psV_eq {c : List Int} {g : List Vx} (h : graphB c g = true) {y : Vx} (hy : y ∈ g) : psV c g y.r y.a = g.filter fun z => decide (Past g y z) := by
  have hs := graph_sorted h
  obtain ⟨a, ha, ea, rfl⟩ := findZ_mem hs hy
  unfold psV gpZ idxTo
  rw [if_pos h, ea, List.map_map]
  have := idx_filter g (fun i => (pastB g a).getD i false) (fun z => decide (Past g g[a] z)) (fun j hj => by
    rw [Bool.eq_iff_iff, decide_eq_true_iff]; exact pastB_iff h ha j hj) g.length (Nat.le_refl _)
  rw [List.take_length] at this
  rw [← this]
  apply List.map_congr_left
  intro i _
  simp
theorem past_ins {g : List Vx} {x y z : Vx} (hpar : ∀ w ∈ g, parB g w = true) (hn : ∀ w ∈ g, ¬ (w.r = x.r ∧ w.a = x.a)) (hy : y ∈ g) : Past (insG g x) y z ↔ Past g y z := by
  constructor
  · intro h
    induction h with
    | it => exact .it
    | @up w z hw hz er ep ih =>
      have hwm := past_mem hy ih
      obtain ⟨z', hz', er', ea'⟩ := parB_iff.1 (hpar w hwm) z.a ep
      have hz2 : z ∈ g := by
        rcases ins_mem.1 hz with h | rfl
        · exact h
        · exact (hn z' hz' ⟨by omega, ea'⟩).elim
      exact .up ih hz2 er ep
  · intro h
    induction h with
    | it => exact .it
    | up _ hz er ep ih => exact .up ih (ins_mem.2 (.inl hz)) er ep
theorem past_new {g : List Vx} {x y : Vx} (hpar : ∀ w ∈ g, parB g w = true) (hn : ∀ w ∈ g, ¬ (w.r = x.r ∧ w.a = x.a)) (hy : y ∈ g) : ¬ Past (insG g x) y x := by
  intro h
  have := past_mem hy ((past_ins hpar hn hy).1 h)
  exact hn x this ⟨rfl, rfl⟩
open Classical in
/-- P48: a vertex's past stays as it was. -/
theorem keeps_law {c : List Int} {g : List Vx} {x y : Vx} (h : gaN c g x = 0) (hy : y ∈ g) : psV c (gaG c g x) y.r y.a = psV c g y.r y.a := by
  obtain ⟨h1, h2, h3, h4⟩ := gaN_0 h
  obtain ⟨g1, g2, g3, g4⟩ := graph_iff.1 h1
  obtain ⟨hn, hp⟩ := add0 g2 h3
  have hg := ins_graph h1 h2 h3
  rw [h4, psV_eq hg (ins_mem.2 (.inl hy)), psV_eq h1 hy]
  have e1 : (insG g x).filter (fun z => decide (Past (insG g x) y z)) = (insG g x).filter fun z => decide (Past g y z) := by
    refine List.filter_congr fun z _ => ?_
    rw [Bool.eq_iff_iff, decide_eq_true_iff, decide_eq_true_iff]
    exact past_ins g4 hn hy
  rw [e1]
  unfold insG
  rw [List.filter_append, List.filter_append]
  have e2 : [x].filter (fun z => decide (Past g y z)) = [] := by
    rw [List.filter_eq_nil_iff]
    intro z hz
    simp at hz
    subst hz
    rw [decide_eq_true_iff]
    exact fun hpast => hn z (past_mem hy hpast) ⟨rfl, rfl⟩
  rw [e2, List.append_nil, ← List.filter_append, List.take_append_drop]
theorem gp_range {c : List Int} {g : List Vx} {r a : Int} (i : Nat) (hi : i < (gpZ c g r a).length) : ∃ m : Nat, m < g.length ∧ (gpZ c g r a)[i] = m := by
  have hx := List.getElem_mem hi
  generalize hv : (gpZ c g r a)[i] = v at *
  unfold gpZ at hx
  split at hx
  · obtain ⟨m, e, hm, _⟩ := idxTo_all v hx
    exact ⟨m, hm, e⟩
  · cases hx
theorem keeps_at {c : List Int} {g G : List Vx} {r a : Int} (h : psV c G r a = psV c g r a) : (gpZ c G r a).length = (gpZ c g r a).length ∧
    ∀ i (h1 : i < (gpZ c g r a).length) (h2 : i < (gpZ c G r a).length), ∃ m m' : Nat, ∃ hm : m < g.length, ∃ hm' : m' < G.length, (gpZ c g r a)[i] = m ∧ (gpZ c G r a)[i] = m' ∧ G[m'] = g[m] := by
  unfold psV at h
  have hl : (gpZ c G r a).length = (gpZ c g r a).length := by have := congrArg List.length h; simpa using this
  refine ⟨hl, fun i h1 h2 => ?_⟩
  obtain ⟨m, hm, e⟩ := gp_range i h1
  obtain ⟨m', hm', e'⟩ := gp_range i h2
  refine ⟨m, m', hm, hm', e, e', ?_⟩
  have h3 := congrArg (fun l => l[i]?) h
  simp only [List.getElem?_map, List.getElem?_eq_getElem h1, List.getElem?_eq_getElem h2, Option.map_some, e, e', Int.toNat_natCast, Option.some.injEq] at h3
  rwa [getV hm, getV hm'] at h3
theorem keeps_at' {c : List Int} {g G : List Vx} {r a : Int} {L1 L2 : List Int} (e1 : gpZ c g r a = L1) (e2 : gpZ c G r a = L2) (h : psV c G r a = psV c g r a) : L2.length = L1.length ∧
    ∀ i (h1 : i < L1.length) (h2 : i < L2.length), ∃ m m' : Nat, ∃ hm : m < g.length, ∃ hm' : m' < G.length, L1[i] = m ∧ L2[i] = m' ∧ G[m'] = g[m] := by
  subst e1 e2
  exact keeps_at h
/-- P44: which code, in each case. -/
theorem codes3 {c : List Int} {g : List Vx} {x : Vx} (h0 : gaN c g x ≠ 0) (h4 : gaN c g x ≠ 4) : graphB c g = true ∧ vtxB c x = true ∧ gaG c g x = g ∧
    ((∃ k : Nat, ∃ hk : k < g.length, findZ g x.r x.a = k ∧ sameB g[k] x = true ∧ gaN c g x = 1) ∨ (∃ k : Nat, ∃ hk : k < g.length, findZ g x.r x.a = k ∧ sameB g[k] x = false ∧ gaN c g x = 2) ∨
     (findZ g x.r x.a = -1 ∧ parB g x = false ∧ gaN c g x = 3)) := by
  obtain ⟨h1, h2, h3, _, _⟩ := codes_law h0 h4
  refine ⟨h1, h2, h3, ?_⟩
  obtain ⟨e1, _⟩ := ga_of h1 h2
  rw [e1] at h0 ⊢
  unfold addN at h0 ⊢
  rcases findZ_cases g x.r x.a with ⟨e, _⟩ | ⟨k, hk, e, _⟩
  · rw [e, if_neg (by omega)] at h0 ⊢
    cases hp : parB g x with
    | true => rw [hp] at h0; exact absurd rfl h0
    | false => exact .inr (.inr ⟨rfl, rfl, rfl⟩)
  · rw [e, if_pos (by omega), Int.toNat_natCast, getV hk]
    cases hs : sameB g[k] x with
    | true => exact .inl ⟨k, hk, rfl, hs, rfl⟩
    | false => exact .inr (.inl ⟨k, hk, rfl, hs, rfl⟩)
def misB (g : List Vx) (r : Int) (ps : List Int) (k : Nat) : Bool := !(allB (hasP g r ps) k)
theorem mis_zero (g : List Vx) (r : Int) (ps : List Int) : misB g r ps 0 = false := rfl
theorem mis_succ (g : List Vx) (r : Int) (ps : List Int) (k : Nat) : misB g r ps (k + 1) = (misB g r ps k || !(hasP g r ps k)) := by
  unfold misB allB
  rw [List.range_succ, List.all_append]
  simp
theorem mis_true {g : List Vx} {r : Int} {ps : List Int} {k : Nat} (h : misB g r ps k = true) : misB g r ps (k + 1) = true := by rw [mis_succ, h]; rfl
theorem mis_next {g : List Vx} {r : Int} {ps : List Int} {k : Nat} (h : misB g r ps k = false) (hk : k < ps.length) : misB g r ps (k + 1) = decide (findZ g (r - 1) ps[k] < 0) := by
  rw [mis_succ, h, Bool.false_or]
  unfold hasP
  rw [getD_get hk, Bool.eq_iff_iff, Bool.not_eq_true', decide_eq_false_iff_not, decide_eq_true_iff]
  omega

end Go.Proofs.Ythnbjdijcpcafaa

/- What the law of the past's rounds says of the reference's answers; plain facts on lists, nothing here is walked. -/
namespace Go.Proofs.Ythnbjdijcpcafaa
open Go.RowKit

theorem weight_mono {c a b : List Int} (h : validB c = true) (ha : AscP c.length a) (hb : AscP c.length b) (hs : ∀ x ∈ a, x ∈ b) : weightZ c a ≤ weightZ c b := by
  rw [weight_isum c c.length a ha, weight_isum c c.length b hb]
  refine isum_le fun i hi => ?_
  unfold wAt
  have hp := c_nonneg h i hi
  by_cases h1 : hasB a i = true
  · have h2 : hasB b i = true := by
      unfold hasB at h1 ⊢
      simp at h1 ⊢
      exact hs _ h1
    rw [if_pos h1, if_pos h2]; omega
  · rw [if_neg h1]
    split
    · exact hp
    · omega
theorem quorum_pos {c : List Int} (h : validB c = true) : 1 ≤ quorumZ c := by have := totalZ_bd h; unfold quorumZ; omega
theorem vtx_quo {c : List Int} {x : Vx} (h : vtxB c x = true) (h0 : ¬ x.r = 0) : quorumZ c ≤ weightZ c x.ps := by
  unfold vtxB quoB at h
  simp only [Bool.and_eq_true, if_neg h0, decide_eq_true_eq] at h
  exact h.2.2.2.2
theorem past_rounds {c : List Int} {g : List Vx} (h : graphB c g = true) {y : Vx} (hy : y ∈ g) : ∀ k : Nat, (k : Int) ≤ y.r → ∃ z, Past g y z ∧ z.r = y.r - k := by
  obtain ⟨h1, h2, h3, h4⟩ := graph_iff.1 h
  intro k
  induction k with
  | zero => intro _; exact ⟨y, .it, by omega⟩
  | succ k ih =>
    intro hk
    obtain ⟨z, hz, er⟩ := ih (by omega)
    have hzm := past_mem hy hz
    have hq := vtx_quo (h3 z hzm) (by omega)
    have hp := quorum_pos h1
    match hps : z.ps with
    | [] => rw [hps] at hq; have : weightZ c [] = 0 := rfl; omega
    | p :: ps =>
      obtain ⟨z', hz', er', ea'⟩ := parB_iff.1 (h4 z hzm) p (by rw [hps]; simp)
      exact ⟨z', .up hz hz' er' (by rw [ea', hps]; simp), by omega⟩
open Classical in
/-- P49: in each round before the vertex's, the past's authors are a quorum. -/
theorem rounds_law {c : List Int} {g : List Vx} {r a : Int} (hne : 0 < (gpZ c g r a).length) (q : Int) (h0 : 0 ≤ q) (hq : q < r) : validB c = true ∧ quorumZ c ≤ mwZ c (authZ (psV c g r a) q) := by
  have hgb : graphB c g = true := by
    cases hgb : graphB c g with
    | true => rfl
    | false => exfalso; unfold gpZ at hne; rw [hgb] at hne; simp at hne
  obtain ⟨h1, h2, h3, h4⟩ := graph_iff.1 hgb
  obtain ⟨hgb', k, hk, ek, _⟩ := past_law (c := c) (g := g) (r := r) (b := a) rfl hne
  have hs : sameRA r a g[k] = true := by
    rcases findZ_cases g r a with ⟨e, _⟩ | ⟨j, hj, e, hs, _⟩
    · omega
    · have : j = k := by omega
      subst this; exact hs
  obtain ⟨er, ea⟩ := of_decide_eq_true hs
  have hym := List.getElem_mem hk
  generalize g[k] = y at *
  have hps : psV c g r a = g.filter fun z => decide (Past g y z) := by rw [← er, ← ea]; exact psV_eq hgb hym
  refine ⟨h1, ?_⟩
  rw [hps]
  have hsub : authZ (g.filter fun z => decide (Past g y z)) q = ((g.filter (authP q)).filter fun z => decide (Past g y z)).map (·.a) := by
    unfold authZ
    rw [List.filter_filter, List.filter_filter]
    congr 1
    exact List.filter_congr fun z _ => Bool.and_comm _ _
  have hall := ascP_of (auth_members hgb q)
  have hasc : AscP c.length (authZ (g.filter fun z => decide (Past g y z)) q) := by
    rw [hsub]
    have hsl : (((g.filter (authP q)).filter fun z => decide (Past g y z)).map (·.a)).Sublist (authZ g q) := List.Sublist.map _ List.filter_sublist
    exact ⟨hall.1.sublist hsl, fun m hm => hall.2 m (hsl.mem hm)⟩
  rw [mwZ_of h1 hasc]
  obtain ⟨z, hz, ez⟩ := past_rounds hgb hym (r - q - 1).toNat (by rw [er]; omega)
  have ezr : z.r = q + 1 := by rw [ez, er]; omega
  have hzm := past_mem hym hz
  have hzq := vtx_quo (h3 z hzm) (by omega)
  have hzs : AscP c.length z.ps := ascP_of (vtx_mem (h3 z hzm))
  refine Int.le_trans hzq (weight_mono h1 hzs hasc fun p hp => ?_)
  obtain ⟨z', hz', er', ea'⟩ := parB_iff.1 (h4 z hzm) p hp
  unfold authZ
  refine List.mem_map.2 ⟨z', List.mem_filter.2 ⟨List.mem_filter.2 ⟨hz', by rw [decide_eq_true_iff]; exact .up hz hz' er' (by rw [ea']; exact hp)⟩, ?_⟩, ea'⟩
  unfold authP
  exact decide_eq_true (by omega)
theorem psV_at {c : List Int} {g : List Vx} {r a : Int} (i : Nat) (hi : i < (gpZ c g r a).length) : ∃ m : Nat, ∃ hm : m < g.length, ∃ hi' : i < (psV c g r a).length, (gpZ c g r a)[i] = m ∧ (psV c g r a)[i] = g[m] := by
  obtain ⟨m, hm, e⟩ := gp_range i hi
  refine ⟨m, hm, by unfold psV; rw [List.length_map]; exact hi, e, ?_⟩
  unfold psV
  rw [List.getElem_map, e, Int.toNat_natCast, getV hm]
theorem psV_len (c : List Int) (g : List Vx) (r a : Int) : (psV c g r a).length = (gpZ c g r a).length := by unfold psV; rw [List.length_map]
theorem rounds_bd {c : List Int} {g : List Vx} {r a : Int} (hne : 0 < (gpZ c g r a).length) : r ≤ 30 := by
  have hgb : graphB c g = true := by
    cases hgb : graphB c g with
    | true => rfl
    | false => exfalso; unfold gpZ at hne; rw [hgb] at hne; simp at hne
  obtain ⟨_, k, hk, ek, _⟩ := past_law (c := c) (g := g) (r := r) (b := a) rfl hne
  rcases findZ_cases g r a with ⟨e, _⟩ | ⟨j, hj, e, hs, _⟩
  · omega
  · have := (vtx_round (graph_vtx hgb _ (List.getElem_mem hj))).2
    rw [(of_decide_eq_true hs).1] at this
    exact this

end Go.Proofs.Ythnbjdijcpcafaa

/- A list that reads as rows is appended to a list that the call builds; a row's cell of such a list is written over; general steps, nothing here speaks of the program. -/
namespace Go.Proofs.Ythnbjdijcpcafaa
open Go.RowKit

theorem Rd.one {w : World} {d : Dt} {c : Value} {fp : List Nat} (h : Rd w d c fp) : c.oneCell' = true := by
  cases h <;> rfl
/-- The cells of a list of rows, one after the other, and how they read. -/
theorem Rd.rows {w : World} {es : List (List Dt)} {u : Value} {fp : List Nat} (h : Rd w (.l es) u fp) {sz : Nat} (hsz : ∀ e ∈ es, e.length = sz) (hpos : 0 < sz) :
    (u = .slice none 0 0 ∧ es = []) ∨ ∃ (ad : Addr) (c : Nat) (vals : List Value), u = .slice (some ad) es.length c ∧ vals.length = es.length * sz ∧ (∀ j x, vals[j]? = some x → w.cell? (ad.add j) = some x) ∧ (∀ x ∈ vals, x.oneCell' = true) ∧
      ∀ k (hk : k < es.length) j (hj : j < (es[k]).length), ∃ c fp', (vals.drop (k * sz))[j]? = some c ∧ Rd w ((es[k])[j]) c fp' ∧ ∀ r ∈ fp', r ∈ fp := by
  generalize hd : Dt.l es = d at h
  cases h with
  | i n => cases hd
  | b x => cases hd
  | s t => cases hd
  | nil a cap hn =>
    cases hd
    cases a with
    | none => rw [hn rfl]; exact .inl ⟨rfl, rfl⟩
    | some ad => exact .inr ⟨ad, cap, [], rfl, by simp, by simp, by simp, fun k hk => by simp at hk⟩
  | l sz' es' g off cap V F hne hsz' hcap hgl hc hrd =>
    cases hd
    have hss : sz' = sz := by
      have h0 := List.getElem_mem hne
      rw [← hsz' _ h0, hsz _ h0]
    subst hss
    have hlt : ∀ p, p < es.length * sz' → p / sz' < es.length ∧ p % sz' < sz' := fun p hp => ⟨by rw [Nat.div_lt_iff_lt_mul hpos]; exact hp, Nat.mod_lt _ hpos⟩
    have hget : ∀ p, p < es.length * sz' → ((List.range (es.length * sz')).map fun p => V (p / sz') (p % sz'))[p]? = some (V (p / sz') (p % sz')) := by
      intro p hp
      simp [List.getElem?_map, List.getElem?_range hp]
    refine .inr ⟨⟨g, off, none⟩, cap, (List.range (es.length * sz')).map fun p => V (p / sz') (p % sz'), rfl, by simp, fun j x hx => ?_, fun x hx => ?_, fun k hk j hj => ?_⟩
    · have hj : j < es.length * sz' := by
        obtain ⟨h, _⟩ := List.getElem?_eq_some_iff.1 hx
        simpa using h
      rw [hget j hj] at hx
      cases hx
      obtain ⟨h1, h2⟩ := hlt j hj
      have := hc (j / sz') (j % sz') h1 h2
      rw [addr_add', ← this]
      congr 3
      rw [Nat.mul_comm]; exact (Nat.div_add_mod _ _).symm
    · obtain ⟨p, hp, rfl⟩ := List.mem_map.1 hx
      obtain ⟨h1, h2⟩ := hlt p (List.mem_range.1 hp)
      exact (hrd _ _ h1 (by rw [hsz _ (List.getElem_mem h1)]; exact h2)).one
    · have hj' : j < sz' := by rw [← hsz _ (List.getElem_mem hk)]; exact hj
      have hp : k * sz' + j < es.length * sz' := by
        have := Nat.mul_le_mul_right sz' (show k + 1 ≤ es.length by omega)
        rw [Nat.add_mul] at this; omega
      have e1 : (k * sz' + j) / sz' = k := by rw [Nat.add_comm, Nat.add_mul_div_right _ _ hpos, Nat.div_eq_of_lt hj', Nat.zero_add]
      have e2 : (k * sz' + j) % sz' = j := by rw [Nat.add_comm, Nat.add_mul_mod_self_right, Nat.mod_eq_of_lt hj']
      refine ⟨V k j, F k j, ?_, hrd k j hk hj, fun r hr => List.mem_cons_of_mem _ (List.mem_flatMap.2 ⟨k, List.mem_range.2 hk, List.mem_flatMap.2 ⟨j, List.mem_range.2 hj', hr⟩⟩)⟩
      rw [List.getElem?_drop, hget _ hp, e1, e2]
/-- 'append(s, t...)' at an operation: s is being built, t reads as rows in memory that is not the outer row's. -/
theorem op_app_rows {P : Program} {T E : TypeId} {z0 : Value} {sz bytes : Nat} (hsl : P.underlying T = some (.slice E)) (hinf : (P.info? E).map (fun i => (i.zero, i.size, i.bytes)) = some (some z0, sz, bytes)) (hz0 : z0.cells.size = sz) (hpos : 0 < sz) (hby : bytes ≤ 1000)
    (w : World) {o : Oper} {a : Act} {K : Act → World → Prop} {Q : Exit → Act → World → Prop} (s x : Operand) (ho : o.op = .call { callee := .builtin .append, args := #[s, x], argTypes := #[T, T] }) (B : Nat) (v u : Value) (es es2 : List (List Dt)) (fp2 : List Nat)
    (hs : a.eval s = v) (hb : Bld E sz w B v es) (hx : a.eval x = u) (hr : Rd w (.l es2) u fp2) (hsz2 : ∀ e ∈ es2, e.length = sz) (hfp : ∀ r ∈ fp2, B ≤ r ∧ v.ownBlock ≠ some r) (hlen : es.length + es2.length ≤ 1048576) (hB : B ≤ w.heap.size)
    (h : ∀ v' w', Bld E sz w' B v' (es ++ es2) → w.grownBy w' v.ownBlock → (∀ g, v'.ownBlock = some g → v.ownBlock = some g ∨ w.heap.size ≤ g) → K (a.put o.dst v') w') : Oper.wp P o a w K Q := by
  obtain ⟨i, hi, hz, hsz, hbb⟩ := info_parts hinf
  obtain ⟨cs, hown, hc⟩ := hb.row
  have hcl : cs.length = es.length * sz := hown.1
  have run : ∃ v' w' vals, (Builtin.append_ #[T, T] o.type #[v, u]).run P w = .ok v' w' ∧ w'.ownsRow B E sz v' (es.length + es2.length) (cs ++ vals) ∧ w.grownBy w' v.ownBlock ∧ (v'.ownBlock = v.ownBlock ∨ v'.ownBlock = some w.heap.size) ∧
      ∀ k (hk : k < es2.length) j (hj : j < (es2[k]).length), ∃ c fp', (vals.drop (k * sz))[j]? = some c ∧ Rd w ((es2[k])[j]) c fp' ∧ ∀ r ∈ fp', r ∈ fp2 := by
    rcases hr.rows hsz2 hpos with ⟨rfl, rfl⟩ | ⟨ad, c, vals, rfl, hvl, hcells, hone, hrd⟩
    · exact ⟨v, w, [], run_append_owned_none (P := P) (w := w) B T o.type E i sz hsl hi v es.length _ hown, by simpa using hown, ⟨rfl, rfl, rfl, Nat.le_refl _, fun _ _ _ => rfl⟩, .inl rfl, fun k hk => by simp at hk⟩
    · obtain ⟨v', w', h1, h2, h3, _, h4⟩ := run_append_own_at (P := P) w B T o.type E i z0 sz bytes hsl hi hz hsz hbb hz0 hpos v es.length _ hown ad es2.length c vals hvl hcells hone (by unfold maxLen; omega) (by
        have := Nat.mul_le_mul hlen hby; omega) hB
      exact ⟨v', w', vals, h1, h2, h3, h4, hrd⟩
  obtain ⟨v', w', vals, hrun, h1, hg, h4, hrd⟩ := run
  unfold Oper.wp execOp
  simp only [ho, resolve, invoke, builtin, Sem.run_bind, Sem.run_pure, Result.andThen_ok, List.map_toArray, List.map_cons, List.map_nil, hs, hx, hrun]
  have hloc : ∀ g, v'.ownBlock = some g → v.ownBlock = some g ∨ w.heap.size ≤ g := fun g e => by
    rcases h4 with h4 | h4
    · exact .inl (by rw [← h4]; exact e)
    · rw [h4] at e; cases e; exact .inr (Nat.le_refl _)
  refine h v' w' ⟨?_, cs ++ vals, by rw [List.length_append]; exact h1, fun k hk => ?_⟩ hg hloc
  · intro d hd
    rcases List.mem_append.1 hd with hd | hd
    · exact hb.szs d hd
    · exact hsz2 d hd
  · by_cases hke : k < es.length
    · have hkk : (es ++ es2)[k] = es[k] := List.getElem_append_left hke
      rw [hkk]
      have hcr := (hc k hke).step (blk' := v'.ownBlock) hg (fun r e => .inr e) hloc
      intro j hj
      obtain ⟨c, fp, hcc, hrest⟩ := hcr j hj
      refine ⟨c, fp, ?_, hrest⟩
      rw [List.getElem?_drop] at hcc ⊢
      rw [List.getElem?_append_left (by obtain ⟨h, _⟩ := List.getElem?_eq_some_iff.1 hcc; exact h)]
      exact hcc
    · have hk2 : k - es.length < es2.length := by rw [List.length_append] at hk; omega
      have hkk : (es ++ es2)[k] = es2[k - es.length] := List.getElem_append_right (by omega)
      rw [hkk]
      intro j hj
      obtain ⟨c, fp', hcc, hr', hin⟩ := hrd (k - es.length) hk2 j hj
      refine ⟨c, fp', ?_, hr'.grown hg (fun r e hm => (hfp r (hin r hm)).2 e), fun r hm => ⟨(hfp r (hin r hm)).1, fun e => ?_⟩⟩
      · rw [List.getElem?_drop] at hcc ⊢
        have hge : cs.length ≤ k * sz + j := by
          rw [hcl]
          have := Nat.mul_le_mul_right sz (show es.length ≤ k by omega)
          omega
        rw [List.getElem?_append_right hge, hcl]
        have hq : k * sz + j - es.length * sz = (k - es.length) * sz + j := by
          rw [Nat.sub_mul]
          have := Nat.mul_le_mul_right sz (show es.length ≤ k by omega)
          omega
        rw [hq]; exact hcc
      · rcases hloc r e with e' | e'
        · exact (hfp r (hin r hm)).2 e'
        · have := hr'.lt r hm; omega

end Go.Proofs.Ythnbjdijcpcafaa

/- The draw of a graph that is seldom invalid: what is drawn reads as a graph in new memory; by a walk of its text; condition: at most 10^4 picks before. -/
namespace Go.Proofs.Ythnbjdijcpcafaa
open Go.RowKit

theorem members_geG {n : Nat} {ms : List Int} (h : membersB n ms = true) : ∀ k (hk : k < ms.length), (k : Int) ≤ ms[k] := by
  intro k
  induction k with
  | zero => intro hk; have := (okAt_bd hk (allB_upto h 0 hk)).1; omega
  | succ k ih =>
    intro hk
    have h1 := ih (by omega)
    have := (okAt_bd hk (allB_upto h (k + 1) hk)).2.2
    rcases this with h0 | h0
    · omega
    · rw [Nat.add_sub_cancel, getD_get (by omega)] at h0; omega
theorem members_lenG {n : Nat} {ms : List Int} (h : membersB n ms = true) : ms.length ≤ n := by
  rcases Nat.eq_zero_or_pos ms.length with h0 | h0
  · omega
  · have h1 := members_geG h (ms.length - 1) (by omega)
    have h2 := (membersB_at h (ms.length - 1) (by omega)).2
    omega
theorem gOk_ps {c : List Int} {g : List Vx} (h : GOk c g) : ∀ x ∈ g, x.ps.length ≤ c.length := fun x hx => by
  have := h.1 x hx
  unfold vtxB at this
  simp only [Bool.and_eq_true] at this
  exact members_lenG this.2.2.1
theorem ownR_gr {E Ei : TypeId} {sz : Nat} {w : World} {B hi : Nat} {v : Value} {g : List Vx} (h : OwnR E Ei sz w B hi v (g.map Vx.fd)) : ∃ fp, Gr w g v fp ∧ ∀ r ∈ fp, B ≤ r := by
  obtain ⟨fp, hr, hf⟩ := h.bld.rd
  exact ⟨fp, hr, hf⟩
theorem set_mem {g : List Vx} {k : Nat} {x : Vx} {m : Nat} (h : ∀ y ∈ g, y.ps.length ≤ m) (hx : x.ps.length ≤ m) : ∀ y ∈ g.set k x, y.ps.length ≤ m := fun y hy => by
  rcases List.mem_or_eq_of_mem_set hy with hy | rfl
  · exact h y hy
  · exact hx
section
variable {E Ei : TypeId} {w : World} {B hi gb n cap : Nat} {g : List Vx} {k : Nat}
theorem vx_cells (h : OwnR E Ei 4 w B hi (.slice (some ⟨gb, 0, none⟩) n cap) (g.map Vx.fd)) (hk : k < g.length) :
    w.cell? ⟨gb, k * 4, none⟩ = some (.int .i64 g[k].r) ∧ w.cell? ⟨gb, k * 4 + 1, none⟩ = some (.int .i64 g[k].a) ∧ (∃ pa pc, w.cell? ⟨gb, k * 4 + 2, none⟩ = some (.slice pa g[k].ps.length pc)) ∧ w.cell? ⟨gb, k * 4 + 3, none⟩ = some (.int .i64 g[k].d) ∧
    w.frozen? ⟨gb, k * 4, none⟩ = false ∧ w.frozen? ⟨gb, k * 4 + 1, none⟩ = false ∧ w.frozen? ⟨gb, k * 4 + 2, none⟩ = false ∧ w.frozen? ⟨gb, k * 4 + 3, none⟩ = false := by
  have hk' : k < (g.map Vx.fd).length := by simpa using hk
  have he : (g.map Vx.fd)[k] = g[k].fd := by simp
  have h0 := h.fieldI (k := k) (j := 0) hk' (by rw [he]; simp [Vx.fd]) (x := g[k].r) (by simp only [he]; rfl)
  have h1 := h.fieldI (k := k) (j := 1) hk' (by rw [he]; simp [Vx.fd]) (x := g[k].a) (by simp only [he]; rfl)
  obtain ⟨pa, pc, h2, _, f2, _⟩ := h.fieldL (k := k) (j := 2) hk' (by rw [he]; simp [Vx.fd]) (xs := g[k].ps) (by simp only [he]; rfl)
  have h3 := h.fieldI (k := k) (j := 3) hk' (by rw [he]; simp [Vx.fd]) (x := g[k].d) (by simp only [he]; rfl)
  exact ⟨h0.1, h1.1, ⟨pa, pc, h2⟩, h3.1, h0.2, h1.2, f2, h3.2⟩
theorem vx_setI (h : OwnR E Ei 4 w B hi (.slice (some ⟨gb, 0, none⟩) n cap) (g.map Vx.fd)) (hn : n = g.length) (hk : k < g.length) (j : Nat) (hj : j < 4) (z : Int) (x : Vx) (hx : (g[k].fd).set j (.i z) = x.fd) :
    OwnR E Ei 4 (w.setCell ⟨gb, k * 4 + j, none⟩ (.int .i64 z)) B hi (.slice (some ⟨gb, 0, none⟩) n cap) ((g.set k x).map Vx.fd) := by
  have := h.setI (by simpa using hn) (k := k) (j := j) (by simpa using hk) hj z
  rwa [List.getElem_map, hx, ← List.map_set] at this
theorem vx_setP {hi' : Nat} {u : Value} {ps : List Int} (h : OwnR E Ei 4 w B hi (.slice (some ⟨gb, 0, none⟩) n cap) (g.map Vx.fd)) (hn : n = g.length) (hk : k < g.length) (ho : Own Ei w B u ps) (hhi : hi ≤ hi') (hu : ∀ b, u.ownBlock = some b → hi ≤ b ∧ b < hi') :
    OwnR E Ei 4 (w.setCell ⟨gb, k * 4 + 2, none⟩ u) B hi' (.slice (some ⟨gb, 0, none⟩) n cap) ((g.set k ⟨g[k].r, g[k].a, ps, g[k].d⟩).map Vx.fd) := by
  have := h.setF (by simpa using hn) (k := k) (j := 2) (by simpa using hk) (by omega) (f := .l ps) (show FdOk Ei w B u (.l ps) from ho) hhi hu
  rwa [List.getElem_map, show (g[k].fd).set 2 (.l ps) = Vx.fd ⟨g[k].r, g[k].a, ps, g[k].d⟩ from rfl, ← List.map_set] at this
end

end Go.Proofs.Ythnbjdijcpcafaa

/- The draws of the graphs' laws: what is drawn reads as a graph in new memory; each by a walk of its text; condition: the code is shorter than 2^20. -/
namespace Go.Proofs.Ythnbjdijcpcafaa
open Go.RowKit

end Go.Proofs.Ythnbjdijcpcafaa
