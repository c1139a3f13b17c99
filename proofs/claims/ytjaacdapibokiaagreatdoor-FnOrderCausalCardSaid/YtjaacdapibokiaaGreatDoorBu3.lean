/- Texts that the laws of this folder share, one behind another; no conditions. -/
import Derived.Test.YtjaacdapibokiaaGreatDoorRows
import Derived.Test.YtjaacdapibokiaaGreatDoorBu2
import Derived.Test.YtjaacdapibokiaaGreatDoorBu1
import Derived.Deep.MidRow
import Derived.Laws.Rows
import Derived.Laws.CopyRow
import Derived.Test.YtjaacdapibokiaaGreatDoorBu0
import Derived.Deep.QuietTactic
import Derived.BigQuiet
import Derived.LaidEqlPtr

/- impl's adding of a vertex to a graph of pointers, by a walk of its text; conditions: lists are shorter than 2^40, the committee, the graph and its vertices are valid. -/
namespace Go.Proofs.YtjaacdapibokiaaGreatDoor
open Go.RowKit

theorem run_index_z {P : Program} {T E : TypeId} {n s k B o : Nat} {z : Int} (hu : P.underlying T = some (.array n E)) (hs : (P.info? E).map (·.size) = some s) (hz : z = (k : Int)) (hk : k < n) (w : World) :
    (Instr.indexAt T (.pointer (some ⟨B, o, none⟩)) (.int .i64 z)).run P w = .ok (.pointer (some ⟨B, o + k * s, none⟩)) w := by
  subst hz
  have h1 := run_underlying hu w
  cases hq : P.info? E with
  | none => simp [hq] at hs
  | some i =>
    have hz : i.size = s := by simpa [hq] using hs
    simp [Instr.indexAt, asIntOf, Instr.sureAddr, Sem.run_bind, h1, sizeOf, typeInfo, hq, hz, hk, addr_add']

theorem below_rowP {w w' : World} (h : Below w.heap.size w w') (row : Option Nat) : w.grownBy w' row := ⟨h.os, h.tape, h.output, h.size, fun k hk _ => h.block k hk⟩

/-- 'append(s, p)', p a pointer. -/
theorem wpList_pushP {P : Program} {T E : TypeId} (hsl : P.underlying T = some (.slice E)) (hinf : (P.info? E).map (fun i => (i.zero, i.size, i.bytes)) = some (some (.pointer none), 1, 8)) {w : World} {ops : Array Oper} {rest : List Oper} {o : Oper} {a : Act} {Q : Exit → Act → World → Prop} (hgd : o.guard = none) (s x : Operand)
    (ho : o.op = .call { callee := .builtin .append, args := #[s, x], argTypes := #[T, T] }) (B : Nat) (v : Value) (qs : List Nat) (q : Nat) (hs : a.eval s = v) (hown : OwnP E w B v qs)
    (hlen : qs.length ≤ 1099511627776) (hx : a.eval x = .slice (some ⟨w.heap.size, 0, none⟩) 1 1) (hB : B ≤ w.heap.size)
    (h : ∀ v' w', OwnP E w' B v' (qs ++ [q]) → w.grownBy w' v.ownBlock → (∀ g, v'.ownBlock = some g → v.ownBlock = some g ∨ w.heap.size ≤ g) → wpList P ops Q rest (a.put o.dst v') w') : wpList P ops Q (o :: rest) a (w.alloc (.cells #[.pointer (some ⟨q, 0, none⟩)] E)) := by
  refine wpList_want (by unfold Region.wanted; rw [hgd]) fun K hK => ?_
  obtain ⟨i, hi, hz, hsz, hby⟩ := info_parts hinf
  obtain ⟨v', w', hrun, h1, h2, _, h4⟩ := run_append_own_at (P := P) (w.alloc (.cells #[.pointer (some ⟨q, 0, none⟩)] E)) B T o.type E i (.pointer none) 1 8 hsl hi hz hsz hby rfl (by decide) v qs.length _ (World.ownsRow.alloc hown _) ⟨w.heap.size, 0, none⟩ 1 1 [ptrV q] rfl
    (cells_ptr w E q) (by intro u hu; simp at hu; subst hu; rfl) (by unfold maxLen; omega) (by omega) (by simp; omega)
  unfold Oper.wp execOp
  simp only [ho, resolve, invoke, builtin, Sem.run_bind, Sem.run_pure, Result.andThen_ok, List.map_toArray, List.map_cons, List.map_nil, hs, hx, hrun]
  refine hK _ _ (h v' w' ?_ (grownBy_trans (World.grownBy_alloc _ _ _) h2) fun g e => ?_)
  · unfold OwnP; simpa using h1
  · rcases h4 with h4 | h4
    · exact .inl (by rw [← h4]; exact e)
    · rw [h4] at e; cases e; exact .inr (by simp)

/-- The code of an addition to a graph that is valid, and the graph after it. -/
def adN (c : List Int) (g : List Vx) (x : Vx) : Int := if vtxB c x = true then addN g x else 4
def adG (c : List Int) (g : List Vx) (x : Vx) : List Vx := if vtxB c x = true then addG g x else g
def AddPost (w0 w : World) (G : Nat) (mv : Value) (c : List Int) (g : List Vx) (x : Vx) : Ending → World → Prop := fun e w' =>
  e = .returned (.int .i64 (adN c g x)) ∧ w.grownBy w' (some G) ∧ ∃ hi h, Lk w0 w' hi G mv h (adG c g x)
theorem vtx_pl {c : List Int} {x : Vx} (hv : validB c = true) (h : vtxB c x = true) : inPl x := by
  obtain ⟨hn1, hn7⟩ := validB_len hv
  unfold vtxB rngB autB at h
  simp only [Bool.and_eq_true, decide_eq_true_eq] at h
  unfold inPl; omega
theorem vtx_mem {c : List Int} {x : Vx} (h : vtxB c x = true) : membersB c.length x.ps = true := by
  unfold vtxB at h
  simp only [Bool.and_eq_true] at h
  exact h.2.2.1
theorem vtx_r0 {c : List Int} {x : Vx} (h : vtxB c x = true) (h0 : x.r = 0) : x.ps.length = 0 := by
  unfold vtxB quoB at h
  simp only [Bool.and_eq_true, if_pos h0, decide_eq_true_eq] at h
  exact h.2.2.2.2
theorem run_place (G : Nat) (r a : Int) (hr : 0 ≤ r) (hr2 : r ≤ 30) (ha : 0 ≤ a) (ha2 : a ≤ 6) : ∃ o1, (∀ w, (Instr.indexAt 82 (.pointer (some ⟨G, 1, none⟩)) (.int .i64 r)).run Tryz.prog w = .ok (.pointer (some ⟨G, o1, none⟩)) w) ∧
    ∀ w, (Instr.indexAt 80 (.pointer (some ⟨G, o1, none⟩)) (.int .i64 a)).run Tryz.prog w = .ok (.pointer (some ⟨G, plN r a, none⟩)) w := by
  refine ⟨1 + r.toNat * 7, fun w => ?_, fun w => ?_⟩
  · exact run_index_z (s := 7) Tryz.underlying82 (by kernel_rfl) (by omega) (by omega) w
  · have := run_index_z (P := Tryz.prog) (B := G) (o := 1 + r.toNat * 7) (s := 1) (k := a.toNat) (z := a) Tryz.underlying80 (by kernel_rfl) (by omega) (by omega) w
    rw [this]
    unfold plN
    rw [Nat.mul_one, Nat.add_assoc]
theorem add_found {c : List Int} {g : List Vx} {x y : Vx} (hs : Srt g) (hx : vtxB c x = true) (hy : y ∈ g) (hr : y.r = x.r) (ha : y.a = x.a) :
    (sameB y x = true → adN c g x = 1 ∧ adG c g x = g) ∧ (sameB y x = false → adN c g x = 2 ∧ adG c g x = g) := by
  obtain ⟨k, hk, e, rfl⟩ := findZ_mem hs hy
  rw [hr, ha] at e
  unfold adN adG
  rw [if_pos hx, if_pos hx]
  exact ⟨fun h => addN_same hk e h, fun h => addN_twice hk e h⟩
theorem add_fresh {c : List Int} {g : List Vx} {x : Vx} (hx : vtxB c x = true) (hn : ∀ y ∈ g, ¬ (y.r = x.r ∧ y.a = x.a)) :
    (parB g x = false → adN c g x = 3 ∧ adG c g x = g) ∧ (parB g x = true → adN c g x = 0 ∧ adG c g x = insG g x) := by
  unfold adN adG
  rw [if_pos hx, if_pos hx]
  exact ⟨fun h => addN_miss (findZ_none hn) h, fun h => addN_done (findZ_none hn) h⟩
theorem ad_not {c : List Int} {g : List Vx} {x : Vx} (hx : vtxB c x = false) : adN c g x = 4 ∧ adG c g x = g := by
  unfold adN adG
  rw [if_neg (by simp [hx]), if_neg (by simp [hx])]
  exact ⟨rfl, rfl⟩
theorem Lk.place {w0 w : World} {hi G : Nat} {mv : Value} {h : Nat → Value} {g : List Vx} {r : Int} {ps : List Int} (l : Lk w0 w hi G mv h g) (hs : Srt g) (k : Nat) (hk : k < ps.length) (h0 : 0 ≤ r - 1) (h1 : r - 1 ≤ 30) (h2 : 0 ≤ ps[k]) (h3 : ps[k] ≤ 6) :
    (∃ q, h (plN (r - 1) ps[k]) = ptrV q ∧ hasP g r ps k = true) ∨ (h (plN (r - 1) ps[k]) = .pointer none ∧ hasP g r ps k = false) := by
  unfold hasP
  rw [getD_get hk]
  by_cases he : ∃ y ∈ g, y.r = r - 1 ∧ y.a = ps[k]
  · obtain ⟨y, hy, er, ea⟩ := he
    obtain ⟨q, hq, _⟩ := l.has y hy
    obtain ⟨j, _, e, _⟩ := findZ_mem hs hy
    rw [er, ea] at hq e
    exact .inl ⟨q, hq, by rw [e]; exact decide_eq_true (by omega)⟩
  · have hn : ∀ y ∈ g, ¬ (y.r = r - 1 ∧ y.a = ps[k]) := fun y hy e => he ⟨y, hy, e⟩
    exact .inr ⟨l.non _ _ h0 h1 h2 h3 hn, by rw [findZ_none hn]; rfl⟩
theorem qs_step {h : Nat → Value} {r : Int} {ps : List Int} {qs : List Nat} {q k : Nat} (hq : ∀ j (_ : j < qs.length) (hj' : j < ps.length), h (plN (r - 1) ps[j]) = ptrV qs[j]) (hl : qs.length = k) (hk : k < ps.length) (he : h (plN (r - 1) ps[k]) = ptrV q) :
    ∀ j (hj : j < (qs ++ [q]).length) (hj' : j < ps.length), h (plN (r - 1) ps[j]) = ptrV (qs ++ [q])[j] := by
  intro j hj hj'
  by_cases e : j < qs.length
  · rw [List.getElem_append_left e]; exact hq j e hj'
  · have : j = k := by rw [List.length_append] at hj; simp at hj; omega
    subst this
    rw [he]
    congr 1
    rw [List.getElem_append_right (by omega)]; simp
set_option maxRecDepth 8000 in
set_option maxHeartbeats 4000000 in
theorem graph_add (w0 w : World) (hi G : Nat) (ac : Option Addr) (capc : Nat) (c : List Int) (h : Nat → Value) (g : List Vx) (x : Vx) (pa : Option Addr) (pc : Nat) (hv : validB c = true) (hbp : x.ps.length ≤ 1099511627776) (hgp : ∀ y ∈ g, y.ps.length ≤ 1099511627776)
    (hs : SrcAt w0 pa pc x.ps) (hip : IntsAt w0 pa x.ps) (hc : IntsAt w0 ac c) (hb : Below w0.heap.size w0 w) (hL : Lk w0 w hi G (.slice ac c.length capc) h g) (hsrt : Srt g) (hgv : ∀ y ∈ g, vtxB c y = true) :
    Calls Tryz.prog 66 #[.pointer (some ⟨G, 0, none⟩), .agg #[.int .i64 x.r, .int .i64 x.a, .slice pa x.ps.length pc, .int .i64 x.d]] w (AddPost w0 w G (.slice ac c.length capc) c g x) := by
  have hb0 : Below w.heap.size w (w.alloc (.cells #[.int .i64 x.r, .int .i64 x.a, .slice pa x.ps.length pc, .int .i64 x.d] 39)) := (Below.refl _ _).alloc (Nat.le_refl _) _
  have hsz0 : (w.alloc (.cells #[.int .i64 x.r, .int .i64 x.a, .slice pa x.ps.length pc, .int .i64 x.d] 39)).heap.size = w.heap.size + 1 := by simp
  have s0 := Str.new w 39 #[.int .i64 x.r, .int .i64 x.a, .slice pa x.ps.length pc, .int .i64 x.d]
  have k0 := s0.cell 0 (v := .int .i64 x.r) rfl
  have k1 := s0.cell 1 (v := .int .i64 x.a) rfl
  have k2 := s0.cell 2 (v := .slice pa x.ps.length pc) rfl
  have k3 := s0.cell 3 (v := .int .i64 x.d) rfl
  have hL0 := hL.under hb0
  have g0 := hL0.cell (k := 0) (by omega)
  rw [hL.mem] at g0
  have hGw : G < w.heap.size := Nat.lt_of_lt_of_le hL.lt hL.le
  have hbW := below_step hb hb.size hb0
  have HbW := Lib.hid hbW; clear hbW
  have HF := Lib.hid (fun W (h : Below (w.alloc (.cells #[.int .i64 x.r, .int .i64 x.a, .slice pa x.ps.length pc, .int .i64 x.d] 39)).heap.size (w.alloc (.cells #[.int .i64 x.r, .int .i64 x.a, .slice pa x.ps.length pc, .int .i64 x.d] 39)) W) => vertex_fits ac capc c x pa pc W hv hbp (hc.below (below_step HbW.out HbW.out.size h)) (hip.below (below_step HbW.out HbW.out.size h)))
  have HL0 := Lib.hid hL0; clear hL0
  have HL := Lib.hid hL; clear hL
  have Hb := Lib.hid hb; clear hb
  have Hb0 := Lib.hid hb0; clear hb0
  have Hs0 := Lib.hid s0; clear s0
  have Hs := Lib.hid hs; clear hs
  have Hip := Lib.hid hip; clear hip
  have Hgv := Lib.hid hgv; clear hgv
  have Hgp := Lib.hid hgp; clear hgp
  have Hsrt := Lib.hid hsrt; clear hsrt
  have Hv := Lib.hid hv; clear hv hc
  go_enter Tryz.func66, Tryz.ntmps66
  go_wp2_with fail
  generalize w.alloc (.cells #[.int .i64 x.r, .int .i64 x.a, .slice pa x.ps.length pc, .int .i64 x.d] 39) = W0 at *
  refine wp_region_held_drew (S := fun w' => Below W0.heap.size W0 w' ∧ w'.cell? ⟨w.heap.size, 0, none⟩ = some (.int .i64 x.r) ∧ w'.cell? ⟨w.heap.size, 1, none⟩ = some (.int .i64 x.a) ∧ w'.cell? ⟨w.heap.size, 2, none⟩ = some (.slice pa x.ps.length pc) ∧ w'.cell? ⟨w.heap.size, 3, none⟩ = some (.int .i64 x.d) ∧ w'.cell? ⟨G, 0, none⟩ = some (.slice ac c.length capc)) (by kernel_rfl) ⟨(Below.refl _ _).drew, k0, k1, k2, k3, g0⟩ (fun hH => ?_)
  refine takeH 0 (v := ?va0) rfl (by kernel_rfl) (by kernel_rfl) (by kernel_rfl) (fun _ _ _ h => h) hH rfl ?ya0 ?ra0
  case ya0 => intro W hSw; go_simp; try with_reducible rfl
  try simp only [Act.put, List.setIfInBounds_toArray, List.set_cons_zero, List.set_cons_succ]
  refine takeH 1 (v := ?va1) rfl (by kernel_rfl) (by kernel_rfl) (by kernel_rfl) (fun _ _ _ h => h) hH rfl ?ya1 ?ra1
  case ya1 => intro W hSw; go_simp; try with_reducible rfl
  try simp only [Act.put, List.setIfInBounds_toArray, List.set_cons_zero, List.set_cons_succ]
  refine takeH 2 (v := ?va2) rfl (by kernel_rfl) (by kernel_rfl) (by kernel_rfl) (fun _ _ _ h => h) hH rfl ?ya2 ?ra2
  case ya2 => intro W hSw; go_simp; try with_reducible rfl
  try simp only [Act.put, List.setIfInBounds_toArray, List.set_cons_zero, List.set_cons_succ]
  refine takeH 3 (v := ?va3) rfl (by kernel_rfl) (by kernel_rfl) (by kernel_rfl) (fun _ _ _ h => h) hH rfl ?ya3 ?ra3
  case ya3 => intro W hSw; go_simp; try with_reducible rfl
  try simp only [Act.put, List.setIfInBounds_toArray, List.set_cons_zero, List.set_cons_succ]
  refine takeH 4 (v := ?va4) rfl (by kernel_rfl) (by kernel_rfl) (by kernel_rfl) (fun _ _ _ h => h) hH rfl ?ya4 ?ra4
  case ya4 => intro W hSw; go_simp; try with_reducible rfl
  try simp only [Act.put, List.setIfInBounds_toArray, List.set_cons_zero, List.set_cons_succ]
  refine callH 5 rfl (by kernel_rfl) rfl (fun K hK => ?_)
  go_simp
  go_at_call 85
  refine (HF.out _ hH.1).mono ?_
  rintro e wx ⟨rfl, hbx⟩
  refine hK.out _ _ ⟨hH.1.trans (hbx.mono hH.1.size), (hbx.cell (p := ⟨w.heap.size, 0, none⟩) (by simp only; have := hH.1.size; omega)).trans hH.2.1, (hbx.cell (p := ⟨w.heap.size, 1, none⟩) (by simp only; have := hH.1.size; omega)).trans hH.2.2.1, (hbx.cell (p := ⟨w.heap.size, 2, none⟩) (by simp only; have := hH.1.size; omega)).trans hH.2.2.2.1, (hbx.cell (p := ⟨w.heap.size, 3, none⟩) (by simp only; have := hH.1.size; omega)).trans hH.2.2.2.2.1, (hbx.cell (p := ⟨G, 0, none⟩) (by simp only; have := hH.1.size; omega)).trans hH.2.2.2.2.2⟩ (fun hH => ?_)
  clear hK K
  try simp only [Act.put, List.setIfInBounds_toArray, List.set_cons_zero, List.set_cons_succ]
  refine takeH 6 (v := ?va6) rfl (by kernel_rfl) (by kernel_rfl) (by kernel_rfl) (fun _ _ _ h => h) hH rfl ?ya6 ?ra6
  case ya6 => intro W hSw; go_simp; try with_reducible rfl
  try simp only [Act.put, List.setIfInBounds_toArray, List.set_cons_zero, List.set_cons_succ]
  refine wpAnyH_done (by kernel_rfl) ?_ _
  try simp only [Act.put]
  obtain ⟨hbw, k0, k1, k2, k3, g0⟩ := hH
  have HL1 := Lib.hid (HL0.out.under hbw)
  have Hb1 := Lib.hid (Hb0.out.trans (hbw.mono (by omega)))
  clear g0
  have HB1 := Lib.hid (below_step Hb.out Hb.out.size Hb1.out)
  have Hs1 := Lib.hid (show Str _ w.heap.size 39 #[.int .i64 x.r, .int .i64 x.a, .slice pa x.ps.length pc, .int .i64 x.d] from (hbw.block _ Hs0.out.lt).trans Hs0.out)
  clear hbw HL0 Hb0 Hs0 HbW
  cases hx : vtxB c x with
  | false =>
    obtain ⟨hz1, hz2⟩ := ad_not (g := g) hx
    have Hz1 := Lib.hid hz1
    have Hz2 := Lib.hid hz2
    clear hz1 hz2
    go_wp2
    go_ret
    exact ⟨by rw [Hz1.out]; rfl, below_rowP Hb1.out _, _, _, by rw [Hz2.out]; exact HL1.out⟩
  | true =>
  have hpl := vtx_pl Hv.out hx
  have hpl' := hpl
  unfold inPl at hpl'
  obtain ⟨hr0, hr1, ha0, ha1⟩ := hpl'
  obtain ⟨o1, ho1, ho2⟩ := run_place G x.r x.a hr0 hr1 ha0 ha1
  have gp := HL1.out.cell (plN_bd hr1 ha1).2
  by_cases hfound : ∃ y ∈ g, y.r = x.r ∧ y.a = x.a
  · obtain ⟨y, hy, er, ea⟩ := hfound
    obtain ⟨q, hq, hn⟩ := HL1.out.has y hy
    rw [er, ea] at hq
    rw [hq] at gp
    unfold ptrV at gp
    obtain ⟨pa', pc', pv, qs, hsq, hiq, _, _⟩ := hn.ex
    obtain ⟨F1, F2⟩ := add_found Hsrt.out hx hy er ea
    have HS0 := Lib.hid (fun W (h1 : IntsAt W pa' y.ps) (h2 : IntsAt W pa x.ps) => impl_sameVertex y x pa' pa pc' pc W (Hgp.out y hy) hbp h1 h2)
    have F1 := Lib.hid F1
    have F2 := Lib.hid F2
    have Hsq := Lib.hid hsq
    have Hiq := Lib.hid hiq
    have Hpl := Lib.hid hpl
    clear hn hq hsq hiq hpl er ea hy
    go_wp2_with fail
    refine wp_region_held_drew (S := fun w' => Below wx.heap.size wx w' ∧ w'.cell? ⟨w.heap.size, 0, none⟩ = some (.int .i64 x.r) ∧ w'.cell? ⟨w.heap.size, 1, none⟩ = some (.int .i64 x.a) ∧ w'.cell? ⟨G, plN x.r x.a, none⟩ = some (.pointer (some ⟨q, 0, none⟩))) (by kernel_rfl) ⟨(Below.refl _ _).drew, k0, k1, gp⟩ (fun hH => ?_)
    refine takeH 0 (v := ?vb0) rfl (by kernel_rfl) (by kernel_rfl) (by kernel_rfl) (fun _ _ _ h => h) hH rfl ?yb0 ?rb0
    case yb0 => intro W hSw; go_simp; try with_reducible rfl
    try simp only [Act.put, List.setIfInBounds_toArray, List.set_cons_zero, List.set_cons_succ]
    refine takeH 1 (v := ?vb1) rfl (by kernel_rfl) (by kernel_rfl) (by kernel_rfl) (fun _ _ _ h => h) hH rfl ?yb1 ?rb1
    case yb1 => intro W hSw; go_simp; try with_reducible rfl
    try simp only [Act.put, List.setIfInBounds_toArray, List.set_cons_zero, List.set_cons_succ]
    refine takeH 2 (v := ?vb2) rfl (by kernel_rfl) (by kernel_rfl) (by kernel_rfl) (fun _ _ _ h => h) hH rfl ?yb2 ?rb2
    case yb2 => intro W hSw; go_simp; try with_reducible rfl
    try simp only [Act.put, List.setIfInBounds_toArray, List.set_cons_zero, List.set_cons_succ]
    refine takeH 3 (v := ?vb3) rfl (by kernel_rfl) (by kernel_rfl) (by kernel_rfl) (fun _ _ _ h => h) hH rfl ?yb3 ?rb3
    case yb3 => intro W hSw; go_simp; try with_reducible rfl
    try simp only [Act.put, List.setIfInBounds_toArray, List.set_cons_zero, List.set_cons_succ]
    refine takeH 4 (v := ?vb4) rfl (by kernel_rfl) (by kernel_rfl) (by kernel_rfl) (fun _ _ _ h => h) hH rfl ?yb4 ?rb4
    case yb4 => intro W hSw; go_simp; try with_reducible rfl
    try simp only [Act.put, List.setIfInBounds_toArray, List.set_cons_zero, List.set_cons_succ]
    refine takeH 5 (v := ?vb5) rfl (by kernel_rfl) (by kernel_rfl) (by kernel_rfl) (fun _ _ _ h => h) hH rfl ?yb5 ?rb5
    case yb5 => intro W hSw; go_simp; try with_reducible rfl
    try simp only [Act.put, List.setIfInBounds_toArray, List.set_cons_zero, List.set_cons_succ]
    refine takeH 6 (v := ?vb6) rfl (by kernel_rfl) (by kernel_rfl) (by kernel_rfl) (fun _ _ _ h => h) hH rfl ?yb6 ?rb6
    case yb6 => intro W hSw; go_simp; try with_reducible rfl
    try simp only [Act.put, List.setIfInBounds_toArray, List.set_cons_zero, List.set_cons_succ]
    refine takeH 7 (v := ?vb7) rfl (by kernel_rfl) (by kernel_rfl) (by kernel_rfl) (fun _ _ _ h => h) hH rfl ?yb7 ?rb7
    case yb7 => intro W hSw; go_simp; try with_reducible rfl
    try simp only [Act.put, List.setIfInBounds_toArray, List.set_cons_zero, List.set_cons_succ]
    refine takeH 8 (v := ?vb8) rfl (by kernel_rfl) (by kernel_rfl) (by kernel_rfl) (fun _ _ _ h => h) hH rfl ?yb8 ?rb8
    case yb8 => intro W hSw; go_simp; try with_reducible rfl
    try simp only [Act.put, List.setIfInBounds_toArray, List.set_cons_zero, List.set_cons_succ]
    refine takeH 9 (v := ?vb9) rfl (by kernel_rfl) (by kernel_rfl) (by kernel_rfl) (fun _ _ _ h => h) hH rfl ?yb9 ?rb9
    case yb9 => intro W hSw; go_simp; try with_reducible rfl
    try simp only [Act.put, List.setIfInBounds_toArray, List.set_cons_zero, List.set_cons_succ]
    refine takeH 10 (v := ?vb10) rfl (by kernel_rfl) (by kernel_rfl) (by kernel_rfl) (fun _ _ _ h => h) hH rfl ?yb10 ?rb10
    case yb10 => intro W hSw; go_simp; try with_reducible rfl
    try simp only [Act.put, List.setIfInBounds_toArray, List.set_cons_zero, List.set_cons_succ]
    refine wpAnyH_done (by kernel_rfl) ?_ _
    try simp only [Act.put]
    obtain ⟨hbw, k0, k1, gp⟩ := hH
    generalize hW3 : wx.drew = W3 at *
    clear hW3
    have HL3 := Lib.hid (HL1.out.under hbw)
    have HB3 := Lib.hid (below_step HB1.out HB1.out.size hbw)
    have Hb3 := Lib.hid (below_step Hb1.out Hb1.out.size hbw)
    have k2 := (hbw.cell (p := ⟨w.heap.size, 2, none⟩) Hs1.out.lt).trans k2
    have k3 := (hbw.cell (p := ⟨w.heap.size, 3, none⟩) Hs1.out.lt).trans k3
    have hq3 := (hbw.block _ Hsq.out.lt).trans Hsq.out
    have hlt3 := Str.lt (W := W3) hq3
    have hwlt : w.heap.size < W3.heap.size := Nat.lt_of_lt_of_le Hs1.out.lt hbw.size
    have j0 := Str.cell hq3 0 (v := .int .i64 y.r) rfl
    have j1 := Str.cell hq3 1 (v := .int .i64 y.a) rfl
    have j2 := Str.cell hq3 2 (v := .slice pa' y.ps.length pc') rfl
    have j3 := Str.cell hq3 3 (v := .int .i64 y.d) rfl
    have HS := Lib.hid (fun W (h : Below W3.heap.size W3 W) => HS0.out W (Hiq.out.below (below_step HB3.out HB3.out.size h)) (Hip.out.below (below_step HB3.out HB3.out.size h)))
    clear hq3 hbw gp HS0 HL1 HB1 Hb1 Hs1
    go_wp2_with fail
    refine wp_region_held_drew (S := fun w' => Below W3.heap.size W3 w' ∧ w'.cell? ⟨q, 0, none⟩ = some (.int .i64 y.r) ∧ w'.cell? ⟨q, 1, none⟩ = some (.int .i64 y.a) ∧ w'.cell? ⟨q, 2, none⟩ = some (.slice pa' y.ps.length pc') ∧ w'.cell? ⟨q, 3, none⟩ = some (.int .i64 y.d) ∧ w'.cell? ⟨w.heap.size, 0, none⟩ = some (.int .i64 x.r) ∧ w'.cell? ⟨w.heap.size, 1, none⟩ = some (.int .i64 x.a) ∧ w'.cell? ⟨w.heap.size, 2, none⟩ = some (.slice pa x.ps.length pc) ∧ w'.cell? ⟨w.heap.size, 3, none⟩ = some (.int .i64 x.d)) (by kernel_rfl) ⟨(Below.refl _ _).drew, j0, j1, j2, j3, k0, k1, k2, k3⟩ (fun hH => ?_)
    refine takeH 0 (v := ?vd0) rfl (by kernel_rfl) (by kernel_rfl) (by kernel_rfl) (fun _ _ _ h => h) hH rfl ?yd0 ?rd0
    case yd0 => intro W hSw; go_simp; try with_reducible rfl
    try simp only [Act.put, List.setIfInBounds_toArray, List.set_cons_zero, List.set_cons_succ]
    refine takeH 1 (v := ?vd1) rfl (by kernel_rfl) (by kernel_rfl) (by kernel_rfl) (fun _ _ _ h => h) hH rfl ?yd1 ?rd1
    case yd1 => intro W hSw; go_simp; try with_reducible rfl
    try simp only [Act.put, List.setIfInBounds_toArray, List.set_cons_zero, List.set_cons_succ]
    refine takeH 2 (v := ?vd2) rfl (by kernel_rfl) (by kernel_rfl) (by kernel_rfl) (fun _ _ _ h => h) hH rfl ?yd2 ?rd2
    case yd2 => intro W hSw; go_simp; try with_reducible rfl
    try simp only [Act.put, List.setIfInBounds_toArray, List.set_cons_zero, List.set_cons_succ]
    refine takeH 3 (v := ?vd3) rfl (by kernel_rfl) (by kernel_rfl) (by kernel_rfl) (fun _ _ _ h => h) hH rfl ?yd3 ?rd3
    case yd3 => intro W hSw; go_simp; try with_reducible rfl
    try simp only [Act.put, List.setIfInBounds_toArray, List.set_cons_zero, List.set_cons_succ]
    refine takeH 4 (v := ?vd4) rfl (by kernel_rfl) (by kernel_rfl) (by kernel_rfl) (fun _ _ _ h => h) hH rfl ?yd4 ?rd4
    case yd4 => intro W hSw; go_simp; try with_reducible rfl
    try simp only [Act.put, List.setIfInBounds_toArray, List.set_cons_zero, List.set_cons_succ]
    refine callH 5 rfl (by kernel_rfl) rfl (fun K hK => ?_)
    go_simp
    go_at_call 86
    refine (HS.out _ hH.1).mono ?_
    rintro e wy ⟨rfl, hbx⟩
    refine hK.out _ _ ⟨hH.1.trans (hbx.mono hH.1.size), (hbx.cell (p := ⟨q, 0, none⟩) (by simp only; have := hH.1.size; omega)).trans hH.2.1, (hbx.cell (p := ⟨q, 1, none⟩) (by simp only; have := hH.1.size; omega)).trans hH.2.2.1, (hbx.cell (p := ⟨q, 2, none⟩) (by simp only; have := hH.1.size; omega)).trans hH.2.2.2.1, (hbx.cell (p := ⟨q, 3, none⟩) (by simp only; have := hH.1.size; omega)).trans hH.2.2.2.2.1, (hbx.cell (p := ⟨w.heap.size, 0, none⟩) (by simp only; have := hH.1.size; omega)).trans hH.2.2.2.2.2.1, (hbx.cell (p := ⟨w.heap.size, 1, none⟩) (by simp only; have := hH.1.size; omega)).trans hH.2.2.2.2.2.2.1, (hbx.cell (p := ⟨w.heap.size, 2, none⟩) (by simp only; have := hH.1.size; omega)).trans hH.2.2.2.2.2.2.2.1, (hbx.cell (p := ⟨w.heap.size, 3, none⟩) (by simp only; have := hH.1.size; omega)).trans hH.2.2.2.2.2.2.2.2⟩ (fun hH => ?_)
    clear hK K
    try simp only [Act.put, List.setIfInBounds_toArray, List.set_cons_zero, List.set_cons_succ]
    refine wpAnyH_done (by kernel_rfl) ?_ _
    try simp only [Act.put]
    obtain ⟨hbw, _⟩ := hH
    have Hb5 := Lib.hid (below_step Hb3.out Hb3.out.size hbw)
    have HL5 := Lib.hid (HL3.out.under hbw)
    clear hbw
    cases hsb : sameB y x with
    | true =>
      obtain ⟨hz1, hz2⟩ := F1.out hsb
      have Hz1 := Lib.hid hz1
      have Hz2 := Lib.hid hz2
      clear hz1 hz2 F1 F2 HS
      go_wp2
      go_ret
      exact ⟨by rw [Hz1.out]; rfl, below_rowP Hb5.out _, _, _, by rw [Hz2.out]; exact HL5.out⟩
    | false =>
      obtain ⟨hz1, hz2⟩ := F2.out hsb
      have Hz1 := Lib.hid hz1
      have Hz2 := Lib.hid hz2
      clear hz1 hz2 F1 F2 HS
      go_wp2
      go_ret
      exact ⟨by rw [Hz1.out]; rfl, below_rowP Hb5.out _, _, _, by rw [Hz2.out]; exact HL5.out⟩
  · have hno : ∀ y ∈ g, ¬ (y.r = x.r ∧ y.a = x.a) := fun y hy e => hfound ⟨y, hy, e⟩
    clear hfound
    rw [HL1.out.non x.r x.a hr0 hr1 ha0 ha1 hno] at gp
    obtain ⟨F1, F2⟩ := add_fresh hx hno
    have F1 := Lib.hid F1
    have F2 := Lib.hid F2
    have Hpl := Lib.hid hpl; clear hpl
    have Hno := Lib.hid hno; clear hno
    go_wp2_with fail
    refine wp_region_held_drew (S := fun w' => Below wx.heap.size wx w' ∧ w'.cell? ⟨w.heap.size, 0, none⟩ = some (.int .i64 x.r) ∧ w'.cell? ⟨w.heap.size, 1, none⟩ = some (.int .i64 x.a) ∧ w'.cell? ⟨G, plN x.r x.a, none⟩ = some (.pointer none)) (by kernel_rfl) ⟨(Below.refl _ _).drew, k0, k1, gp⟩ (fun hH => ?_)
    refine takeH 0 (v := ?ve0) rfl (by kernel_rfl) (by kernel_rfl) (by kernel_rfl) (fun _ _ _ h => h) hH rfl ?ye0 ?re0
    case ye0 => intro W hSw; go_simp; try with_reducible rfl
    try simp only [Act.put, List.setIfInBounds_toArray, List.set_cons_zero, List.set_cons_succ]
    refine takeH 1 (v := ?ve1) rfl (by kernel_rfl) (by kernel_rfl) (by kernel_rfl) (fun _ _ _ h => h) hH rfl ?ye1 ?re1
    case ye1 => intro W hSw; go_simp; try with_reducible rfl
    try simp only [Act.put, List.setIfInBounds_toArray, List.set_cons_zero, List.set_cons_succ]
    refine takeH 2 (v := ?ve2) rfl (by kernel_rfl) (by kernel_rfl) (by kernel_rfl) (fun _ _ _ h => h) hH rfl ?ye2 ?re2
    case ye2 => intro W hSw; go_simp; try with_reducible rfl
    try simp only [Act.put, List.setIfInBounds_toArray, List.set_cons_zero, List.set_cons_succ]
    refine takeH 3 (v := ?ve3) rfl (by kernel_rfl) (by kernel_rfl) (by kernel_rfl) (fun _ _ _ h => h) hH rfl ?ye3 ?re3
    case ye3 => intro W hSw; go_simp; try with_reducible rfl
    try simp only [Act.put, List.setIfInBounds_toArray, List.set_cons_zero, List.set_cons_succ]
    refine takeH 4 (v := ?ve4) rfl (by kernel_rfl) (by kernel_rfl) (by kernel_rfl) (fun _ _ _ h => h) hH rfl ?ye4 ?re4
    case ye4 => intro W hSw; go_simp; try with_reducible rfl
    try simp only [Act.put, List.setIfInBounds_toArray, List.set_cons_zero, List.set_cons_succ]
    refine takeH 5 (v := ?ve5) rfl (by kernel_rfl) (by kernel_rfl) (by kernel_rfl) (fun _ _ _ h => h) hH rfl ?ye5 ?re5
    case ye5 => intro W hSw; go_simp; try with_reducible rfl
    try simp only [Act.put, List.setIfInBounds_toArray, List.set_cons_zero, List.set_cons_succ]
    refine takeH 6 (v := ?ve6) rfl (by kernel_rfl) (by kernel_rfl) (by kernel_rfl) (fun _ _ _ h => h) hH rfl ?ye6 ?re6
    case ye6 => intro W hSw; go_simp; try with_reducible rfl
    try simp only [Act.put, List.setIfInBounds_toArray, List.set_cons_zero, List.set_cons_succ]
    refine takeH 7 (v := ?ve7) rfl (by kernel_rfl) (by kernel_rfl) (by kernel_rfl) (fun _ _ _ h => h) hH rfl ?ye7 ?re7
    case ye7 => intro W hSw; go_simp; try with_reducible rfl
    try simp only [Act.put, List.setIfInBounds_toArray, List.set_cons_zero, List.set_cons_succ]
    refine takeH 8 (v := ?ve8) rfl (by kernel_rfl) (by kernel_rfl) (by kernel_rfl) (fun _ _ _ h => h) hH rfl ?ye8 ?re8
    case ye8 => intro W hSw; go_simp; try with_reducible rfl
    try simp only [Act.put, List.setIfInBounds_toArray, List.set_cons_zero, List.set_cons_succ]
    refine takeH 9 (v := ?ve9) rfl (by kernel_rfl) (by kernel_rfl) (by kernel_rfl) (fun _ _ _ h => h) hH rfl ?ye9 ?re9
    case ye9 => intro W hSw; go_simp; try with_reducible rfl
    try simp only [Act.put, List.setIfInBounds_toArray, List.set_cons_zero, List.set_cons_succ]
    refine takeH 10 (v := ?ve10) rfl (by kernel_rfl) (by kernel_rfl) (by kernel_rfl) (fun _ _ _ h => h) hH rfl ?ye10 ?re10
    case ye10 => intro W hSw; go_simp; try with_reducible rfl
    try simp only [Act.put, List.setIfInBounds_toArray, List.set_cons_zero, List.set_cons_succ]
    refine wpAnyH_done (by kernel_rfl) ?_ _
    try simp only [Act.put]
    obtain ⟨hbw, k0, k1, gp⟩ := hH
    generalize hW3 : wx.drew = W3 at *
    clear hW3
    have HL3 := Lib.hid (HL1.out.under hbw)
    have HB3 := Lib.hid (below_step HB1.out HB1.out.size hbw)
    have Hb3 := Lib.hid (below_step Hb1.out Hb1.out.size hbw)
    have k2 := (hbw.cell (p := ⟨w.heap.size, 2, none⟩) Hs1.out.lt).trans k2
    have k3 := (hbw.cell (p := ⟨w.heap.size, 3, none⟩) Hs1.out.lt).trans k3
    have sB : Str W3 w.heap.size 39 #[.int .i64 x.r, .int .i64 x.a, .slice pa x.ps.length pc, .int .i64 x.d] := (hbw.block _ Hs1.out.lt).trans Hs1.out
    have hwlt : w.heap.size < W3.heap.size := sB.lt
    have hhi : hi ≤ W3.heap.size := HL3.out.le
    have hbA : Below W3.heap.size W3 (W3.alloc (.cells #[.int .i64 x.r, .int .i64 x.a, .slice pa x.ps.length pc, .int .i64 x.d, .slice none 0 0] 63)) := (Below.refl _ _).alloc (Nat.le_refl _) _
    have sN := Str.new W3 63 #[.int .i64 x.r, .int .i64 x.a, .slice pa x.ps.length pc, .int .i64 x.d, .slice none 0 0]
    have k2A := (sB.alloc (.cells #[.int .i64 x.r, .int .i64 x.a, .slice pa x.ps.length pc, .int .i64 x.d, .slice none 0 0] 63)).cell 2 (v := .slice pa x.ps.length pc) rfl
    have HbA := Lib.hid hbA
    have HsN := Lib.hid sN
    have HsB := Lib.hid sB
    have HmB := Lib.hid (fun k hk => membersB_at (vtx_mem hx) k hk)
    have Hr0 := Lib.hid (fun h0 => vtx_r0 hx h0)
    have HL3' := Lib.hid (fun W (hW : Below W3.heap.size W3 W) => (HL3.out.under hW))
    clear hbA sN sB hbw gp HL1 HB1 Hb1 Hs1 HF
    go_wp2_with fail
    simp only [Bool.not_true]
    go_loopw [41] (fun i wr => ∃ (k : Nat) (qs : List Nat) (pv : Value), k ≤ x.ps.length ∧ i = .int .i64 k ∧ qs.length = k ∧ (∀ j (hj : j < qs.length) (hj' : j < x.ps.length), h (plN (x.r - 1) x.ps[j]) = ptrV qs[j]) ∧ Upto (hasP g x.r x.ps) k ∧ OwnP 61 wr w0.heap.size pv qs ∧ (∀ b, pv.ownBlock = some b → W3.heap.size < b) ∧ Str wr W3.heap.size 63 #[.int .i64 x.r, .int .i64 x.a, .slice pa x.ps.length pc, .int .i64 x.d, pv] ∧ Below W3.heap.size W3 wr) (fun i _ => x.ps.length - (intOf i).toNat)
    case atStart => exact ⟨0, [], _, by omega, rfl, rfl, (fun j hj => by simp at hj), upto_zero _, OwnP.nil _ _ _, (fun b e => by cases e), HsN.out, HbA.out⟩
    case round =>
      obtain ⟨k, qs, pv, hk, rfl, hql, hqs, hup, hown, hpb, sQ, hbel⟩ := hrel
      have HsQ := Lib.hid sQ
      have Hown := Lib.hid hown
      have Hqs := Lib.hid hqs
      have Hup := Lib.hid hup
      have Hbel := Lib.hid hbel
      have Hpb := Lib.hid hpb
      have Hql := Lib.hid hql
      have sB : Str wr w.heap.size 39 #[.int .i64 x.r, .int .i64 x.a, .slice pa x.ps.length pc, .int .i64 x.d] := (hbel.block _ HsB.out.lt).trans HsB.out
      have k0 := sB.cell 0 (v := .int .i64 x.r) rfl
      have k1 := sB.cell 1 (v := .int .i64 x.a) rfl
      have HLr := Lib.hid (HL3'.out wr hbel)
      have hwr : W3.heap.size ≤ wr.heap.size := Hbel.out.size
      clear sQ hown hqs hup hpb hbel sB
      by_cases hlt : k < x.ps.length
      · obtain ⟨b, off, rfl, hbb, hat⟩ := (Hip.out.below (below_step HB3.out HB3.out.size Hbel.out)).cell (by omega)
        have hcp := hat k hlt
        have hm := HmB.out k hlt
        have hn7 := (validB_len Hv.out).2
        have hrn : 1 ≤ x.r := by
          by_cases e : x.r = 0
          · have := Hr0.out e; omega
          · omega
        obtain ⟨o2, hq1, hq2⟩ := run_place G (x.r - 1) x.ps[k] (by omega) (by omega) hm.1 (by omega)
        have gp := HLr.out.cell (plN_bd (r := x.r - 1) (a := x.ps[k]) (by omega) (by omega)).2
        have hw1 : IntKind.i64.wrap (x.r - 1) = x.r - 1 := IntWalk.i64_in _ (by omega)
        have hpl := HLr.out.place Hsrt.out (r := x.r) (ps := x.ps) k hlt (by omega) (by omega) hm.1 (by omega)
        have hst := fun q (he : h (plN (x.r - 1) x.ps[k]) = ptrV q) => qs_step Hqs.out hql hlt he
        have Hst := Lib.hid hst
        clear hat hst hm hn7 Hqs ho1 ho2
        rcases hpl with ⟨q, he, hh⟩ | ⟨he, hh⟩
        · have HstQ := Lib.hid (Hst.out q he)
          clear Hst
          rw [he] at gp
          unfold ptrV at gp
          have Hh := Lib.hid (upto_step Hup.out hh)
          clear he hh Hup
          generalize x.ps[k] = p at *
          go_wp2_with fail
          refine wp_region_held_drew (S := fun w' => Below wr.heap.size wr w' ∧ w'.cell? ⟨w.heap.size, 0, none⟩ = some (.int .i64 x.r) ∧ w'.cell? ⟨G, plN (x.r - 1) p, none⟩ = some (.pointer (some ⟨q, 0, none⟩))) (by kernel_rfl) ⟨(Below.refl _ _).drew, k0, gp⟩ (fun hH => ?_)
          refine takeH 0 (v := ?vf0) rfl (by kernel_rfl) (by kernel_rfl) (by kernel_rfl) (fun _ _ _ h => h) hH rfl ?yf0 ?rf0
          case yf0 => intro W hSw; go_simp; try with_reducible rfl
          try simp only [Act.put, List.setIfInBounds_toArray, List.set_cons_zero, List.set_cons_succ]
          refine takeH 1 (v := ?vf1) rfl (by kernel_rfl) (by kernel_rfl) (by kernel_rfl) (fun _ _ _ h => h) hH rfl ?yf1 ?rf1
          case yf1 => intro W hSw; go_simp; try with_reducible rfl
          try simp only [Act.put, List.setIfInBounds_toArray, List.set_cons_zero, List.set_cons_succ]
          refine takeH 2 (v := ?vf2) rfl (by kernel_rfl) (by kernel_rfl) (by kernel_rfl) (fun _ _ _ h => h) hH rfl ?yf2 ?rf2
          case yf2 => intro W hSw; go_simp; try with_reducible rfl
          try simp only [Act.put, List.setIfInBounds_toArray, List.set_cons_zero, List.set_cons_succ]
          refine takeH 3 (v := ?vf3) rfl (by kernel_rfl) (by kernel_rfl) (by kernel_rfl) (fun _ _ _ h => h) hH rfl ?yf3 ?rf3
          case yf3 => intro W hSw; go_simp; try with_reducible rfl
          try simp only [Act.put, List.setIfInBounds_toArray, List.set_cons_zero, List.set_cons_succ]
          refine takeH 4 (v := ?vf4) rfl (by kernel_rfl) (by kernel_rfl) (by kernel_rfl) (fun _ _ _ h => h) hH rfl ?yf4 ?rf4
          case yf4 => intro W hSw; go_simp; try with_reducible rfl
          try simp only [Act.put, List.setIfInBounds_toArray, List.set_cons_zero, List.set_cons_succ]
          refine takeH 5 (v := ?vf5) rfl (by kernel_rfl) (by kernel_rfl) (by kernel_rfl) (fun _ _ _ h => h) hH rfl ?yf5 ?rf5
          case yf5 => intro W hSw; go_simp; try with_reducible rfl
          try simp only [Act.put, List.setIfInBounds_toArray, List.set_cons_zero, List.set_cons_succ]
          refine takeH 6 (v := ?vf6) rfl (by kernel_rfl) (by kernel_rfl) (by kernel_rfl) (fun _ _ _ h => h) hH rfl ?yf6 ?rf6
          case yf6 => intro W hSw; go_simp; try with_reducible rfl
          try simp only [Act.put, List.setIfInBounds_toArray, List.set_cons_zero, List.set_cons_succ]
          refine takeH 7 (v := ?vf7) rfl (by kernel_rfl) (by kernel_rfl) (by kernel_rfl) (fun _ _ _ h => h) hH rfl ?yf7 ?rf7
          case yf7 => intro W hSw; go_simp; try with_reducible rfl
          try simp only [Act.put, List.setIfInBounds_toArray, List.set_cons_zero, List.set_cons_succ]
          refine takeH 8 (v := ?vf8) rfl (by kernel_rfl) (by kernel_rfl) (by kernel_rfl) (fun _ _ _ h => h) hH rfl ?yf8 ?rf8
          case yf8 => intro W hSw; go_simp; try with_reducible rfl
          try simp only [Act.put, List.setIfInBounds_toArray, List.set_cons_zero, List.set_cons_succ]
          refine takeH 9 (v := ?vf9) rfl (by kernel_rfl) (by kernel_rfl) (by kernel_rfl) (fun _ _ _ h => h) hH rfl ?yf9 ?rf9
          case yf9 => intro W hSw; go_simp; try with_reducible rfl
          try simp only [Act.put, List.setIfInBounds_toArray, List.set_cons_zero, List.set_cons_succ]
          refine takeH 10 (v := ?vf10) rfl (by kernel_rfl) (by kernel_rfl) (by kernel_rfl) (fun _ _ _ h => h) hH rfl ?yf10 ?rf10
          case yf10 => intro W hSw; go_simp; try with_reducible rfl
          try simp only [Act.put, List.setIfInBounds_toArray, List.set_cons_zero, List.set_cons_succ]
          refine wpAnyH_done (by kernel_rfl) ?_ _
          try simp only [Act.put]
          obtain ⟨hbw, _, _⟩ := hH
          have hz5 : wr.heap.size ≤ wr.drew.heap.size := Nat.le_refl _
          have s5 : Str wr.drew W3.heap.size 63 #[.int .i64 x.r, .int .i64 x.a, .slice (some ⟨b, off, none⟩) x.ps.length pc, .int .i64 x.d, pv] := HsQ.out
          have own5 : OwnP 61 wr.drew w0.heap.size pv qs := Hown.out
          have Hb5 := Lib.hid Hbel.out.drew
          generalize wr.drew = W5 at *
          have j4 := s5.cell 4 (v := pv) rfl
          have hQ5 := s5.lt
          have Hs5 := Lib.hid s5
          have Hown5 := Lib.hid own5
          have hB5 : w0.heap.size ≤ W5.heap.size := by have := HB3.out.size; omega
          have hW5 : W3.heap.size ≤ W5.heap.size := by omega
          have hql' : qs.length ≤ 1099511627776 := by omega
          clear s5 own5 hbw gp k0 k1
          go_wp2_with (at_builtin; refine wpList_pushP Tryz.underlying55 (by kernel_rfl) rfl (.tmp 61) (.tmp 63) rfl w0.heap.size pv qs q rfl Hown5.out hql' rfl hB5 ?_; intro v8 w8 hown8 hg8 hloc8; (obtain ⟨a8, n8, c8, rfl⟩ : ∃ a n c, v8 = Value.slice a n c := (by obtain ⟨a, c, e, _⟩ := hown8.slice; exact ⟨a, _, c, e⟩)); (have t8 := Hs5.out.kept hg8 (fun e => by have := Hpb.out _ e.symm; omega)); (have j4 := t8.cell 4 (v := pv) rfl); (have f4 := t8.frozen 4); (have Ht8 := Lib.hid t8); (have Hown8 := Lib.hid hown8); (have Hloc8 := Lib.hid hloc8); (have Hb8 := Lib.hid (Hb5.out.grown hg8 hW5 (fun g e => by have := Hpb.out g e; omega))); (clear t8 hown8 hloc8 hg8))
          go_roundw
          case rel =>
            have hv8 : ∀ b, (Value.slice a8 n8 c8).ownBlock = some b → W3.heap.size < b := fun b e => by
              rcases Hloc8.out b e with h | h
              · exact Hpb.out b h
              · omega
            refine ⟨k + 1, qs ++ [q], .slice a8 n8 c8, by omega, by go_num, by rw [List.length_append, hql]; rfl, HstQ.out, Hh.out, Hown8.out.kept (grownBy_set _ _ _ _) (.inr fun e => ?_), hv8, Ht8.out.set 4 _, Hb8.out.setCell (p := ⟨W3.heap.size, 4, none⟩) (Nat.le_refl _) _⟩
            have := hv8 _ e; omega
          case measure => simp [intOf]; omega
        · rw [he] at gp
          have Hz := Lib.hid (F1.out (allB_no hlt hh))
          clear he hh Hst
          generalize x.ps[k] = p at *
          go_wp2_with fail
          refine wp_region_held_drew (S := fun w' => Below wr.heap.size wr w' ∧ w'.cell? ⟨w.heap.size, 0, none⟩ = some (.int .i64 x.r) ∧ w'.cell? ⟨G, plN (x.r - 1) p, none⟩ = some (.pointer none)) (by kernel_rfl) ⟨(Below.refl _ _).drew, k0, gp⟩ (fun hH => ?_)
          refine takeH 0 (v := ?vg0) rfl (by kernel_rfl) (by kernel_rfl) (by kernel_rfl) (fun _ _ _ h => h) hH rfl ?yg0 ?rg0
          case yg0 => intro W hSw; go_simp; try with_reducible rfl
          try simp only [Act.put, List.setIfInBounds_toArray, List.set_cons_zero, List.set_cons_succ]
          refine takeH 1 (v := ?vg1) rfl (by kernel_rfl) (by kernel_rfl) (by kernel_rfl) (fun _ _ _ h => h) hH rfl ?yg1 ?rg1
          case yg1 => intro W hSw; go_simp; try with_reducible rfl
          try simp only [Act.put, List.setIfInBounds_toArray, List.set_cons_zero, List.set_cons_succ]
          refine takeH 2 (v := ?vg2) rfl (by kernel_rfl) (by kernel_rfl) (by kernel_rfl) (fun _ _ _ h => h) hH rfl ?yg2 ?rg2
          case yg2 => intro W hSw; go_simp; try with_reducible rfl
          try simp only [Act.put, List.setIfInBounds_toArray, List.set_cons_zero, List.set_cons_succ]
          refine takeH 3 (v := ?vg3) rfl (by kernel_rfl) (by kernel_rfl) (by kernel_rfl) (fun _ _ _ h => h) hH rfl ?yg3 ?rg3
          case yg3 => intro W hSw; go_simp; try with_reducible rfl
          try simp only [Act.put, List.setIfInBounds_toArray, List.set_cons_zero, List.set_cons_succ]
          refine takeH 4 (v := ?vg4) rfl (by kernel_rfl) (by kernel_rfl) (by kernel_rfl) (fun _ _ _ h => h) hH rfl ?yg4 ?rg4
          case yg4 => intro W hSw; go_simp; try with_reducible rfl
          try simp only [Act.put, List.setIfInBounds_toArray, List.set_cons_zero, List.set_cons_succ]
          refine takeH 5 (v := ?vg5) rfl (by kernel_rfl) (by kernel_rfl) (by kernel_rfl) (fun _ _ _ h => h) hH rfl ?yg5 ?rg5
          case yg5 => intro W hSw; go_simp; try with_reducible rfl
          try simp only [Act.put, List.setIfInBounds_toArray, List.set_cons_zero, List.set_cons_succ]
          refine takeH 6 (v := ?vg6) rfl (by kernel_rfl) (by kernel_rfl) (by kernel_rfl) (fun _ _ _ h => h) hH rfl ?yg6 ?rg6
          case yg6 => intro W hSw; go_simp; try with_reducible rfl
          try simp only [Act.put, List.setIfInBounds_toArray, List.set_cons_zero, List.set_cons_succ]
          refine takeH 7 (v := ?vg7) rfl (by kernel_rfl) (by kernel_rfl) (by kernel_rfl) (fun _ _ _ h => h) hH rfl ?yg7 ?rg7
          case yg7 => intro W hSw; go_simp; try with_reducible rfl
          try simp only [Act.put, List.setIfInBounds_toArray, List.set_cons_zero, List.set_cons_succ]
          refine takeH 8 (v := ?vg8) rfl (by kernel_rfl) (by kernel_rfl) (by kernel_rfl) (fun _ _ _ h => h) hH rfl ?yg8 ?rg8
          case yg8 => intro W hSw; go_simp; try with_reducible rfl
          try simp only [Act.put, List.setIfInBounds_toArray, List.set_cons_zero, List.set_cons_succ]
          refine takeH 9 (v := ?vg9) rfl (by kernel_rfl) (by kernel_rfl) (by kernel_rfl) (fun _ _ _ h => h) hH rfl ?yg9 ?rg9
          case yg9 => intro W hSw; go_simp; try with_reducible rfl
          try simp only [Act.put, List.setIfInBounds_toArray, List.set_cons_zero, List.set_cons_succ]
          refine takeH 10 (v := ?vg10) rfl (by kernel_rfl) (by kernel_rfl) (by kernel_rfl) (fun _ _ _ h => h) hH rfl ?yg10 ?rg10
          case yg10 => intro W hSw; go_simp; try with_reducible rfl
          try simp only [Act.put, List.setIfInBounds_toArray, List.set_cons_zero, List.set_cons_succ]
          refine wpAnyH_done (by kernel_rfl) ?_ _
          try simp only [Act.put]
          obtain ⟨hbw, _, _⟩ := hH
          have HL5 := Lib.hid (HLr.out.under hbw)
          have Hb5 := Lib.hid (Hb3.out.trans ((Hbel.out.trans (hbw.mono hwr)).mono (by have := Hb3.out.size; omega)))
          generalize wr.drew = W5 at *
          clear hbw gp k0 k1
          go_wp2
          go_ret
          exact ⟨by rw [Hz.out.1]; rfl, below_rowP Hb5.out _, _, _, by rw [Hz.out.2]; exact HL5.out⟩
      · have Hz := Lib.hid (F2.out (allB_yes Hup.out (by omega)))
        have hq := HLr.out.cell (plN_bd hr1 ha1).2
        have gf : wr.drew.frozen? ⟨G, plN x.r x.a, none⟩ = false := HLr.out.str.frozen _
        have gq : wr.drew.cell? ⟨G, plN x.r x.a, none⟩ = some (h (plN x.r x.a)) := hq
        have hqn : h (plN x.r x.a) = .pointer none := HL3.out.non x.r x.a hr0 hr1 ha0 ha1 Hno.out
        rw [hqn] at gq
        have Hb5 := Lib.hid Hbel.out.drew
        have s5 : Str wr.drew W3.heap.size 63 #[.int .i64 x.r, .int .i64 x.a, .slice pa x.ps.length pc, .int .i64 x.d, pv] := HsQ.out
        have own5 : OwnP 61 wr.drew w0.heap.size pv qs := Hown.out
        have hob : ∀ b, pv.ownBlock = some b → b ≠ G ∧ b < wr.heap.size := fun b e => ⟨by have := Hpb.out b e; have := HL3.out.lt; omega, (own5.lt b e).2⟩
        have HP := Lib.hid (HL3.out.put (below_grown Hb5.out) Hpl.out Hno.out hhi (hi2 := wr.heap.size) s5.lt (by omega) (Nat.le_refl _) s5 Hip.out Hs.out own5 hob (by omega) Hqs.out (g' := insG g x) (fun y => ins_mem))
        have HG := Lib.hid (grownBy_trans (below_rowP (Hb3.out.trans (Hb5.out.mono (by have := Hb3.out.size; omega))) (some G)) (grownBy_set wr.drew G (plN x.r x.a) (ptrV W3.heap.size)))
        clear hq hqn s5 own5 hob Hb5
        go_wp2_with fail
        refine wp_region_L 10 (fun w' => w'.cell? ⟨w.heap.size, 0, none⟩ = some (.int .i64 x.r) ∧ w'.cell? ⟨w.heap.size, 1, none⟩ = some (.int .i64 x.a)) (by kernel_rfl) ⟨k0, k1⟩ (fun hH => ?_)
        refine takeL 0 (v := ?vh0) rfl (by kernel_rfl) (by kernel_rfl) (by kernel_rfl) (by kernel_rfl) (by kernel_rfl) (fun _ _ _ h => h) hH rfl ?yh0 ?rh0
        case yh0 => intro w hSw; go_simp; try with_reducible rfl
        try simp only [Act.put, List.setIfInBounds_toArray, List.set_cons_zero, List.set_cons_succ]
        refine takeL 1 (v := ?vh1) rfl (by kernel_rfl) (by kernel_rfl) (by kernel_rfl) (by kernel_rfl) (by kernel_rfl) (fun _ _ _ h => h) hH rfl ?yh1 ?rh1
        case yh1 => intro w hSw; go_simp; try with_reducible rfl
        try simp only [Act.put, List.setIfInBounds_toArray, List.set_cons_zero, List.set_cons_succ]
        refine takeL 2 (v := ?vh2) rfl (by kernel_rfl) (by kernel_rfl) (by kernel_rfl) (by kernel_rfl) (by kernel_rfl) (fun _ _ _ h => h) hH rfl ?yh2 ?rh2
        case yh2 => intro w hSw; go_simp; try with_reducible rfl
        try simp only [Act.put, List.setIfInBounds_toArray, List.set_cons_zero, List.set_cons_succ]
        refine takeL 3 (v := ?vh3) rfl (by kernel_rfl) (by kernel_rfl) (by kernel_rfl) (by kernel_rfl) (by kernel_rfl) (fun _ _ _ h => h) hH rfl ?yh3 ?rh3
        case yh3 => intro w hSw; go_simp; try with_reducible rfl
        try simp only [Act.put, List.setIfInBounds_toArray, List.set_cons_zero, List.set_cons_succ]
        refine takeL 4 (v := ?vh4) rfl (by kernel_rfl) (by kernel_rfl) (by kernel_rfl) (by kernel_rfl) (by kernel_rfl) (fun _ _ _ h => h) hH rfl ?yh4 ?rh4
        case yh4 => intro w hSw; go_simp; try with_reducible rfl
        try simp only [Act.put, List.setIfInBounds_toArray, List.set_cons_zero, List.set_cons_succ]
        refine takeL 5 (v := ?vh5) rfl (by kernel_rfl) (by kernel_rfl) (by kernel_rfl) (by kernel_rfl) (by kernel_rfl) (fun _ _ _ h => h) hH rfl ?yh5 ?rh5
        case yh5 => intro w hSw; go_simp; try with_reducible rfl
        try simp only [Act.put, List.setIfInBounds_toArray, List.set_cons_zero, List.set_cons_succ]
        refine callL 6 rfl (by kernel_rfl) rfl (fun K hK => ?_)
        go_simp
        refine hK.out _ _ hH (fun hH => ?_)
        clear hK K
        try simp only [Act.put, List.setIfInBounds_toArray, List.set_cons_zero, List.set_cons_succ]
        refine callL 7 rfl (by kernel_rfl) rfl (fun K hK => ?_)
        go_simp
        refine hK.out _ _ hH (fun hH => ?_)
        clear hK K
        try simp only [Act.put, List.setIfInBounds_toArray, List.set_cons_zero, List.set_cons_succ]
        refine callL 8 rfl (by kernel_rfl) rfl (fun K hK => ?_)
        go_simp
        refine hK.out _ _ hH (fun hH => ?_)
        clear hK K
        try simp only [Act.put, List.setIfInBounds_toArray, List.set_cons_zero, List.set_cons_succ]
        refine callL 9 rfl (by kernel_rfl) rfl (fun K hK => ?_)
        go_simp
        refine hK.out _ _ hH (fun hH => ?_)
        clear hK K
        try simp only [Act.put, List.setIfInBounds_toArray, List.set_cons_zero, List.set_cons_succ]
        refine lastL rfl (by kernel_rfl) (by kernel_rfl) (by kernel_rfl) rfl (fun K hK => ?_)
        go_simp
        refine hK.out _ _ ?_
        clear hK K
        try simp only [Act.put, List.setIfInBounds_toArray, List.set_cons_zero, List.set_cons_succ]
        go_wp2
        go_ret
        exact ⟨by rw [Hz.out.1]; rfl, HG.out, _, _, by rw [Hz.out.2]; exact HP.out⟩

end Go.Proofs.YtjaacdapibokiaaGreatDoor

/- impl's list of a graph of pointers, by a walk of its text; conditions: lists are shorter than 2^40 (a graph: 2^20), the graph's vertices lie in order and in range. -/
namespace Go.Proofs.YtjaacdapibokiaaGreatDoor
open Go.RowKit

theorem arrP_extract (n : Nat) (f : Nat → Value) (o k : Nat) (h : o + k ≤ n) : (arrP n f).extract o (o + k) = arrP k fun a => f (o + a) := by
  apply Array.ext
  · simp [arrP]; omega
  · intro j h1 h2
    simp [arrP]
theorem arrP_one {n : Nat} {f : Nat → Value} (h : ∀ i, i < n → (f i).oneCell' = true) : (arrP n f).all (·.oneCell') = true := by
  rw [Array.all_eq_true_iff_forall_mem]
  intro v hv
  simp only [arrP, List.mem_toArray, List.mem_map, List.mem_range] at hv
  obtain ⟨i, hi, rfl⟩ := hv
  exact h i hi
theorem run_index_row {P : Program} {T E : TypeId} {n k s : Nat} {d : TypeDesc} {cs : Array Value} (hu : P.underlying T = some (.array n E)) (hE : P.underlying E = some d) (hd : (match d with | .struct _ | .array _ _ => true | _ => false) = true)
    (hs : (P.info? E).map (·.size) = some s) (hk : k < n) (w : World) : (Instr.index T (.agg cs) (.int .i64 k)).run P w = .ok (.agg (cs.extract (k * s) (k * s + s))) w := by
  have h1 := run_underlying hu w
  have h2 : (isAgg E).run P w = .ok true w := by
    unfold isAgg; rw [Sem.run_bind, run_underlying hE w]; cases d <;> simp_all
  cases hq : P.info? E with
  | none => simp [hq] at hs
  | some i =>
    have hz : i.size = s := by simpa [hq] using hs
    simp [Instr.index, asIntOf, Sem.run_bind, h1, part, h2, sizeOf, typeInfo, hq, hz, hk]
theorem run_index_one {P : Program} {T E : TypeId} {n k : Nat} {d : TypeDesc} {cs : Array Value} {v : Value} (hu : P.underlying T = some (.array n E)) (hE : P.underlying E = some d) (hd : (match d with | .struct _ | .array _ _ => true | _ => false) = false)
    (hs : (P.info? E).map (·.size) = some 1) (hk : k < n) (hc : cs[k]? = some v) (w : World) : (Instr.index T (.agg cs) (.int .i64 k)).run P w = .ok v w := by
  have h1 := run_underlying hu w
  have h2 : (isAgg E).run P w = .ok false w := by
    unfold isAgg; rw [Sem.run_bind, run_underlying hE w]; cases d <;> simp_all
  cases hq : P.info? E with
  | none => simp [hq] at hs
  | some i =>
    have hz : i.size = 1 := by simpa [hq] using hs
    simp [Instr.index, asIntOf, Sem.run_bind, h1, part, h2, sizeOf, typeInfo, hq, hz, hk, hc]
theorem setRow_strP {W : World} {B : Nat} {t : TypeId} {vs : Array Value} (h : Str W B t vs) (cs : Array Value) : Str (W.setRow B cs) B t cs := setRow_heap W B vs cs t (0, 0) h
theorem grownBy_setRowP (W : World) (B : Nat) (cs : Array Value) : W.grownBy (W.setRow B cs) (some B) := ⟨rfl, rfl, rfl, by simp [World.setRow], fun k _ hk => setRow_other W B k cs (fun e => hk (by rw [e]))⟩

theorem Lk.cases {w0 w : World} {hi G : Nat} {mv : Value} {h : Nat → Value} {g : List Vx} (l : Lk w0 w hi G mv h g) (r a : Nat) (hr : r < 31) (ha : a < 7) :
    (∃ y ∈ g, y.r = r ∧ y.a = a ∧ ∃ q, h (1 + (r * 7 + a)) = ptrV q ∧ Nd w0 w hi G h q y) ∨ (h (1 + (r * 7 + a)) = .pointer none ∧ ∀ y ∈ g, ¬ (y.r = (r : Int) ∧ y.a = (a : Int))) := by
  have hp : plN (r : Int) (a : Int) = 1 + (r * 7 + a) := by unfold plN; simp
  by_cases he : ∃ y ∈ g, y.r = r ∧ y.a = a
  · obtain ⟨y, hy, er, ea⟩ := he
    obtain ⟨q, hq, hn⟩ := l.has y hy
    rw [er, ea, hp] at hq
    exact .inl ⟨y, hy, er, ea, q, hq, hn⟩
  · have hn : ∀ y ∈ g, ¬ (y.r = (r : Int) ∧ y.a = (a : Int)) := fun y hy e => he ⟨y, hy, e⟩
    have := l.non r a (by omega) (by omega) (by omega) (by omega) hn
    rw [hp] at this
    exact .inr ⟨this, hn⟩
theorem Lk.one {w0 w : World} {hi G : Nat} {mv : Value} {h : Nat → Value} {g : List Vx} (l : Lk w0 w hi G mv h g) (i : Nat) (hi : i < 217) : (h (1 + i)).oneCell' = true := by
  have e : i = i / 7 * 7 + i % 7 := by omega
  rcases l.cases (i / 7) (i % 7) (by omega) (by omega) with ⟨_, _, _, _, q, hq, _⟩ | ⟨hq, _⟩
  · rw [← e] at hq; rw [hq]; rfl
  · rw [← e] at hq; rw [hq]; rfl

end Go.Proofs.YtjaacdapibokiaaGreatDoor

/- impl's linking of a list of vertices, by a walk of its text; conditions: lists are shorter than 2^40 (a graph: 2^20). -/
namespace Go.Proofs.YtjaacdapibokiaaGreatDoor
open Go.RowKit

/-- The vertex at place k may be added to those ahead of it. -/
def stepB (c : List Int) (g : List Vx) (k : Nat) : Bool := (k == 0 || befB (g.getD (k - 1) vx0) (g.getD k vx0)) && (vtxB c (g.getD k vx0) && parB (g.take k) (g.getD k vx0))
theorem hasP_iff {g : List Vx} {r : Int} {ps : List Int} {k : Nat} : hasP g r ps k = true ↔ ∃ y ∈ g, y.r = r - 1 ∧ y.a = ps.getD k 0 := by
  unfold hasP
  rw [decide_eq_true_iff]
  rcases findZ_cases g (r - 1) (ps.getD k 0) with ⟨e, hn⟩ | ⟨j, hj, e, hs, _⟩
  · rw [e]
    refine ⟨fun h => by omega, fun ⟨y, hy, er, ea⟩ => ?_⟩
    have := hn y hy
    unfold sameRA at this
    simp [er, ea] at this
  · rw [e]
    refine ⟨fun _ => ⟨g[j], List.getElem_mem hj, of_decide_eq_true hs⟩, fun _ => by omega⟩
theorem parB_iff {g : List Vx} {x : Vx} : parB g x = true ↔ ∀ p ∈ x.ps, ∃ y ∈ g, y.r = x.r - 1 ∧ y.a = p := by
  constructor
  · intro h p hp
    obtain ⟨k, hk, rfl⟩ := List.mem_iff_getElem.1 hp
    have := hasP_iff.1 (allB_upto h k hk)
    rwa [getD_get hk] at this
  · intro h
    refine allB_yes (k := x.ps.length) (fun k hk => hasP_iff.2 ?_) (Nat.le_refl _)
    rw [getD_get hk]
    exact h _ (List.getElem_mem hk)
theorem step_srt {c : List Int} {g : List Vx} : ∀ k, k ≤ g.length → Upto (stepB c g) k → Srt (g.take k) ∧ ∀ y ∈ g.take k, vtxB c y = true
  | 0, _, _ => ⟨by simp [Srt], by simp⟩
  | k + 1, hk, h => by
    obtain ⟨h1, h2⟩ := step_srt k (by omega) (fun j hj => h j (by omega))
    have hs := h k (by omega)
    unfold stepB at hs
    rw [getV (show k < g.length by omega)] at hs
    simp only [Bool.and_eq_true, Bool.or_eq_true, beq_iff_eq] at hs
    rw [List.take_succ_eq_append_getElem (show k < g.length by omega)]
    refine ⟨?_, ?_⟩
    · unfold Srt at *
      rw [List.pairwise_append]
      refine ⟨h1, by simp, fun a ha b hb => ?_⟩
      simp at hb; subst hb
      rcases hs.1 with e | e
      · subst e; simp at ha
      · rcases Nat.eq_zero_or_pos k with e0 | e0
        · subst e0; simp at ha
        · rw [getV (show k - 1 < g.length by omega)] at e
          obtain ⟨j, hj, rfl⟩ := List.mem_iff_getElem.1 ha
          rw [List.length_take] at hj
          rw [List.getElem_take]
          by_cases ej : j = k - 1
          · subst ej; exact e
          · have := (List.pairwise_iff_getElem.1 h1) j (k - 1) (by rw [List.length_take]; omega) (by rw [List.length_take]; omega) (by omega)
            rw [List.getElem_take, List.getElem_take] at this
            exact bef_trans this e
    · intro y hy
      rcases List.mem_append.1 hy with hy | hy
      · exact h2 y hy
      · simp at hy; subst hy; exact hs.2.1
theorem graph_step {c : List Int} {g : List Vx} : graphB c g = (validB c && allB (stepB c g) g.length) := by
  rw [Bool.eq_iff_iff]
  constructor
  · intro h
    have hs := graph_sorted h
    unfold graphB at h
    rw [Bool.and_eq_true] at h
    rw [Bool.and_eq_true]
    refine ⟨h.1, allB_yes (k := g.length) (fun k hk => ?_) (Nat.le_refl _)⟩
    have ho := allB_upto h.2 k hk
    unfold okV at ho
    unfold stepB
    simp only [Bool.and_eq_true] at ho ⊢
    refine ⟨ho.2.1, ho.1, parB_iff.2 fun p hp => ?_⟩
    obtain ⟨y, hy, er, ea⟩ := parB_iff.1 ho.2.2 p hp
    obtain ⟨j, hj, rfl⟩ := List.mem_iff_getElem.1 hy
    refine ⟨g[j], ?_, er, ea⟩
    rw [getV hk] at er
    have hjk : j < k := by
      rcases Nat.lt_trichotomy j k with h1 | h1 | h1
      · exact h1
      · subst h1; omega
      · have := befB_iff.1 ((List.pairwise_iff_getElem.1 hs) k j hk hj h1); omega
    exact List.mem_iff_getElem.2 ⟨j, by rw [List.length_take]; omega, by rw [List.getElem_take]⟩
  · intro h
    rw [Bool.and_eq_true] at h
    unfold graphB
    rw [Bool.and_eq_true]
    refine ⟨h.1, allB_yes (k := g.length) (fun k hk => ?_) (Nat.le_refl _)⟩
    have hs := allB_upto h.2 k hk
    unfold stepB at hs
    unfold okV
    simp only [Bool.and_eq_true] at hs ⊢
    refine ⟨hs.2.1, hs.1, parB_iff.2 fun p hp => ?_⟩
    obtain ⟨y, hy, er, ea⟩ := parB_iff.1 hs.2.2 p hp
    exact ⟨y, List.mem_of_mem_take hy, er, ea⟩
/-- What adding the next vertex answers, where it comes behind the one ahead of it. -/
theorem step_add {c : List Int} {g : List Vx} {k : Nat} (hk : k < g.length) (hu : Upto (stepB c g) k) (hb : k = 0 ∨ befB (g.getD (k - 1) vx0) g[k] = true) :
    (stepB c g k = true → adN c (g.take k) g[k] = 0 ∧ adG c (g.take k) g[k] = g.take (k + 1)) ∧ (stepB c g k = false → adN c (g.take k) g[k] ≠ 0) := by
  obtain ⟨h1, h2⟩ := step_srt k (by omega) hu
  have hall : ∀ y ∈ g.take k, befB y g[k] = true := by
    intro y hy
    rcases hb with e | e
    · subst e; simp at hy
    · rcases Nat.eq_zero_or_pos k with e0 | e0
      · subst e0; simp at hy
      · rw [getV (show k - 1 < g.length by omega)] at e
        obtain ⟨j, hj, rfl⟩ := List.mem_iff_getElem.1 hy
        rw [List.length_take] at hj
        rw [List.getElem_take]
        by_cases ej : j = k - 1
        · subst ej; exact e
        · have := (List.pairwise_iff_getElem.1 h1) j (k - 1) (by rw [List.length_take]; omega) (by rw [List.length_take]; omega) (by omega)
          rw [List.getElem_take, List.getElem_take] at this
          exact bef_trans this e
  have hno : ∀ y ∈ g.take k, ¬ (y.r = g[k].r ∧ y.a = g[k].a) := fun y hy e => by
    have := befB_iff.1 (hall y hy); omega
  have hs : stepB c g k = (vtxB c g[k] && parB (g.take k) g[k]) := by
    unfold stepB
    rw [getV hk]
    rcases hb with e | e
    · subst e; rfl
    · rw [e]; simp
  rw [hs]
  cases hv : vtxB c g[k] with
  | false => exact ⟨fun h => by simp at h, fun _ => by rw [(ad_not hv).1]; decide⟩
  | true =>
    obtain ⟨f1, f2⟩ := add_fresh hv hno
    refine ⟨fun h => ?_, fun h => ?_⟩
    · obtain ⟨e1, e2⟩ := f2 (by simpa using h)
      exact ⟨e1, by rw [e2, ins_last hall, List.take_succ_eq_append_getElem hk]⟩
    · rw [(f1 (by simpa using h)).1]; decide

def OfPost (w : World) (mv : Value) (c : List Int) (g : List Vx) : Ending → World → Prop := fun e w' => Below w.heap.size w w' ∧
  ((graphB c g = false ∧ e = .returned (.tuple #[.pointer none, .bool false])) ∨ (graphB c g = true ∧ ∃ G hi h, e = .returned (.tuple #[.pointer (some ⟨G, 0, none⟩), .bool true]) ∧ w.heap.size ≤ G ∧ Lk w w' hi G mv h g))
theorem of_no {w w' : World} {mv : Value} {c : List Int} {g : List Vx} {e : Ending} (h : graphB c g = false) (he : e = .returned (.tuple #[.pointer none, .bool false])) (hb : Below w.heap.size w w') : OfPost w mv c g e w' := ⟨hb, .inl ⟨h, he⟩⟩
theorem of_yes {w w' : World} {mv : Value} {c : List Int} {g : List Vx} {e : Ending} {G hi : Nat} {h : Nat → Value} (hg : graphB c g = true) (he : e = .returned (.tuple #[.pointer (some ⟨G, 0, none⟩), .bool true])) (hb : Below w.heap.size w w') (hG : w.heap.size ≤ G) (hl : Lk w w' hi G mv h g) : OfPost w mv c g e w' :=
  ⟨hb, .inr ⟨hg, G, hi, h, he, hG, hl⟩⟩
set_option maxRecDepth 8000 in
set_option maxHeartbeats 4000000 in
theorem impl_graphOf (ac : Option Addr) (capc : Nat) (c : List Int) (g : List Vx) (v : Value) (fp : List Nat) (w : World) (hn : c.length ≤ 1099511627776) (hbig : g.length ≤ 1048576) (hps : ∀ x ∈ g, x.ps.length ≤ 1099511627776) (hc : IntsAt w ac c) (hg : Gr w g v fp) :
    Calls Tryz.prog 45 #[.slice ac c.length capc, v] w (OfPost w (.slice ac c.length capc) c g) := by
  obtain ⟨va, vc, rfl⟩ := hg.slice
  have Hcv := Lib.hid (impl_CommitteeValid ac capc c w hn hc)
  cases hv : validB c with
  | false =>
    have hz : graphB c g = false := by unfold graphB; rw [hv]; rfl
    rw [hv] at Hcv
    have Hz := Lib.hid hz; clear hz hc hg hps
    go_enter Tryz.func45, Tryz.ntmps45
    go_wp2_with fail
    refine Hcv.out.mono ?_
    rintro e w1 ⟨rfl, rfl⟩
    go_wp2
    go_ret2
    exact of_no Hz.out rfl (Below.refl _ _)
  | true =>
  rw [hv] at Hcv
  have Hres := Lib.hid (show graphB c g = allB (stepB c g) g.length by rw [graph_step, hv]; rfl)
  have hA : Tryz.zeroCells84.setIfInBounds 0 (.slice ac c.length capc) = arrP 218 fun i => if i = 0 then .slice ac c.length capc else .pointer none := by kernel_rfl
  have hb0 : Below w.heap.size w (w.alloc (.cells (Tryz.zeroCells84.setIfInBounds 0 (.slice ac c.length capc)) 84)) := (Below.refl _ _).alloc (Nat.le_refl _) _
  have hL0 : Lk w (w.alloc (.cells (Tryz.zeroCells84.setIfInBounds 0 (.slice ac c.length capc)) 84)) (w.heap.size + 1) w.heap.size (.slice ac c.length capc) (fun i => if i = 0 then .slice ac c.length capc else .pointer none) [] :=
    Lk.new (by rw [hA]; exact Str.new w 84 _) (Nat.le_refl _) (by omega) (by simp)
  clear hA
  have HL0 := Lib.hid hL0; clear hL0
  have HP := Lib.hid hps; clear hps
  have Hc := Lib.hid hc; clear hc
  have Hg := Lib.hid hg; clear hg
  have Hb0 := Lib.hid hb0; clear hb0
  go_enter Tryz.func45, Tryz.ntmps45
  go_wp2_with fail
  refine Hcv.out.mono ?_
  rintro e w1 ⟨rfl, rfl⟩
  go_wp2_with fail
  go_loopw [17] (fun i wr => ∃ (k hi : Nat) (h : Nat → Value), k ≤ g.length ∧ i = .int .i64 k ∧ Upto (stepB c g) k ∧ Lk w wr hi w.heap.size (.slice ac c.length capc) h (g.take k) ∧ Below w.heap.size w wr) (fun i _ => g.length - (intOf i).toNat)
  case atStart => exact ⟨0, _, _, by omega, rfl, upto_zero _, HL0.out, Hb0.out⟩
  case round =>
    obtain ⟨k, hi, h, hk, rfl, hup, hL, hbel⟩ := hrel
    have HL := Lib.hid hL; clear hL
    have Hbel := Lib.hid hbel; clear hbel
    have Hup := Lib.hid hup; clear hup
    by_cases hlt : k < g.length
    · obtain ⟨b, off, rfl, hb, hat⟩ := Hg.out.at (by omega)
      obtain ⟨c0, c1, ⟨pa, pc, c2, i2, s2⟩, c3⟩ := hat k hlt
      have hpx := HP.out _ (List.getElem_mem hlt)
      have c0 := (Hbel.out.cell (p := ⟨b, off + k * 4, none⟩) hb).trans c0
      have c1 := (Hbel.out.cell (p := ⟨b, off + k * 4 + 1, none⟩) hb).trans c1
      have c2 := (Hbel.out.cell (p := ⟨b, off + k * 4 + 2, none⟩) hb).trans c2
      have c3 := (Hbel.out.cell (p := ⟨b, off + k * 4 + 3, none⟩) hb).trans c3
      have Hat := Lib.hid hat; clear hat
      have HSA := Lib.hid (step_add hlt Hup.out)
      have hbA : Below wr.heap.size wr (wr.alloc (.cells #[.int .i64 g[k].r, .int .i64 g[k].a, .slice pa g[k].ps.length pc, .int .i64 g[k].d] 39)) := (Below.refl _ _).alloc (Nat.le_refl _) _
      have s0 := Str.new wr 39 #[.int .i64 g[k].r, .int .i64 g[k].a, .slice pa g[k].ps.length pc, .int .i64 g[k].d]
      have k0 := s0.cell 0 (v := .int .i64 g[k].r) rfl
      have k1 := s0.cell 1 (v := .int .i64 g[k].a) rfl
      have k2 := s0.cell 2 (v := .slice pa g[k].ps.length pc) rfl
      have k3 := s0.cell 3 (v := .int .i64 g[k].d) rfl
      have hbwA := below_step Hbel.out Hbel.out.size hbA
      have hsr := step_srt k (by omega) Hup.out
      have hgpt : ∀ y ∈ g.take k, y.ps.length ≤ 1099511627776 := fun y hy => HP.out y (List.mem_of_mem_take hy)
      have HAdd := Lib.hid (fun W (hW : Below (wr.alloc (.cells #[.int .i64 g[k].r, .int .i64 g[k].a, .slice pa g[k].ps.length pc, .int .i64 g[k].d] 39)).heap.size (wr.alloc (.cells #[.int .i64 g[k].r, .int .i64 g[k].a, .slice pa g[k].ps.length pc, .int .i64 g[k].d] 39)) W) =>
        graph_add w W hi w.heap.size ac capc c h (g.take k) g[k] pa pc hv hpx hgpt s2 i2 Hc.out (below_step hbwA hbwA.size hW) ((HL.out.under hbA).under hW) hsr.1 hsr.2)
      have hltB : b < (wr.alloc (.cells #[.int .i64 g[k].r, .int .i64 g[k].a, .slice pa g[k].ps.length pc, .int .i64 g[k].d] 39)).heap.size := Nat.lt_of_lt_of_le hb hbwA.size
      have hlwB : w.heap.size < wr.heap.size := Nat.lt_of_lt_of_le HL.out.lt HL.out.le
      have hwrB : wr.heap.size < (wr.alloc (.cells #[.int .i64 g[k].r, .int .i64 g[k].a, .slice pa g[k].ps.length pc, .int .i64 g[k].d] 39)).heap.size := by simp
      have Hg1 := Lib.hid (show ∀ j, j < g.length → (wr.alloc (.cells #[.int .i64 g[k].r, .int .i64 g[k].a, .slice pa g[k].ps.length pc, .int .i64 g[k].d] 39)).cell? ⟨b, off + j * 4, none⟩ = some (.int .i64 (g.getD j vx0).r) ∧ (wr.alloc (.cells #[.int .i64 g[k].r, .int .i64 g[k].a, .slice pa g[k].ps.length pc, .int .i64 g[k].d] 39)).cell? ⟨b, off + j * 4 + 1, none⟩ = some (.int .i64 (g.getD j vx0).a) ∧ ∃ pa' pc', (wr.alloc (.cells #[.int .i64 g[k].r, .int .i64 g[k].a, .slice pa g[k].ps.length pc, .int .i64 g[k].d] 39)).cell? ⟨b, off + j * 4 + 2, none⟩ = some (.slice pa' (g.getD j vx0).ps.length pc') ∧ (wr.alloc (.cells #[.int .i64 g[k].r, .int .i64 g[k].a, .slice pa g[k].ps.length pc, .int .i64 g[k].d] 39)).cell? ⟨b, off + j * 4 + 3, none⟩ = some (.int .i64 (g.getD j vx0).d) from fun j hj => by
        obtain ⟨d0, d1, ⟨pa', pc', d2, _⟩, d3⟩ := Hat.out j hj
        rw [getV hj]
        exact ⟨(hbwA.cell (p := ⟨b, off + j * 4, none⟩) hb).trans d0, (hbwA.cell (p := ⟨b, off + j * 4 + 1, none⟩) hb).trans d1, pa', pc', (hbwA.cell (p := ⟨b, off + j * 4 + 2, none⟩) hb).trans d2, (hbwA.cell (p := ⟨b, off + j * 4 + 3, none⟩) hb).trans d3⟩)
      have HbwA := Lib.hid hbwA
      have hgk := getV hlt
      have Hgk := Lib.hid hgk
      clear hbA s0 hbwA hsr hgpt i2 s2 hpx Hat hgk HL
      generalize hx : g[k] = x at *
      have Hx := Lib.hid hx; clear hx
      obtain ⟨xr, xa, xp, xd⟩ := x
      dsimp only at *
      go_wp2_with fail
      generalize wr.alloc (.cells #[.int .i64 xr, .int .i64 xa, .slice pa xp.length pc, .int .i64 xd] 39) = wB at *
      clear c0 c1 c2 c3
      have hw1 : IntKind.i64.wrap ((k : Int) - 1) = k - 1 := IntWalk.i64_in _ (by omega)
      by_cases h0 : k = 0
      · have hgt : decide ((0 : Int) < (k : Int)) = false := decide_eq_false (by omega)
        have hgt' : ¬ (0 : Int) < (k : Int) := by omega
        have HS2 := Lib.hid (HSA.out (.inl h0))
        have H0 := Lib.hid h0; clear h0 hw1 HSA
        cases hst : stepB c g k with
        | false =>
          have Hne := Lib.hid (HS2.out.2 hst)
          have Hz := Lib.hid (allB_no hlt hst)
          refine wp_region_held_drew (S := fun w' => wB.grownBy w' (some w.heap.size) ∧ w'.cell? ⟨wr.heap.size, 0, none⟩ = some (.int .i64 xr) ∧ w'.cell? ⟨wr.heap.size, 1, none⟩ = some (.int .i64 xa) ∧ w'.cell? ⟨wr.heap.size, 2, none⟩ = some (.slice pa xp.length pc) ∧ w'.cell? ⟨wr.heap.size, 3, none⟩ = some (.int .i64 xd)) (by kernel_rfl) ⟨below_rowP (Below.refl _ _).drew _, k0, k1, k2, k3⟩ (fun hH => ?_)
          refine takeH 0 (v := ?va0) rfl (by kernel_rfl) (by kernel_rfl) (by kernel_rfl) (fun _ _ _ h => h) hH rfl ?ya0 ?ra0
          case ya0 => intro W hSw; go_simp; try with_reducible rfl
          try simp only [Act.put, List.setIfInBounds_toArray, List.set_cons_zero, List.set_cons_succ]
          refine takeH 1 (v := .bool false) rfl (by kernel_rfl) (by kernel_rfl) (by kernel_rfl) (fun _ _ _ h => h) hH rfl ?ya1 ?ra1
          case ya1 => intro W hSw; go_simp; first | done | simp only [hgt] | omega | (simp; omega)
          try simp only [Act.put, List.setIfInBounds_toArray, List.set_cons_zero, List.set_cons_succ]
          refine takeH 2 (v := ?va2) rfl (by kernel_rfl) (by kernel_rfl) (by kernel_rfl) (fun _ _ _ h => h) hH rfl ?ya2 ?ra2
          case ya2 => intro W hSw; go_simp; try with_reducible rfl
          try simp only [Act.put, List.setIfInBounds_toArray, List.set_cons_zero, List.set_cons_succ]
          refine skipH 3 rfl (by kernel_rfl) (by kernel_rfl) (by kernel_rfl) (fun _ _ _ h => h) hH rfl ?_
          try simp only [Act.put, List.setIfInBounds_toArray, List.set_cons_zero, List.set_cons_succ]
          refine skipH 4 rfl (by kernel_rfl) (by kernel_rfl) (by kernel_rfl) (fun _ _ _ h => h) hH rfl ?_
          try simp only [Act.put, List.setIfInBounds_toArray, List.set_cons_zero, List.set_cons_succ]
          refine skipH 5 rfl (by kernel_rfl) (by kernel_rfl) (by kernel_rfl) (fun _ _ _ h => h) hH rfl ?_
          try simp only [Act.put, List.setIfInBounds_toArray, List.set_cons_zero, List.set_cons_succ]
          refine skipH 6 rfl (by kernel_rfl) (by kernel_rfl) (by kernel_rfl) (fun _ _ _ h => h) hH rfl ?_
          try simp only [Act.put, List.setIfInBounds_toArray, List.set_cons_zero, List.set_cons_succ]
          refine skipH 7 rfl (by kernel_rfl) (by kernel_rfl) (by kernel_rfl) (fun _ _ _ h => h) hH rfl ?_
          try simp only [Act.put, List.setIfInBounds_toArray, List.set_cons_zero, List.set_cons_succ]
          refine skipH 8 rfl (by kernel_rfl) (by kernel_rfl) (by kernel_rfl) (fun _ _ _ h => h) hH rfl ?_
          try simp only [Act.put, List.setIfInBounds_toArray, List.set_cons_zero, List.set_cons_succ]
          refine skipH 9 rfl (by kernel_rfl) (by kernel_rfl) (by kernel_rfl) (fun _ _ _ h => h) hH rfl ?_
          try simp only [Act.put, List.setIfInBounds_toArray, List.set_cons_zero, List.set_cons_succ]
          refine skipH 10 rfl (by kernel_rfl) (by kernel_rfl) (by kernel_rfl) (fun _ _ _ h => h) hH rfl ?_
          try simp only [Act.put, List.setIfInBounds_toArray, List.set_cons_zero, List.set_cons_succ]
          refine takeH 11 (v := ?va11) rfl (by kernel_rfl) (by kernel_rfl) (by kernel_rfl) (fun _ _ _ h => h) hH rfl ?ya11 ?ra11
          case ya11 => intro W hSw; go_simp; try with_reducible rfl
          try simp only [Act.put, List.setIfInBounds_toArray, List.set_cons_zero, List.set_cons_succ]
          refine takeH 12 (v := ?va12) rfl (by kernel_rfl) (by kernel_rfl) (by kernel_rfl) (fun _ _ _ h => h) hH rfl ?ya12 ?ra12
          case ya12 => intro W hSw; go_simp; try with_reducible rfl
          try simp only [Act.put, List.setIfInBounds_toArray, List.set_cons_zero, List.set_cons_succ]
          refine takeH 13 (v := ?va13) rfl (by kernel_rfl) (by kernel_rfl) (by kernel_rfl) (fun _ _ _ h => h) hH rfl ?ya13 ?ra13
          case ya13 => intro W hSw; go_simp; try with_reducible rfl
          try simp only [Act.put, List.setIfInBounds_toArray, List.set_cons_zero, List.set_cons_succ]
          refine takeH 14 (v := ?va14) rfl (by kernel_rfl) (by kernel_rfl) (by kernel_rfl) (fun _ _ _ h => h) hH rfl ?ya14 ?ra14
          case ya14 => intro W hSw; go_simp; try with_reducible rfl
          try simp only [Act.put, List.setIfInBounds_toArray, List.set_cons_zero, List.set_cons_succ]
          refine callH 15 rfl (by kernel_rfl) rfl (fun K hK => ?_)
          go_simp
          go_at_call 66
          refine (HAdd.out _ ((Below.refl _ _).drew)).mono ?_
          rintro e wz ⟨rfl, hgz, _⟩
          generalize hm : adN c (g.take k) ⟨xr, xa, xp, xd⟩ = m at *
          have hm' : (m != 0) = true := by simpa using Hne.out
          clear hm
          refine hK.out _ _ ⟨grownBy_trans hH.1 (hgz), (hgz).cell hH.2.1 (by simp only [ne_eq, Option.some.injEq]; omega), (hgz).cell hH.2.2.1 (by simp only [ne_eq, Option.some.injEq]; omega), (hgz).cell hH.2.2.2.1 (by simp only [ne_eq, Option.some.injEq]; omega), (hgz).cell hH.2.2.2.2 (by simp only [ne_eq, Option.some.injEq]; omega)⟩ (fun hH => ?_)
          clear hK K
          try simp only [Act.put, List.setIfInBounds_toArray, List.set_cons_zero, List.set_cons_succ]
          refine takeH 16 (v := ?va16) rfl (by kernel_rfl) (by kernel_rfl) (by kernel_rfl) (fun _ _ _ h => h) hH rfl ?ya16 ?ra16
          case ya16 => intro W hSw; go_simp; try with_reducible rfl
          try simp only [Act.put, List.setIfInBounds_toArray, List.set_cons_zero, List.set_cons_succ]
          refine takeH 17 (v := ?va17) rfl (by kernel_rfl) (by kernel_rfl) (by kernel_rfl) (fun _ _ _ h => h) hH rfl ?ya17 ?ra17
          case ya17 => intro W hSw; go_simp; try with_reducible rfl
          try simp only [Act.put, List.setIfInBounds_toArray, List.set_cons_zero, List.set_cons_succ]
          refine wpAnyH_done (by kernel_rfl) ?_ _
          try simp only [Act.put]
          have Hend := Lib.hid (HbwA.out.grown hH.1 HbwA.out.size (fun g e => by cases e; exact Nat.le_refl _))
          go_wp2
          go_ret2
          exact of_no (by rw [Hres.out, Hz.out]) rfl Hend.out
        | true =>
          obtain ⟨hz1, hz2⟩ := HS2.out.1 hst
          have Hz1 := Lib.hid hz1
          have Hz2 := Lib.hid hz2
          have Hup1 := Lib.hid (upto_step Hup.out hst)
          clear hz1 hz2
          refine wp_region_held_drew (S := fun w' => wB.grownBy w' (some w.heap.size) ∧ w'.cell? ⟨wr.heap.size, 0, none⟩ = some (.int .i64 xr) ∧ w'.cell? ⟨wr.heap.size, 1, none⟩ = some (.int .i64 xa) ∧ w'.cell? ⟨wr.heap.size, 2, none⟩ = some (.slice pa xp.length pc) ∧ w'.cell? ⟨wr.heap.size, 3, none⟩ = some (.int .i64 xd)) (by kernel_rfl) ⟨below_rowP (Below.refl _ _).drew _, k0, k1, k2, k3⟩ (fun hH => ?_)
          refine takeH 0 (v := ?vb0) rfl (by kernel_rfl) (by kernel_rfl) (by kernel_rfl) (fun _ _ _ h => h) hH rfl ?yb0 ?rb0
          case yb0 => intro W hSw; go_simp; try with_reducible rfl
          try simp only [Act.put, List.setIfInBounds_toArray, List.set_cons_zero, List.set_cons_succ]
          refine takeH 1 (v := .bool false) rfl (by kernel_rfl) (by kernel_rfl) (by kernel_rfl) (fun _ _ _ h => h) hH rfl ?yb1 ?rb1
          case yb1 => intro W hSw; go_simp; first | done | simp only [hgt] | omega | (simp; omega)
          try simp only [Act.put, List.setIfInBounds_toArray, List.set_cons_zero, List.set_cons_succ]
          refine takeH 2 (v := ?vb2) rfl (by kernel_rfl) (by kernel_rfl) (by kernel_rfl) (fun _ _ _ h => h) hH rfl ?yb2 ?rb2
          case yb2 => intro W hSw; go_simp; try with_reducible rfl
          try simp only [Act.put, List.setIfInBounds_toArray, List.set_cons_zero, List.set_cons_succ]
          refine skipH 3 rfl (by kernel_rfl) (by kernel_rfl) (by kernel_rfl) (fun _ _ _ h => h) hH rfl ?_
          try simp only [Act.put, List.setIfInBounds_toArray, List.set_cons_zero, List.set_cons_succ]
          refine skipH 4 rfl (by kernel_rfl) (by kernel_rfl) (by kernel_rfl) (fun _ _ _ h => h) hH rfl ?_
          try simp only [Act.put, List.setIfInBounds_toArray, List.set_cons_zero, List.set_cons_succ]
          refine skipH 5 rfl (by kernel_rfl) (by kernel_rfl) (by kernel_rfl) (fun _ _ _ h => h) hH rfl ?_
          try simp only [Act.put, List.setIfInBounds_toArray, List.set_cons_zero, List.set_cons_succ]
          refine skipH 6 rfl (by kernel_rfl) (by kernel_rfl) (by kernel_rfl) (fun _ _ _ h => h) hH rfl ?_
          try simp only [Act.put, List.setIfInBounds_toArray, List.set_cons_zero, List.set_cons_succ]
          refine skipH 7 rfl (by kernel_rfl) (by kernel_rfl) (by kernel_rfl) (fun _ _ _ h => h) hH rfl ?_
          try simp only [Act.put, List.setIfInBounds_toArray, List.set_cons_zero, List.set_cons_succ]
          refine skipH 8 rfl (by kernel_rfl) (by kernel_rfl) (by kernel_rfl) (fun _ _ _ h => h) hH rfl ?_
          try simp only [Act.put, List.setIfInBounds_toArray, List.set_cons_zero, List.set_cons_succ]
          refine skipH 9 rfl (by kernel_rfl) (by kernel_rfl) (by kernel_rfl) (fun _ _ _ h => h) hH rfl ?_
          try simp only [Act.put, List.setIfInBounds_toArray, List.set_cons_zero, List.set_cons_succ]
          refine skipH 10 rfl (by kernel_rfl) (by kernel_rfl) (by kernel_rfl) (fun _ _ _ h => h) hH rfl ?_
          try simp only [Act.put, List.setIfInBounds_toArray, List.set_cons_zero, List.set_cons_succ]
          refine takeH 11 (v := ?vb11) rfl (by kernel_rfl) (by kernel_rfl) (by kernel_rfl) (fun _ _ _ h => h) hH rfl ?yb11 ?rb11
          case yb11 => intro W hSw; go_simp; try with_reducible rfl
          try simp only [Act.put, List.setIfInBounds_toArray, List.set_cons_zero, List.set_cons_succ]
          refine takeH 12 (v := ?vb12) rfl (by kernel_rfl) (by kernel_rfl) (by kernel_rfl) (fun _ _ _ h => h) hH rfl ?yb12 ?rb12
          case yb12 => intro W hSw; go_simp; try with_reducible rfl
          try simp only [Act.put, List.setIfInBounds_toArray, List.set_cons_zero, List.set_cons_succ]
          refine takeH 13 (v := ?vb13) rfl (by kernel_rfl) (by kernel_rfl) (by kernel_rfl) (fun _ _ _ h => h) hH rfl ?yb13 ?rb13
          case yb13 => intro W hSw; go_simp; try with_reducible rfl
          try simp only [Act.put, List.setIfInBounds_toArray, List.set_cons_zero, List.set_cons_succ]
          refine takeH 14 (v := ?vb14) rfl (by kernel_rfl) (by kernel_rfl) (by kernel_rfl) (fun _ _ _ h => h) hH rfl ?yb14 ?rb14
          case yb14 => intro W hSw; go_simp; try with_reducible rfl
          try simp only [Act.put, List.setIfInBounds_toArray, List.set_cons_zero, List.set_cons_succ]
          refine callH 15 rfl (by kernel_rfl) rfl (fun K hK => ?_)
          go_simp
          go_at_call 66
          refine (HAdd.out _ ((Below.refl _ _).drew)).mono ?_
          rintro e wz ⟨rfl, hgz, hi2, h2, hl2⟩
          rw [Hz1.out]
          rw [Hz2.out] at hl2
          have Hadd := Lib.hid hl2
          clear hl2
          refine hK.out _ _ ⟨grownBy_trans hH.1 (hgz), (hgz).cell hH.2.1 (by simp only [ne_eq, Option.some.injEq]; omega), (hgz).cell hH.2.2.1 (by simp only [ne_eq, Option.some.injEq]; omega), (hgz).cell hH.2.2.2.1 (by simp only [ne_eq, Option.some.injEq]; omega), (hgz).cell hH.2.2.2.2 (by simp only [ne_eq, Option.some.injEq]; omega)⟩ (fun hH => ?_)
          clear hK K
          try simp only [Act.put, List.setIfInBounds_toArray, List.set_cons_zero, List.set_cons_succ]
          refine takeH 16 (v := ?vb16) rfl (by kernel_rfl) (by kernel_rfl) (by kernel_rfl) (fun _ _ _ h => h) hH rfl ?yb16 ?rb16
          case yb16 => intro W hSw; go_simp; try with_reducible rfl
          try simp only [Act.put, List.setIfInBounds_toArray, List.set_cons_zero, List.set_cons_succ]
          refine takeH 17 (v := ?vb17) rfl (by kernel_rfl) (by kernel_rfl) (by kernel_rfl) (fun _ _ _ h => h) hH rfl ?yb17 ?rb17
          case yb17 => intro W hSw; go_simp; try with_reducible rfl
          try simp only [Act.put, List.setIfInBounds_toArray, List.set_cons_zero, List.set_cons_succ]
          refine wpAnyH_done (by kernel_rfl) ?_ _
          try simp only [Act.put]
          have Hend := Lib.hid (HbwA.out.grown hH.1 HbwA.out.size (fun g e => by cases e; exact Nat.le_refl _))
          go_wp2
          go_roundw
          case rel => exact ⟨k + 1, _, _, by omega, by go_num, Hup1.out, Hadd.out, Hend.out⟩
          case measure => simp [intOf]; omega
      · have hgt : decide ((0 : Int) < (k : Int)) = true := decide_eq_true (by omega)
        have hgt' : (0 : Int) < (k : Int) := by omega
        obtain ⟨d0, d1, pa', pc', d2, d3⟩ := Hg1.out (k - 1) (by omega)
        have Hk0 := Lib.hid (show (k == 0) = false by simpa using h0)
        have Hst := Lib.hid (show befB (g.getD (k - 1) vx0) ⟨xr, xa, xp, xd⟩ = false → stepB c g k = false from fun h => by unfold stepB; rw [Hk0.out, Hgk.out, h]; rfl)
        have HS2 := Lib.hid (fun h => HSA.out (.inr h))
        clear Hg1 HSA
        generalize hy : g.getD (k - 1) vx0 = y at *
        have Hy := Lib.hid hy; clear hy
        obtain ⟨yr, ya, yp, yd⟩ := y
        dsimp only at *
        have HB := Lib.hid (vertex_isBefore ⟨yr, ya, yp, yd⟩ ⟨xr, xa, xp, xd⟩ pa' pa pc' pc)
        have e3 : ((k : Int) - 1).toNat = k - 1 := by omega
        have e4 : 0 ≤ (k : Int) - 1 := by omega
        have e5 : 1 ≤ (k : Int) := by omega
        have e6 : (k : Int) - 1 < g.length := by omega
        cases h2 : befB ⟨yr, ya, yp, yd⟩ ⟨xr, xa, xp, xd⟩ with
        | false =>
          rw [h2] at HB
          have Hz := Lib.hid (allB_no hlt (Hst.out h2))
          refine wp_region_held_drew (S := fun w' => wB.grownBy w' (some w.heap.size) ∧ w'.cell? ⟨wr.heap.size, 0, none⟩ = some (.int .i64 xr) ∧ w'.cell? ⟨wr.heap.size, 1, none⟩ = some (.int .i64 xa) ∧ w'.cell? ⟨wr.heap.size, 2, none⟩ = some (.slice pa xp.length pc) ∧ w'.cell? ⟨wr.heap.size, 3, none⟩ = some (.int .i64 xd) ∧ w'.cell? ⟨b, off + (k - 1) * 4, none⟩ = some (.int .i64 yr) ∧ w'.cell? ⟨b, off + (k - 1) * 4 + 1, none⟩ = some (.int .i64 ya) ∧ w'.cell? ⟨b, off + (k - 1) * 4 + 2, none⟩ = some (.slice pa' yp.length pc') ∧ w'.cell? ⟨b, off + (k - 1) * 4 + 3, none⟩ = some (.int .i64 yd)) (by kernel_rfl) ⟨below_rowP (Below.refl _ _).drew _, k0, k1, k2, k3, d0, d1, d2, d3⟩ (fun hH => ?_)
          refine takeH 0 (v := ?vd0) rfl (by kernel_rfl) (by kernel_rfl) (by kernel_rfl) (fun _ _ _ h => h) hH rfl ?yd0 ?rd0
          case yd0 => intro W hSw; go_simp; try with_reducible rfl
          try simp only [Act.put, List.setIfInBounds_toArray, List.set_cons_zero, List.set_cons_succ]
          refine takeH 1 (v := .bool true) rfl (by kernel_rfl) (by kernel_rfl) (by kernel_rfl) (fun _ _ _ h => h) hH rfl ?yd1 ?rd1
          case yd1 => intro W hSw; go_simp; first | done | simp only [hgt] | omega | (simp; omega)
          try simp only [Act.put, List.setIfInBounds_toArray, List.set_cons_zero, List.set_cons_succ]
          refine takeH 2 (v := ?vd2) rfl (by kernel_rfl) (by kernel_rfl) (by kernel_rfl) (fun _ _ _ h => h) hH rfl ?yd2 ?rd2
          case yd2 => intro W hSw; go_simp; try with_reducible rfl
          try simp only [Act.put, List.setIfInBounds_toArray, List.set_cons_zero, List.set_cons_succ]
          refine takeH 3 (v := ?vd3) rfl (by kernel_rfl) (by kernel_rfl) (by kernel_rfl) (fun _ _ _ h => h) hH rfl ?yd3 ?rd3
          case yd3 => intro W hSw; go_simp; try with_reducible rfl
          try simp only [Act.put, List.setIfInBounds_toArray, List.set_cons_zero, List.set_cons_succ]
          refine takeH 4 (v := ?vd4) rfl (by kernel_rfl) (by kernel_rfl) (by kernel_rfl) (fun _ _ _ h => h) hH rfl ?yd4 ?rd4
          case yd4 => intro W hSw; go_simp; try with_reducible rfl
          try simp only [Act.put, List.setIfInBounds_toArray, List.set_cons_zero, List.set_cons_succ]
          refine takeH 5 (v := ?vd5) rfl (by kernel_rfl) (by kernel_rfl) (by kernel_rfl) (fun _ _ _ h => h) hH rfl ?yd5 ?rd5
          case yd5 => intro W hSw; go_simp; try with_reducible rfl
          try simp only [Act.put, List.setIfInBounds_toArray, List.set_cons_zero, List.set_cons_succ]
          refine takeH 6 (v := ?vd6) rfl (by kernel_rfl) (by kernel_rfl) (by kernel_rfl) (fun _ _ _ h => h) hH rfl ?yd6 ?rd6
          case yd6 => intro W hSw; go_simp; try with_reducible rfl
          try simp only [Act.put, List.setIfInBounds_toArray, List.set_cons_zero, List.set_cons_succ]
          refine takeH 7 (v := ?vd7) rfl (by kernel_rfl) (by kernel_rfl) (by kernel_rfl) (fun _ _ _ h => h) hH rfl ?yd7 ?rd7
          case yd7 => intro W hSw; go_simp; try with_reducible rfl
          try simp only [Act.put, List.setIfInBounds_toArray, List.set_cons_zero, List.set_cons_succ]
          refine takeH 8 (v := ?vd8) rfl (by kernel_rfl) (by kernel_rfl) (by kernel_rfl) (fun _ _ _ h => h) hH rfl ?yd8 ?rd8
          case yd8 => intro W hSw; go_simp; try with_reducible rfl
          try simp only [Act.put, List.setIfInBounds_toArray, List.set_cons_zero, List.set_cons_succ]
          refine callH 9 rfl (by kernel_rfl) rfl (fun K hK => ?_)
          go_simp
          go_at_call 65
          refine (HB.out _).mono ?_
          rintro e wx ⟨rfl, hbx⟩
          refine hK.out _ _ ⟨grownBy_trans hH.1 (below_rowP hbx (some w.heap.size)), (below_rowP hbx (some w.heap.size)).cell hH.2.1 (by simp only [ne_eq, Option.some.injEq]; omega), (below_rowP hbx (some w.heap.size)).cell hH.2.2.1 (by simp only [ne_eq, Option.some.injEq]; omega), (below_rowP hbx (some w.heap.size)).cell hH.2.2.2.1 (by simp only [ne_eq, Option.some.injEq]; omega), (below_rowP hbx (some w.heap.size)).cell hH.2.2.2.2.1 (by simp only [ne_eq, Option.some.injEq]; omega), (below_rowP hbx (some w.heap.size)).cell hH.2.2.2.2.2.1 (by simp only [ne_eq, Option.some.injEq]; omega), (below_rowP hbx (some w.heap.size)).cell hH.2.2.2.2.2.2.1 (by simp only [ne_eq, Option.some.injEq]; omega), (below_rowP hbx (some w.heap.size)).cell hH.2.2.2.2.2.2.2.1 (by simp only [ne_eq, Option.some.injEq]; omega), (below_rowP hbx (some w.heap.size)).cell hH.2.2.2.2.2.2.2.2 (by simp only [ne_eq, Option.some.injEq]; omega)⟩ (fun hH => ?_)
          clear hK K
          try simp only [Act.put, List.setIfInBounds_toArray, List.set_cons_zero, List.set_cons_succ]
          refine takeH 10 (v := ?vd10) rfl (by kernel_rfl) (by kernel_rfl) (by kernel_rfl) (fun _ _ _ h => h) hH rfl ?yd10 ?rd10
          case yd10 => intro W hSw; go_simp; try with_reducible rfl
          try simp only [Act.put, List.setIfInBounds_toArray, List.set_cons_zero, List.set_cons_succ]
          refine takeH 11 (v := ?vd11) rfl (by kernel_rfl) (by kernel_rfl) (by kernel_rfl) (fun _ _ _ h => h) hH rfl ?yd11 ?rd11
          case yd11 => intro W hSw; go_simp; try with_reducible rfl
          try simp only [Act.put, List.setIfInBounds_toArray, List.set_cons_zero, List.set_cons_succ]
          refine takeH 12 (v := ?vd12) rfl (by kernel_rfl) (by kernel_rfl) (by kernel_rfl) (fun _ _ _ h => h) hH rfl ?yd12 ?rd12
          case yd12 => intro W hSw; go_simp; try with_reducible rfl
          try simp only [Act.put, List.setIfInBounds_toArray, List.set_cons_zero, List.set_cons_succ]
          refine skipH 13 rfl (by kernel_rfl) (by kernel_rfl) (by kernel_rfl) (fun _ _ _ h => h) hH rfl ?_
          try simp only [Act.put, List.setIfInBounds_toArray, List.set_cons_zero, List.set_cons_succ]
          refine skipH 14 rfl (by kernel_rfl) (by kernel_rfl) (by kernel_rfl) (fun _ _ _ h => h) hH rfl ?_
          try simp only [Act.put, List.setIfInBounds_toArray, List.set_cons_zero, List.set_cons_succ]
          refine skipH 15 rfl (by kernel_rfl) (by kernel_rfl) (by kernel_rfl) (fun _ _ _ h => h) hH rfl ?_
          try simp only [Act.put, List.setIfInBounds_toArray, List.set_cons_zero, List.set_cons_succ]
          refine skipH 16 rfl (by kernel_rfl) (by kernel_rfl) (by kernel_rfl) (fun _ _ _ h => h) hH rfl ?_
          try simp only [Act.put, List.setIfInBounds_toArray, List.set_cons_zero, List.set_cons_succ]
          refine takeH 17 (v := ?vd17) rfl (by kernel_rfl) (by kernel_rfl) (by kernel_rfl) (fun _ _ _ h => h) hH rfl ?yd17 ?rd17
          case yd17 => intro W hSw; go_simp; try with_reducible rfl
          try simp only [Act.put, List.setIfInBounds_toArray, List.set_cons_zero, List.set_cons_succ]
          refine wpAnyH_done (by kernel_rfl) ?_ _
          try simp only [Act.put]
          have Hend := Lib.hid (HbwA.out.grown hH.1 HbwA.out.size (fun g e => by cases e; exact Nat.le_refl _))
          go_wp2
          go_ret2
          exact of_no (by rw [Hres.out, Hz.out]) rfl Hend.out
        | true =>
        rw [h2] at HB
        have HS2 := Lib.hid (HS2.out h2)
        cases hst : stepB c g k with
        | false =>
          have Hne := Lib.hid (HS2.out.2 hst)
          have Hz := Lib.hid (allB_no hlt hst)
          refine wp_region_held_drew (S := fun w' => wB.grownBy w' (some w.heap.size) ∧ w'.cell? ⟨wr.heap.size, 0, none⟩ = some (.int .i64 xr) ∧ w'.cell? ⟨wr.heap.size, 1, none⟩ = some (.int .i64 xa) ∧ w'.cell? ⟨wr.heap.size, 2, none⟩ = some (.slice pa xp.length pc) ∧ w'.cell? ⟨wr.heap.size, 3, none⟩ = some (.int .i64 xd) ∧ w'.cell? ⟨b, off + (k - 1) * 4, none⟩ = some (.int .i64 yr) ∧ w'.cell? ⟨b, off + (k - 1) * 4 + 1, none⟩ = some (.int .i64 ya) ∧ w'.cell? ⟨b, off + (k - 1) * 4 + 2, none⟩ = some (.slice pa' yp.length pc') ∧ w'.cell? ⟨b, off + (k - 1) * 4 + 3, none⟩ = some (.int .i64 yd)) (by kernel_rfl) ⟨below_rowP (Below.refl _ _).drew _, k0, k1, k2, k3, d0, d1, d2, d3⟩ (fun hH => ?_)
          refine takeH 0 (v := ?ve0) rfl (by kernel_rfl) (by kernel_rfl) (by kernel_rfl) (fun _ _ _ h => h) hH rfl ?ye0 ?re0
          case ye0 => intro W hSw; go_simp; try with_reducible rfl
          try simp only [Act.put, List.setIfInBounds_toArray, List.set_cons_zero, List.set_cons_succ]
          refine takeH 1 (v := .bool true) rfl (by kernel_rfl) (by kernel_rfl) (by kernel_rfl) (fun _ _ _ h => h) hH rfl ?ye1 ?re1
          case ye1 => intro W hSw; go_simp; first | done | simp only [hgt] | omega | (simp; omega)
          try simp only [Act.put, List.setIfInBounds_toArray, List.set_cons_zero, List.set_cons_succ]
          refine takeH 2 (v := ?ve2) rfl (by kernel_rfl) (by kernel_rfl) (by kernel_rfl) (fun _ _ _ h => h) hH rfl ?ye2 ?re2
          case ye2 => intro W hSw; go_simp; try with_reducible rfl
          try simp only [Act.put, List.setIfInBounds_toArray, List.set_cons_zero, List.set_cons_succ]
          refine takeH 3 (v := ?ve3) rfl (by kernel_rfl) (by kernel_rfl) (by kernel_rfl) (fun _ _ _ h => h) hH rfl ?ye3 ?re3
          case ye3 => intro W hSw; go_simp; try with_reducible rfl
          try simp only [Act.put, List.setIfInBounds_toArray, List.set_cons_zero, List.set_cons_succ]
          refine takeH 4 (v := ?ve4) rfl (by kernel_rfl) (by kernel_rfl) (by kernel_rfl) (fun _ _ _ h => h) hH rfl ?ye4 ?re4
          case ye4 => intro W hSw; go_simp; try with_reducible rfl
          try simp only [Act.put, List.setIfInBounds_toArray, List.set_cons_zero, List.set_cons_succ]
          refine takeH 5 (v := ?ve5) rfl (by kernel_rfl) (by kernel_rfl) (by kernel_rfl) (fun _ _ _ h => h) hH rfl ?ye5 ?re5
          case ye5 => intro W hSw; go_simp; try with_reducible rfl
          try simp only [Act.put, List.setIfInBounds_toArray, List.set_cons_zero, List.set_cons_succ]
          refine takeH 6 (v := ?ve6) rfl (by kernel_rfl) (by kernel_rfl) (by kernel_rfl) (fun _ _ _ h => h) hH rfl ?ye6 ?re6
          case ye6 => intro W hSw; go_simp; try with_reducible rfl
          try simp only [Act.put, List.setIfInBounds_toArray, List.set_cons_zero, List.set_cons_succ]
          refine takeH 7 (v := ?ve7) rfl (by kernel_rfl) (by kernel_rfl) (by kernel_rfl) (fun _ _ _ h => h) hH rfl ?ye7 ?re7
          case ye7 => intro W hSw; go_simp; try with_reducible rfl
          try simp only [Act.put, List.setIfInBounds_toArray, List.set_cons_zero, List.set_cons_succ]
          refine takeH 8 (v := ?ve8) rfl (by kernel_rfl) (by kernel_rfl) (by kernel_rfl) (fun _ _ _ h => h) hH rfl ?ye8 ?re8
          case ye8 => intro W hSw; go_simp; try with_reducible rfl
          try simp only [Act.put, List.setIfInBounds_toArray, List.set_cons_zero, List.set_cons_succ]
          refine callH 9 rfl (by kernel_rfl) rfl (fun K hK => ?_)
          go_simp
          go_at_call 65
          refine (HB.out _).mono ?_
          rintro e wx ⟨rfl, hbx⟩
          refine hK.out _ _ ⟨grownBy_trans hH.1 (below_rowP hbx (some w.heap.size)), (below_rowP hbx (some w.heap.size)).cell hH.2.1 (by simp only [ne_eq, Option.some.injEq]; omega), (below_rowP hbx (some w.heap.size)).cell hH.2.2.1 (by simp only [ne_eq, Option.some.injEq]; omega), (below_rowP hbx (some w.heap.size)).cell hH.2.2.2.1 (by simp only [ne_eq, Option.some.injEq]; omega), (below_rowP hbx (some w.heap.size)).cell hH.2.2.2.2.1 (by simp only [ne_eq, Option.some.injEq]; omega), (below_rowP hbx (some w.heap.size)).cell hH.2.2.2.2.2.1 (by simp only [ne_eq, Option.some.injEq]; omega), (below_rowP hbx (some w.heap.size)).cell hH.2.2.2.2.2.2.1 (by simp only [ne_eq, Option.some.injEq]; omega), (below_rowP hbx (some w.heap.size)).cell hH.2.2.2.2.2.2.2.1 (by simp only [ne_eq, Option.some.injEq]; omega), (below_rowP hbx (some w.heap.size)).cell hH.2.2.2.2.2.2.2.2 (by simp only [ne_eq, Option.some.injEq]; omega)⟩ (fun hH => ?_)
          clear hK K
          try simp only [Act.put, List.setIfInBounds_toArray, List.set_cons_zero, List.set_cons_succ]
          refine takeH 10 (v := ?ve10) rfl (by kernel_rfl) (by kernel_rfl) (by kernel_rfl) (fun _ _ _ h => h) hH rfl ?ye10 ?re10
          case ye10 => intro W hSw; go_simp; try with_reducible rfl
          try simp only [Act.put, List.setIfInBounds_toArray, List.set_cons_zero, List.set_cons_succ]
          refine takeH 11 (v := ?ve11) rfl (by kernel_rfl) (by kernel_rfl) (by kernel_rfl) (fun _ _ _ h => h) hH rfl ?ye11 ?re11
          case ye11 => intro W hSw; go_simp; try with_reducible rfl
          try simp only [Act.put, List.setIfInBounds_toArray, List.set_cons_zero, List.set_cons_succ]
          refine takeH 12 (v := ?ve12) rfl (by kernel_rfl) (by kernel_rfl) (by kernel_rfl) (fun _ _ _ h => h) hH rfl ?ye12 ?re12
          case ye12 => intro W hSw; go_simp; try with_reducible rfl
          try simp only [Act.put, List.setIfInBounds_toArray, List.set_cons_zero, List.set_cons_succ]
          refine takeH 13 (v := ?ve13) rfl (by kernel_rfl) (by kernel_rfl) (by kernel_rfl) (fun _ _ _ h => h) hH rfl ?ye13 ?re13
          case ye13 => intro W hSw; go_simp; try with_reducible rfl
          try simp only [Act.put, List.setIfInBounds_toArray, List.set_cons_zero, List.set_cons_succ]
          refine takeH 14 (v := ?ve14) rfl (by kernel_rfl) (by kernel_rfl) (by kernel_rfl) (fun _ _ _ h => h) hH rfl ?ye14 ?re14
          case ye14 => intro W hSw; go_simp; try with_reducible rfl
          try simp only [Act.put, List.setIfInBounds_toArray, List.set_cons_zero, List.set_cons_succ]
          refine callH 15 rfl (by kernel_rfl) rfl (fun K hK => ?_)
          go_simp
          go_at_call 66
          refine (HAdd.out _ ((Below.refl _ _).drew.trans hbx)).mono ?_
          rintro e wz ⟨rfl, hgz, _⟩
          generalize hm : adN c (g.take k) ⟨xr, xa, xp, xd⟩ = m at *
          have hm' : (m != 0) = true := by simpa using Hne.out
          clear hm
          refine hK.out _ _ ⟨grownBy_trans hH.1 (hgz), (hgz).cell hH.2.1 (by simp only [ne_eq, Option.some.injEq]; omega), (hgz).cell hH.2.2.1 (by simp only [ne_eq, Option.some.injEq]; omega), (hgz).cell hH.2.2.2.1 (by simp only [ne_eq, Option.some.injEq]; omega), (hgz).cell hH.2.2.2.2.1 (by simp only [ne_eq, Option.some.injEq]; omega), (hgz).cell hH.2.2.2.2.2.1 (by simp only [ne_eq, Option.some.injEq]; omega), (hgz).cell hH.2.2.2.2.2.2.1 (by simp only [ne_eq, Option.some.injEq]; omega), (hgz).cell hH.2.2.2.2.2.2.2.1 (by simp only [ne_eq, Option.some.injEq]; omega), (hgz).cell hH.2.2.2.2.2.2.2.2 (by simp only [ne_eq, Option.some.injEq]; omega)⟩ (fun hH => ?_)
          clear hK K
          try simp only [Act.put, List.setIfInBounds_toArray, List.set_cons_zero, List.set_cons_succ]
          refine takeH 16 (v := ?ve16) rfl (by kernel_rfl) (by kernel_rfl) (by kernel_rfl) (fun _ _ _ h => h) hH rfl ?ye16 ?re16
          case ye16 => intro W hSw; go_simp; try with_reducible rfl
          try simp only [Act.put, List.setIfInBounds_toArray, List.set_cons_zero, List.set_cons_succ]
          refine takeH 17 (v := ?ve17) rfl (by kernel_rfl) (by kernel_rfl) (by kernel_rfl) (fun _ _ _ h => h) hH rfl ?ye17 ?re17
          case ye17 => intro W hSw; go_simp; try with_reducible rfl
          try simp only [Act.put, List.setIfInBounds_toArray, List.set_cons_zero, List.set_cons_succ]
          refine wpAnyH_done (by kernel_rfl) ?_ _
          try simp only [Act.put]
          have Hend := Lib.hid (HbwA.out.grown hH.1 HbwA.out.size (fun g e => by cases e; exact Nat.le_refl _))
          go_wp2
          go_ret2
          exact of_no (by rw [Hres.out, Hz.out]) rfl Hend.out
        | true =>
          obtain ⟨hz1, hz2⟩ := HS2.out.1 hst
          have Hz1 := Lib.hid hz1
          have Hz2 := Lib.hid hz2
          have Hup1 := Lib.hid (upto_step Hup.out hst)
          clear hz1 hz2
          refine wp_region_held_drew (S := fun w' => wB.grownBy w' (some w.heap.size) ∧ w'.cell? ⟨wr.heap.size, 0, none⟩ = some (.int .i64 xr) ∧ w'.cell? ⟨wr.heap.size, 1, none⟩ = some (.int .i64 xa) ∧ w'.cell? ⟨wr.heap.size, 2, none⟩ = some (.slice pa xp.length pc) ∧ w'.cell? ⟨wr.heap.size, 3, none⟩ = some (.int .i64 xd) ∧ w'.cell? ⟨b, off + (k - 1) * 4, none⟩ = some (.int .i64 yr) ∧ w'.cell? ⟨b, off + (k - 1) * 4 + 1, none⟩ = some (.int .i64 ya) ∧ w'.cell? ⟨b, off + (k - 1) * 4 + 2, none⟩ = some (.slice pa' yp.length pc') ∧ w'.cell? ⟨b, off + (k - 1) * 4 + 3, none⟩ = some (.int .i64 yd)) (by kernel_rfl) ⟨below_rowP (Below.refl _ _).drew _, k0, k1, k2, k3, d0, d1, d2, d3⟩ (fun hH => ?_)
          refine takeH 0 (v := ?vf0) rfl (by kernel_rfl) (by kernel_rfl) (by kernel_rfl) (fun _ _ _ h => h) hH rfl ?yf0 ?rf0
          case yf0 => intro W hSw; go_simp; try with_reducible rfl
          try simp only [Act.put, List.setIfInBounds_toArray, List.set_cons_zero, List.set_cons_succ]
          refine takeH 1 (v := .bool true) rfl (by kernel_rfl) (by kernel_rfl) (by kernel_rfl) (fun _ _ _ h => h) hH rfl ?yf1 ?rf1
          case yf1 => intro W hSw; go_simp; first | done | simp only [hgt] | omega | (simp; omega)
          try simp only [Act.put, List.setIfInBounds_toArray, List.set_cons_zero, List.set_cons_succ]
          refine takeH 2 (v := ?vf2) rfl (by kernel_rfl) (by kernel_rfl) (by kernel_rfl) (fun _ _ _ h => h) hH rfl ?yf2 ?rf2
          case yf2 => intro W hSw; go_simp; try with_reducible rfl
          try simp only [Act.put, List.setIfInBounds_toArray, List.set_cons_zero, List.set_cons_succ]
          refine takeH 3 (v := ?vf3) rfl (by kernel_rfl) (by kernel_rfl) (by kernel_rfl) (fun _ _ _ h => h) hH rfl ?yf3 ?rf3
          case yf3 => intro W hSw; go_simp; try with_reducible rfl
          try simp only [Act.put, List.setIfInBounds_toArray, List.set_cons_zero, List.set_cons_succ]
          refine takeH 4 (v := ?vf4) rfl (by kernel_rfl) (by kernel_rfl) (by kernel_rfl) (fun _ _ _ h => h) hH rfl ?yf4 ?rf4
          case yf4 => intro W hSw; go_simp; try with_reducible rfl
          try simp only [Act.put, List.setIfInBounds_toArray, List.set_cons_zero, List.set_cons_succ]
          refine takeH 5 (v := ?vf5) rfl (by kernel_rfl) (by kernel_rfl) (by kernel_rfl) (fun _ _ _ h => h) hH rfl ?yf5 ?rf5
          case yf5 => intro W hSw; go_simp; try with_reducible rfl
          try simp only [Act.put, List.setIfInBounds_toArray, List.set_cons_zero, List.set_cons_succ]
          refine takeH 6 (v := ?vf6) rfl (by kernel_rfl) (by kernel_rfl) (by kernel_rfl) (fun _ _ _ h => h) hH rfl ?yf6 ?rf6
          case yf6 => intro W hSw; go_simp; try with_reducible rfl
          try simp only [Act.put, List.setIfInBounds_toArray, List.set_cons_zero, List.set_cons_succ]
          refine takeH 7 (v := ?vf7) rfl (by kernel_rfl) (by kernel_rfl) (by kernel_rfl) (fun _ _ _ h => h) hH rfl ?yf7 ?rf7
          case yf7 => intro W hSw; go_simp; try with_reducible rfl
          try simp only [Act.put, List.setIfInBounds_toArray, List.set_cons_zero, List.set_cons_succ]
          refine takeH 8 (v := ?vf8) rfl (by kernel_rfl) (by kernel_rfl) (by kernel_rfl) (fun _ _ _ h => h) hH rfl ?yf8 ?rf8
          case yf8 => intro W hSw; go_simp; try with_reducible rfl
          try simp only [Act.put, List.setIfInBounds_toArray, List.set_cons_zero, List.set_cons_succ]
          refine callH 9 rfl (by kernel_rfl) rfl (fun K hK => ?_)
          go_simp
          go_at_call 65
          refine (HB.out _).mono ?_
          rintro e wx ⟨rfl, hbx⟩
          refine hK.out _ _ ⟨grownBy_trans hH.1 (below_rowP hbx (some w.heap.size)), (below_rowP hbx (some w.heap.size)).cell hH.2.1 (by simp only [ne_eq, Option.some.injEq]; omega), (below_rowP hbx (some w.heap.size)).cell hH.2.2.1 (by simp only [ne_eq, Option.some.injEq]; omega), (below_rowP hbx (some w.heap.size)).cell hH.2.2.2.1 (by simp only [ne_eq, Option.some.injEq]; omega), (below_rowP hbx (some w.heap.size)).cell hH.2.2.2.2.1 (by simp only [ne_eq, Option.some.injEq]; omega), (below_rowP hbx (some w.heap.size)).cell hH.2.2.2.2.2.1 (by simp only [ne_eq, Option.some.injEq]; omega), (below_rowP hbx (some w.heap.size)).cell hH.2.2.2.2.2.2.1 (by simp only [ne_eq, Option.some.injEq]; omega), (below_rowP hbx (some w.heap.size)).cell hH.2.2.2.2.2.2.2.1 (by simp only [ne_eq, Option.some.injEq]; omega), (below_rowP hbx (some w.heap.size)).cell hH.2.2.2.2.2.2.2.2 (by simp only [ne_eq, Option.some.injEq]; omega)⟩ (fun hH => ?_)
          clear hK K
          try simp only [Act.put, List.setIfInBounds_toArray, List.set_cons_zero, List.set_cons_succ]
          refine takeH 10 (v := ?vf10) rfl (by kernel_rfl) (by kernel_rfl) (by kernel_rfl) (fun _ _ _ h => h) hH rfl ?yf10 ?rf10
          case yf10 => intro W hSw; go_simp; try with_reducible rfl
          try simp only [Act.put, List.setIfInBounds_toArray, List.set_cons_zero, List.set_cons_succ]
          refine takeH 11 (v := ?vf11) rfl (by kernel_rfl) (by kernel_rfl) (by kernel_rfl) (fun _ _ _ h => h) hH rfl ?yf11 ?rf11
          case yf11 => intro W hSw; go_simp; try with_reducible rfl
          try simp only [Act.put, List.setIfInBounds_toArray, List.set_cons_zero, List.set_cons_succ]
          refine takeH 12 (v := ?vf12) rfl (by kernel_rfl) (by kernel_rfl) (by kernel_rfl) (fun _ _ _ h => h) hH rfl ?yf12 ?rf12
          case yf12 => intro W hSw; go_simp; try with_reducible rfl
          try simp only [Act.put, List.setIfInBounds_toArray, List.set_cons_zero, List.set_cons_succ]
          refine takeH 13 (v := ?vf13) rfl (by kernel_rfl) (by kernel_rfl) (by kernel_rfl) (fun _ _ _ h => h) hH rfl ?yf13 ?rf13
          case yf13 => intro W hSw; go_simp; try with_reducible rfl
          try simp only [Act.put, List.setIfInBounds_toArray, List.set_cons_zero, List.set_cons_succ]
          refine takeH 14 (v := ?vf14) rfl (by kernel_rfl) (by kernel_rfl) (by kernel_rfl) (fun _ _ _ h => h) hH rfl ?yf14 ?rf14
          case yf14 => intro W hSw; go_simp; try with_reducible rfl
          try simp only [Act.put, List.setIfInBounds_toArray, List.set_cons_zero, List.set_cons_succ]
          refine callH 15 rfl (by kernel_rfl) rfl (fun K hK => ?_)
          go_simp
          go_at_call 66
          refine (HAdd.out _ ((Below.refl _ _).drew.trans hbx)).mono ?_
          rintro e wz ⟨rfl, hgz, hi2, h2, hl2⟩
          rw [Hz1.out]
          rw [Hz2.out] at hl2
          have Hadd := Lib.hid hl2
          clear hl2
          refine hK.out _ _ ⟨grownBy_trans hH.1 (hgz), (hgz).cell hH.2.1 (by simp only [ne_eq, Option.some.injEq]; omega), (hgz).cell hH.2.2.1 (by simp only [ne_eq, Option.some.injEq]; omega), (hgz).cell hH.2.2.2.1 (by simp only [ne_eq, Option.some.injEq]; omega), (hgz).cell hH.2.2.2.2.1 (by simp only [ne_eq, Option.some.injEq]; omega), (hgz).cell hH.2.2.2.2.2.1 (by simp only [ne_eq, Option.some.injEq]; omega), (hgz).cell hH.2.2.2.2.2.2.1 (by simp only [ne_eq, Option.some.injEq]; omega), (hgz).cell hH.2.2.2.2.2.2.2.1 (by simp only [ne_eq, Option.some.injEq]; omega), (hgz).cell hH.2.2.2.2.2.2.2.2 (by simp only [ne_eq, Option.some.injEq]; omega)⟩ (fun hH => ?_)
          clear hK K
          try simp only [Act.put, List.setIfInBounds_toArray, List.set_cons_zero, List.set_cons_succ]
          refine takeH 16 (v := ?vf16) rfl (by kernel_rfl) (by kernel_rfl) (by kernel_rfl) (fun _ _ _ h => h) hH rfl ?yf16 ?rf16
          case yf16 => intro W hSw; go_simp; try with_reducible rfl
          try simp only [Act.put, List.setIfInBounds_toArray, List.set_cons_zero, List.set_cons_succ]
          refine takeH 17 (v := ?vf17) rfl (by kernel_rfl) (by kernel_rfl) (by kernel_rfl) (fun _ _ _ h => h) hH rfl ?yf17 ?rf17
          case yf17 => intro W hSw; go_simp; try with_reducible rfl
          try simp only [Act.put, List.setIfInBounds_toArray, List.set_cons_zero, List.set_cons_succ]
          refine wpAnyH_done (by kernel_rfl) ?_ _
          try simp only [Act.put]
          have Hend := Lib.hid (HbwA.out.grown hH.1 HbwA.out.size (fun g e => by cases e; exact Nat.le_refl _))
          go_wp2
          go_roundw
          case rel => exact ⟨k + 1, _, _, by omega, by go_num, Hup1.out, Hadd.out, Hend.out⟩
          case measure => simp [intOf]; omega
    · have hke : k = g.length := by omega
      subst hke
      rw [List.take_length] at HL
      have Hz := Lib.hid (show graphB c g = true by rw [Hres.out]; exact allB_yes Hup.out (Nat.le_refl _))
      go_wp2
      go_ret2
      exact of_yes Hz.out rfl Hbel.out (Nat.le_refl _) HL.out

end Go.Proofs.YtjaacdapibokiaaGreatDoor

/- impl's authors of a round, GraphValid, VertexValid, GraphAdd, GraphAuthors, GraphHeight and GraphMerge, each by a walk of its text; conditions: lists are shorter than 2^40 (a graph: 2^20). -/
namespace Go.Proofs.YtjaacdapibokiaaGreatDoor
open Go.RowKit

section
variable (ac : Option Addr) (capc : Nat) (c : List Int) (g : List Vx) (v : Value) (fp : List Nat) (w : World) (hn : c.length ≤ 1099511627776) (hbig : g.length ≤ 1048576) (hps : ∀ x ∈ g, x.ps.length ≤ 1099511627776) (hc : IntsAt w ac c) (hg : Gr w g v fp)
include hn hbig hps hc hg
theorem graphOf_no (h : graphB c g = false) : Calls Tryz.prog 45 #[.slice ac c.length capc, v] w fun e w' => e = .returned (.tuple #[.pointer none, .bool false]) ∧ Below w.heap.size w w' :=
  (impl_graphOf ac capc c g v fp w hn hbig hps hc hg).mono fun e w' hp => by
    obtain ⟨hb, ⟨_, he⟩ | ⟨ht, _⟩⟩ := hp
    · exact ⟨he, hb⟩
    · rw [h] at ht; cases ht
theorem graphOf_yes (h : graphB c g = true) : Calls Tryz.prog 45 #[.slice ac c.length capc, v] w fun e w' => ∃ G, e = .returned (.tuple #[.pointer (some ⟨G, 0, none⟩), .bool true]) ∧ Below w.heap.size w w' ∧ w.heap.size ≤ G ∧ ∃ hi h, Lk w w' hi G (.slice ac c.length capc) h g :=
  (impl_graphOf ac capc c g v fp w hn hbig hps hc hg).mono fun e w' hp => by
    obtain ⟨hb, ⟨hf, _⟩ | ⟨_, G, hi, h', he, hG, hl⟩⟩ := hp
    · rw [h] at hf; cases hf
    · exact ⟨G, he, hb, hG, hi, h', hl⟩
end

theorem impl_GraphValid' (ac : Option Addr) (capc : Nat) (c : List Int) (g : List Vx) (v : Value) (fp : List Nat) (w : World) (hn : c.length ≤ 1099511627776) (hbig : g.length ≤ 1048576) (hps : ∀ x ∈ g, x.ps.length ≤ 1099511627776) (hc : IntsAt w ac c) (hg : Gr w g v fp) :
    Calls Tryz.prog 35 #[.slice ac c.length capc, v] w fun e w' => e = .returned (.bool (graphB c g)) ∧ Below w.heap.size w w' := by
  cases h : graphB c g with
  | false =>
    have H := Lib.hid (graphOf_no ac capc c g v fp w hn hbig hps hc hg h)
    clear hc hg hps h
    go_enter Tryz.func35, Tryz.ntmps35
    go_wp2_with fail
    refine H.out.mono ?_
    rintro e w1 ⟨rfl, hb⟩
    go_wp2
    go_ret
    exact ⟨rfl, hb⟩
  | true =>
    have H := Lib.hid (graphOf_yes ac capc c g v fp w hn hbig hps hc hg h)
    clear hc hg hps h
    go_enter Tryz.func35, Tryz.ntmps35
    go_wp2_with fail
    refine H.out.mono ?_
    rintro e w1 ⟨G, rfl, hb, _⟩
    go_wp2
    go_ret
    exact ⟨rfl, hb⟩

end Go.Proofs.YtjaacdapibokiaaGreatDoor

/- impl's marking of a vertex's past along pointers, by a walk of its text (it calls itself: by the vertex's round); the graph is valid. -/
namespace Go.Proofs.YtjaacdapibokiaaGreatDoor
open Go.RowKit

/-- The number of a mark. -/
def plM (r a : Int) : Nat := r.toNat * 7 + a.toNat
theorem plM_inj {r a r' a' : Int} (hr : 0 ≤ r) (ha : 0 ≤ a) (ha' : a ≤ 6) (hr2 : 0 ≤ r') (ha2 : 0 ≤ a') (ha2' : a' ≤ 6) (h : plM r a = plM r' a') : r = r' ∧ a = a' := by
  unfold plM at h; omega
theorem plM_bd {r a : Int} (h : r ≤ 30) (ha : a ≤ 6) : plM r a < 217 := by unfold plM; omega
/-- Each parent of a vertex is there. -/
def Par (g : List Vx) : Prop := ∀ y ∈ g, ∀ p ∈ y.ps, ∃ z ∈ g, z.r = y.r - 1 ∧ z.a = p
/-- What is marked in the first n rounds has its parents marked. -/
def ClsM (g : List Vx) (bs : Nat → Bool) (n : Int) : Prop := ∀ z ∈ g, z.r ≤ n → bs (plM z.r z.a) = true → ∀ p ∈ z.ps, bs (plM (z.r - 1) p) = true
/-- A set of vertices that is closed. -/
def ClsP (g : List Vx) (P : Vx → Prop) : Prop := ∀ y ∈ g, P y → ∀ p ∈ y.ps, ∀ z ∈ g, z.r = y.r - 1 → z.a = p → P z
def setM (bs : Nat → Bool) (i : Nat) : Nat → Bool := fun j => if j = i then true else bs j
def marksV (bs : Nat → Bool) : Array Value := arrP 217 fun i => .bool (bs i)
theorem marksV_set (bs : Nat → Bool) (i : Nat) : (marksV bs).setIfInBounds i (.bool true) = marksV (setM bs i) := by
  unfold marksV; rw [arrP_set]; congr 1; funext j
  unfold setM
  by_cases h : j = i <;> simp [h]
/-- What marking a vertex's past does to the marks. -/
structure Mkd (g : List Vx) (y : Vx) (bs bs' : Nat → Bool) : Prop where
  up : ∀ i, bs i = true → bs' i = true
  it : bs' (plM y.r y.a) = true
  cls : ClsM g bs' y.r
  new : ∀ i, bs' i = true → bs i = true ∨ i = plM y.r y.a ∨ i < y.r.toNat * 7
  only : ∀ P, ClsP g P → P y → ∀ z ∈ g, bs' (plM z.r z.a) = true → bs (plM z.r z.a) = true ∨ P z
theorem mkd_old {g : List Vx} {y : Vx} {bs : Nat → Bool} (h : bs (plM y.r y.a) = true) (hc : ClsM g bs y.r) : Mkd g y bs bs :=
  ⟨fun _ h => h, h, hc, fun _ h => .inl h, fun _ _ _ _ _ h => .inl h⟩
/-- Behind the first k parents. -/
structure Mkk (g : List Vx) (y : Vx) (bs bs' : Nat → Bool) (k : Nat) : Prop where
  up : ∀ i, bs i = true → bs' i = true
  it : bs' (plM y.r y.a) = true
  ps : ∀ j (h : j < y.ps.length), j < k → bs' (plM (y.r - 1) y.ps[j]) = true
  cls : ClsM g bs' (y.r - 1)
  new : ∀ i, bs' i = true → bs i = true ∨ i = plM y.r y.a ∨ i < y.r.toNat * 7
  only : ∀ P, ClsP g P → P y → ∀ z ∈ g, bs' (plM z.r z.a) = true → bs (plM z.r z.a) = true ∨ P z
theorem mkk_start {g : List Vx} {y : Vx} {bs : Nat → Bool} (hs : Srt g) (hin : ∀ z ∈ g, inPl z) (hy : y ∈ g) (hc : ClsM g bs y.r) : Mkk g y bs (setM bs (plM y.r y.a)) 0 := by
  refine ⟨fun i h => ?_, ?_, fun j _ h => by omega, fun z hz hr hm p hp => ?_, fun i h => ?_, fun P hP hPy z hz hm => ?_⟩
  · unfold setM; split
    · rfl
    · exact h
  · unfold setM; rw [if_pos rfl]
  · have iy := hin y hy
    have iz := hin z hz
    unfold inPl at iy iz
    unfold setM at hm ⊢
    rw [if_neg (fun e => by have := (plM_inj iz.1 iz.2.2.1 iz.2.2.2 iy.1 iy.2.2.1 iy.2.2.2 e).1; omega)] at hm
    split
    · rfl
    · exact hc z hz (by omega) hm p hp
  · unfold setM at h
    split at h
    · rename_i e; exact .inr (.inl e)
    · exact .inl h
  · unfold setM at hm
    split at hm
    · rename_i e
      have iy := hin y hy
      have iz := hin z hz
      unfold inPl at iy iz
      obtain ⟨e1, e2⟩ := plM_inj iz.1 iz.2.2.1 iz.2.2.2 iy.1 iy.2.2.1 iy.2.2.2 e
      rw [srt_uni hs hz hy e1 e2]
      exact .inr hPy
    · exact .inl hm
theorem mkk_step {g : List Vx} {y z : Vx} {bs b1 b2 : Nat → Bool} {k : Nat} (hin : ∀ z ∈ g, inPl z) (hy : y ∈ g) (h : Mkk g y bs b1 k) (hz : z ∈ g) (hk : k < y.ps.length) (hr : z.r = y.r - 1) (ha : z.a = y.ps[k]) (h2 : Mkd g z b1 b2) : Mkk g y bs b2 (k + 1) := by
  have iz := hin z hz
  unfold inPl at iz
  refine ⟨fun i hi => h2.up i (h.up i hi), h2.up _ h.it, fun j hj hjk => ?_, by rw [← hr]; exact h2.cls, fun i hi => ?_, fun P hP hPy x hx hm => ?_⟩
  · by_cases e : j = k
    · subst e; rw [← hr, ← ha]; exact h2.it
    · exact h2.up _ (h.ps j hj (by omega))
  · rcases h2.new i hi with h' | h' | h'
    · exact h.new i h'
    · exact .inr (.inr (by rw [h']; unfold plM; omega))
    · exact .inr (.inr (by omega))
  · have hPz : P z := hP y hy hPy _ (List.getElem_mem hk) z hz hr ha
    rcases h2.only P hP hPz x hx hm with h' | h'
    · exact h.only P hP hPy x hx h'
    · exact .inr h'
theorem mkk_end {g : List Vx} {y : Vx} {bs bs' : Nat → Bool} (hs : Srt g) (hin : ∀ z ∈ g, inPl z) (hy : y ∈ g) (hc : ClsM g bs y.r) (h : Mkk g y bs bs' y.ps.length) : Mkd g y bs bs' := by
  refine ⟨h.up, h.it, fun z hz hr hm p hp => ?_, h.new, h.only⟩
  have iy := hin y hy
  have iz := hin z hz
  unfold inPl at iy iz
  by_cases e : z.r ≤ y.r - 1
  · exact h.cls z hz e hm p hp
  · rcases h.new _ hm with h' | h' | h'
    · exact h.up _ (hc z hz hr h' p hp)
    · obtain ⟨e1, e2⟩ := plM_inj iz.1 iz.2.2.1 iz.2.2.2 iy.1 iy.2.2.1 iy.2.2.2 h'
      have := srt_uni hs hz hy e1 e2
      subst this
      obtain ⟨j, hj, rfl⟩ := List.mem_iff_getElem.1 hp
      exact h.ps j hj hj
    · unfold plM at h'; omega

theorem run_mark (M : Nat) (r a : Int) (hr : 0 ≤ r) (hr2 : r ≤ 30) (ha : 0 ≤ a) (ha2 : a ≤ 6) : ∃ o1, (∀ w, (Instr.indexAt 87 (.pointer (some ⟨M, 0, none⟩)) (.int .i64 r)).run Tryz.prog w = .ok (.pointer (some ⟨M, o1, none⟩)) w) ∧
    ∀ w, (Instr.indexAt 85 (.pointer (some ⟨M, o1, none⟩)) (.int .i64 a)).run Tryz.prog w = .ok (.pointer (some ⟨M, plM r a, none⟩)) w := by
  refine ⟨0 + r.toNat * 7, fun w => ?_, fun w => ?_⟩
  · exact run_index_z (s := 7) Tryz.underlying87 (by kernel_rfl) (by omega) (by omega) w
  · have := run_index_z (P := Tryz.prog) (B := M) (o := 0 + r.toNat * 7) (s := 1) (k := a.toNat) (z := a) Tryz.underlying85 (by kernel_rfl) (by omega) (by omega) w
    rw [this]
    unfold plM
    rw [Nat.mul_one, Nat.zero_add]
def MarkPost (w : World) (M : Nat) (g : List Vx) (y : Vx) (bs : Nat → Bool) : Ending → World → Prop := fun e w' =>
  e = .returned (.tuple #[]) ∧ w.grownBy w' (some M) ∧ ∃ bs', Str w' M 87 (marksV bs') ∧ Mkd g y bs bs'
set_option maxRecDepth 8000 in
set_option maxHeartbeats 4000000 in
theorem mark_past (w0 wl : World) (hi G : Nat) (mv : Value) (h : Nat → Value) (g : List Vx) (M : Nat) (hL : Lk w0 wl hi G mv h g) (hM : hi ≤ M) (hsrt : Srt g) (hin : ∀ y ∈ g, inPl y) (hpar : Par g) (hr0 : ∀ y ∈ g, y.r = 0 → y.ps.length = 0) (hgp : ∀ y ∈ g, y.ps.length ≤ 1099511627776) :
    ∀ (n : Nat) (y : Vx) (q : Nat) (w : World) (bs : Nat → Bool), y ∈ g → y.r.toNat = n → h (plN y.r y.a) = ptrV q → wl.grownBy w (some M) → Str w M 87 (marksV bs) → ClsM g bs y.r →
      Calls Tryz.prog 47 #[.pointer (some ⟨q, 0, none⟩), .pointer (some ⟨M, 0, none⟩)] w (MarkPost w M g y bs) := by
  have hself : ∀ y ∈ g, ∀ p ∈ y.ps, ∃ z ∈ g, z.r = y.r - 1 ∧ z.a = p := hpar
  have HL := Lib.hid hL; clear hL
  have Hsrt := Lib.hid hsrt; clear hsrt
  have Hin := Lib.hid hin; clear hin
  have Hpar := Lib.hid hself; clear hself hpar
  have Hr0 := Lib.hid hr0; clear hr0
  have Hgp := Lib.hid hgp; clear hgp
  intro n
  induction n using Nat.strongRecOn with
  | _ n ih =>
  intro y q w bs hy hn hq hg hM2 hc
  have iy := Hin.out y hy
  unfold inPl at iy
  obtain ⟨q', hq', nd⟩ := HL.out.has y hy
  have hqq : q' = q := by rw [hq] at hq'; unfold ptrV at hq'; simp at hq'; exact hq'.symm
  subst hqq
  obtain ⟨pa, pc, pv, qs, sq, iq, srq, own, hob, hql, hqp⟩ := nd.ex
  have hqM : q' < M := Nat.lt_of_lt_of_le nd.lt hM
  obtain ⟨pp, pcap, rfl, _⟩ := own.slice
  have HN := Lib.hid (fun W (hW : wl.grownBy W (some M)) => (⟨sq.kept hW (by intro e; cases e; omega), own.kept hW (by
    cases hv : (Value.slice pp qs.length pcap).ownBlock with
    | none => exact .inl rfl
    | some b => refine .inr fun e => ?_; cases e; have := (hob _ hv).2; omega)⟩ : Str W q' 63 #[.int .i64 y.r, .int .i64 y.a, .slice pa y.ps.length pc, .int .i64 y.d, .slice pp qs.length pcap] ∧ OwnP 61 W w0.heap.size (.slice pp qs.length pcap) qs))
  have hqlen : qs.length ≤ 1099511627776 := by have := Hgp.out y hy; omega
  obtain ⟨o1, ho1, ho2⟩ := run_mark M y.r y.a iy.1 iy.2.1 iy.2.2.1 iy.2.2.2
  have sqw := (HN.out w hg).1
  have e0 := sqw.cell 0 (v := .int .i64 y.r) rfl
  have e1 := sqw.cell 1 (v := .int .i64 y.a) rfl
  have em := hM2.cell (plM y.r y.a) (v := .bool (bs (plM y.r y.a))) (arrP_get (plM_bd iy.2.1 iy.2.2.2))
  have hmlt : M < w.heap.size := hM2.lt
  have HG := Lib.hid hg
  have HM2 := Lib.hid hM2
  have Hc := Lib.hid hc
  have Hn := Lib.hid hn
  have Hqp := Lib.hid hqp
  have Hql := Lib.hid hql
  have Hih := Lib.hid ih
  have Hiy := Lib.hid iy
  clear hg hM2 hc hn hqp hql sq iq srq own hob nd hq hq' sqw ih iy
  cases hb : bs (plM y.r y.a) with
  | true =>
    rw [hb] at em
    have Hd := Lib.hid (mkd_old hb Hc.out)
    clear hb
    go_enter Tryz.func47, Tryz.ntmps47
    go_wp2_with fail
    refine wp_region_held_drew (S := fun w' => w'.cell? ⟨q', 0, none⟩ = some (.int .i64 y.r) ∧ w'.cell? ⟨q', 1, none⟩ = some (.int .i64 y.a) ∧ w'.cell? ⟨M, plM y.r y.a, none⟩ = some (.bool true)) (by kernel_rfl) ⟨e0, e1, em⟩ (fun hH => ?_)
    refine takeH 0 (v := ?va0) rfl (by kernel_rfl) (by kernel_rfl) (by kernel_rfl) (fun _ _ _ h => h) hH rfl ?ya0 ?ra0
    case ya0 => intro W hSw; go_simp; try with_reducible rfl
    try simp only [Act.put, List.setIfInBounds_toArray, List.set_cons_zero, List.set_cons_succ]
    refine takeH 1 (v := ?va1) rfl (by kernel_rfl) (by kernel_rfl) (by kernel_rfl) (fun _ _ _ h => h) hH rfl ?ya1 ?ra1
    case ya1 => intro W hSw; go_simp; try with_reducible rfl
    try simp only [Act.put, List.setIfInBounds_toArray, List.set_cons_zero, List.set_cons_succ]
    refine takeH 2 (v := ?va2) rfl (by kernel_rfl) (by kernel_rfl) (by kernel_rfl) (fun _ _ _ h => h) hH rfl ?ya2 ?ra2
    case ya2 => intro W hSw; go_simp; try with_reducible rfl
    try simp only [Act.put, List.setIfInBounds_toArray, List.set_cons_zero, List.set_cons_succ]
    refine takeH 3 (v := ?va3) rfl (by kernel_rfl) (by kernel_rfl) (by kernel_rfl) (fun _ _ _ h => h) hH rfl ?ya3 ?ra3
    case ya3 => intro W hSw; go_simp; try with_reducible rfl
    try simp only [Act.put, List.setIfInBounds_toArray, List.set_cons_zero, List.set_cons_succ]
    refine takeH 4 (v := ?va4) rfl (by kernel_rfl) (by kernel_rfl) (by kernel_rfl) (fun _ _ _ h => h) hH rfl ?ya4 ?ra4
    case ya4 => intro W hSw; go_simp; try with_reducible rfl
    try simp only [Act.put, List.setIfInBounds_toArray, List.set_cons_zero, List.set_cons_succ]
    refine takeH 5 (v := ?va5) rfl (by kernel_rfl) (by kernel_rfl) (by kernel_rfl) (fun _ _ _ h => h) hH rfl ?ya5 ?ra5
    case ya5 => intro W hSw; go_simp; try with_reducible rfl
    try simp only [Act.put, List.setIfInBounds_toArray, List.set_cons_zero, List.set_cons_succ]
    refine takeH 6 (v := ?va6) rfl (by kernel_rfl) (by kernel_rfl) (by kernel_rfl) (fun _ _ _ h => h) hH rfl ?ya6 ?ra6
    case ya6 => intro W hSw; go_simp; try with_reducible rfl
    try simp only [Act.put, List.setIfInBounds_toArray, List.set_cons_zero, List.set_cons_succ]
    refine takeH 7 (v := ?va7) rfl (by kernel_rfl) (by kernel_rfl) (by kernel_rfl) (fun _ _ _ h => h) hH rfl ?ya7 ?ra7
    case ya7 => intro W hSw; go_simp; try with_reducible rfl
    try simp only [Act.put, List.setIfInBounds_toArray, List.set_cons_zero, List.set_cons_succ]
    refine takeH 8 (v := ?va8) rfl (by kernel_rfl) (by kernel_rfl) (by kernel_rfl) (fun _ _ _ h => h) hH rfl ?ya8 ?ra8
    case ya8 => intro W hSw; go_simp; try with_reducible rfl
    try simp only [Act.put, List.setIfInBounds_toArray, List.set_cons_zero, List.set_cons_succ]
    refine takeH 9 (v := ?va9) rfl (by kernel_rfl) (by kernel_rfl) (by kernel_rfl) (fun _ _ _ h => h) hH rfl ?ya9 ?ra9
    case ya9 => intro W hSw; go_simp; try with_reducible rfl
    try simp only [Act.put, List.setIfInBounds_toArray, List.set_cons_zero, List.set_cons_succ]
    refine takeH 10 (v := ?va10) rfl (by kernel_rfl) (by kernel_rfl) (by kernel_rfl) (fun _ _ _ h => h) hH rfl ?ya10 ?ra10
    case ya10 => intro W hSw; go_simp; try with_reducible rfl
    try simp only [Act.put, List.setIfInBounds_toArray, List.set_cons_zero, List.set_cons_succ]
    refine takeH 11 (v := ?va11) rfl (by kernel_rfl) (by kernel_rfl) (by kernel_rfl) (fun _ _ _ h => h) hH rfl ?ya11 ?ra11
    case ya11 => intro W hSw; go_simp; try with_reducible rfl
    try simp only [Act.put, List.setIfInBounds_toArray, List.set_cons_zero, List.set_cons_succ]
    refine takeH 12 (v := ?va12) rfl (by kernel_rfl) (by kernel_rfl) (by kernel_rfl) (fun _ _ _ h => h) hH rfl ?ya12 ?ra12
    case ya12 => intro W hSw; go_simp; try with_reducible rfl
    try simp only [Act.put, List.setIfInBounds_toArray, List.set_cons_zero, List.set_cons_succ]
    refine takeH 13 (v := ?va13) rfl (by kernel_rfl) (by kernel_rfl) (by kernel_rfl) (fun _ _ _ h => h) hH rfl ?ya13 ?ra13
    case ya13 => intro W hSw; go_simp; try with_reducible rfl
    try simp only [Act.put, List.setIfInBounds_toArray, List.set_cons_zero, List.set_cons_succ]
    refine takeH 14 (v := ?va14) rfl (by kernel_rfl) (by kernel_rfl) (by kernel_rfl) (fun _ _ _ h => h) hH rfl ?ya14 ?ra14
    case ya14 => intro W hSw; go_simp; try with_reducible rfl
    try simp only [Act.put, List.setIfInBounds_toArray, List.set_cons_zero, List.set_cons_succ]
    refine wpAnyH_done (by kernel_rfl) ?_ _
    try simp only [Act.put]
    have hdr : w.grownBy w.drew (some M) := below_rowP (Below.refl _ _).drew _
    have hst : Str w.drew M 87 (marksV bs) := HM2.out
    generalize w.drew = W1 at *
    go_wp2
    go_end0
    exact ⟨rfl, hdr, bs, hst, Hd.out⟩
  | false =>
    rw [hb] at em
    have Hk0 := Lib.hid (mkk_start Hsrt.out Hin.out hy Hc.out)
    clear hb
    go_enter Tryz.func47, Tryz.ntmps47
    go_wp2_with fail
    refine wp_region_held_drew (S := fun w' => w'.cell? ⟨q', 0, none⟩ = some (.int .i64 y.r) ∧ w'.cell? ⟨q', 1, none⟩ = some (.int .i64 y.a) ∧ w'.cell? ⟨M, plM y.r y.a, none⟩ = some (.bool false)) (by kernel_rfl) ⟨e0, e1, em⟩ (fun hH => ?_)
    refine takeH 0 (v := ?vb0) rfl (by kernel_rfl) (by kernel_rfl) (by kernel_rfl) (fun _ _ _ h => h) hH rfl ?yb0 ?rb0
    case yb0 => intro W hSw; go_simp; try with_reducible rfl
    try simp only [Act.put, List.setIfInBounds_toArray, List.set_cons_zero, List.set_cons_succ]
    refine takeH 1 (v := ?vb1) rfl (by kernel_rfl) (by kernel_rfl) (by kernel_rfl) (fun _ _ _ h => h) hH rfl ?yb1 ?rb1
    case yb1 => intro W hSw; go_simp; try with_reducible rfl
    try simp only [Act.put, List.setIfInBounds_toArray, List.set_cons_zero, List.set_cons_succ]
    refine takeH 2 (v := ?vb2) rfl (by kernel_rfl) (by kernel_rfl) (by kernel_rfl) (fun _ _ _ h => h) hH rfl ?yb2 ?rb2
    case yb2 => intro W hSw; go_simp; try with_reducible rfl
    try simp only [Act.put, List.setIfInBounds_toArray, List.set_cons_zero, List.set_cons_succ]
    refine takeH 3 (v := ?vb3) rfl (by kernel_rfl) (by kernel_rfl) (by kernel_rfl) (fun _ _ _ h => h) hH rfl ?yb3 ?rb3
    case yb3 => intro W hSw; go_simp; try with_reducible rfl
    try simp only [Act.put, List.setIfInBounds_toArray, List.set_cons_zero, List.set_cons_succ]
    refine takeH 4 (v := ?vb4) rfl (by kernel_rfl) (by kernel_rfl) (by kernel_rfl) (fun _ _ _ h => h) hH rfl ?yb4 ?rb4
    case yb4 => intro W hSw; go_simp; try with_reducible rfl
    try simp only [Act.put, List.setIfInBounds_toArray, List.set_cons_zero, List.set_cons_succ]
    refine takeH 5 (v := ?vb5) rfl (by kernel_rfl) (by kernel_rfl) (by kernel_rfl) (fun _ _ _ h => h) hH rfl ?yb5 ?rb5
    case yb5 => intro W hSw; go_simp; try with_reducible rfl
    try simp only [Act.put, List.setIfInBounds_toArray, List.set_cons_zero, List.set_cons_succ]
    refine takeH 6 (v := ?vb6) rfl (by kernel_rfl) (by kernel_rfl) (by kernel_rfl) (fun _ _ _ h => h) hH rfl ?yb6 ?rb6
    case yb6 => intro W hSw; go_simp; try with_reducible rfl
    try simp only [Act.put, List.setIfInBounds_toArray, List.set_cons_zero, List.set_cons_succ]
    refine takeH 7 (v := ?vb7) rfl (by kernel_rfl) (by kernel_rfl) (by kernel_rfl) (fun _ _ _ h => h) hH rfl ?yb7 ?rb7
    case yb7 => intro W hSw; go_simp; try with_reducible rfl
    try simp only [Act.put, List.setIfInBounds_toArray, List.set_cons_zero, List.set_cons_succ]
    refine takeH 8 (v := ?vb8) rfl (by kernel_rfl) (by kernel_rfl) (by kernel_rfl) (fun _ _ _ h => h) hH rfl ?yb8 ?rb8
    case yb8 => intro W hSw; go_simp; try with_reducible rfl
    try simp only [Act.put, List.setIfInBounds_toArray, List.set_cons_zero, List.set_cons_succ]
    refine takeH 9 (v := ?vb9) rfl (by kernel_rfl) (by kernel_rfl) (by kernel_rfl) (fun _ _ _ h => h) hH rfl ?yb9 ?rb9
    case yb9 => intro W hSw; go_simp; try with_reducible rfl
    try simp only [Act.put, List.setIfInBounds_toArray, List.set_cons_zero, List.set_cons_succ]
    refine takeH 10 (v := ?vb10) rfl (by kernel_rfl) (by kernel_rfl) (by kernel_rfl) (fun _ _ _ h => h) hH rfl ?yb10 ?rb10
    case yb10 => intro W hSw; go_simp; try with_reducible rfl
    try simp only [Act.put, List.setIfInBounds_toArray, List.set_cons_zero, List.set_cons_succ]
    refine takeH 11 (v := ?vb11) rfl (by kernel_rfl) (by kernel_rfl) (by kernel_rfl) (fun _ _ _ h => h) hH rfl ?yb11 ?rb11
    case yb11 => intro W hSw; go_simp; try with_reducible rfl
    try simp only [Act.put, List.setIfInBounds_toArray, List.set_cons_zero, List.set_cons_succ]
    refine takeH 12 (v := ?vb12) rfl (by kernel_rfl) (by kernel_rfl) (by kernel_rfl) (fun _ _ _ h => h) hH rfl ?yb12 ?rb12
    case yb12 => intro W hSw; go_simp; try with_reducible rfl
    try simp only [Act.put, List.setIfInBounds_toArray, List.set_cons_zero, List.set_cons_succ]
    refine takeH 13 (v := ?vb13) rfl (by kernel_rfl) (by kernel_rfl) (by kernel_rfl) (fun _ _ _ h => h) hH rfl ?yb13 ?rb13
    case yb13 => intro W hSw; go_simp; try with_reducible rfl
    try simp only [Act.put, List.setIfInBounds_toArray, List.set_cons_zero, List.set_cons_succ]
    refine takeH 14 (v := ?vb14) rfl (by kernel_rfl) (by kernel_rfl) (by kernel_rfl) (fun _ _ _ h => h) hH rfl ?yb14 ?rb14
    case yb14 => intro W hSw; go_simp; try with_reducible rfl
    try simp only [Act.put, List.setIfInBounds_toArray, List.set_cons_zero, List.set_cons_succ]
    refine wpAnyH_done (by kernel_rfl) ?_ _
    try simp only [Act.put]
    have hdr : w.grownBy w.drew (some M) := below_rowP (Below.refl _ _).drew _
    have hst : Str w.drew M 87 (marksV bs) := HM2.out
    obtain ⟨e0, e1, em⟩ := hH
    generalize w.drew = W1 at *
    have HG1 := Lib.hid (grownBy_trans HG.out hdr)
    have Hdr := Lib.hid hdr
    have gm : W1.drew.cell? ⟨M, plM y.r y.a, none⟩ = some (.bool false) := em
    have gf : W1.drew.frozen? ⟨M, plM y.r y.a, none⟩ = false := hst.frozen _
    have Hst := Lib.hid hst
    clear hst hdr em
    go_wp2_with fail
    refine wp_region_L 14 (fun w' => w'.cell? ⟨q', 0, none⟩ = some (.int .i64 y.r) ∧ w'.cell? ⟨q', 1, none⟩ = some (.int .i64 y.a)) (by kernel_rfl) ⟨e0, e1⟩ (fun hH => ?_)
    refine takeL 0 (v := ?vc0) rfl (by kernel_rfl) (by kernel_rfl) (by kernel_rfl) (by kernel_rfl) (by kernel_rfl) (fun _ _ _ h => h) hH rfl ?yc0 ?rc0
    case yc0 => intro w hSw; go_simp; try with_reducible rfl
    try simp only [Act.put, List.setIfInBounds_toArray, List.set_cons_zero, List.set_cons_succ]
    refine takeL 1 (v := ?vc1) rfl (by kernel_rfl) (by kernel_rfl) (by kernel_rfl) (by kernel_rfl) (by kernel_rfl) (fun _ _ _ h => h) hH rfl ?yc1 ?rc1
    case yc1 => intro w hSw; go_simp; try with_reducible rfl
    try simp only [Act.put, List.setIfInBounds_toArray, List.set_cons_zero, List.set_cons_succ]
    refine takeL 2 (v := ?vc2) rfl (by kernel_rfl) (by kernel_rfl) (by kernel_rfl) (by kernel_rfl) (by kernel_rfl) (fun _ _ _ h => h) hH rfl ?yc2 ?rc2
    case yc2 => intro w hSw; go_simp; try with_reducible rfl
    try simp only [Act.put, List.setIfInBounds_toArray, List.set_cons_zero, List.set_cons_succ]
    refine takeL 3 (v := ?vc3) rfl (by kernel_rfl) (by kernel_rfl) (by kernel_rfl) (by kernel_rfl) (by kernel_rfl) (fun _ _ _ h => h) hH rfl ?yc3 ?rc3
    case yc3 => intro w hSw; go_simp; try with_reducible rfl
    try simp only [Act.put, List.setIfInBounds_toArray, List.set_cons_zero, List.set_cons_succ]
    refine takeL 4 (v := ?vc4) rfl (by kernel_rfl) (by kernel_rfl) (by kernel_rfl) (by kernel_rfl) (by kernel_rfl) (fun _ _ _ h => h) hH rfl ?yc4 ?rc4
    case yc4 => intro w hSw; go_simp; try with_reducible rfl
    try simp only [Act.put, List.setIfInBounds_toArray, List.set_cons_zero, List.set_cons_succ]
    refine takeL 5 (v := ?vc5) rfl (by kernel_rfl) (by kernel_rfl) (by kernel_rfl) (by kernel_rfl) (by kernel_rfl) (fun _ _ _ h => h) hH rfl ?yc5 ?rc5
    case yc5 => intro w hSw; go_simp; try with_reducible rfl
    try simp only [Act.put, List.setIfInBounds_toArray, List.set_cons_zero, List.set_cons_succ]
    refine takeL 6 (v := ?vc6) rfl (by kernel_rfl) (by kernel_rfl) (by kernel_rfl) (by kernel_rfl) (by kernel_rfl) (fun _ _ _ h => h) hH rfl ?yc6 ?rc6
    case yc6 => intro w hSw; go_simp; try with_reducible rfl
    try simp only [Act.put, List.setIfInBounds_toArray, List.set_cons_zero, List.set_cons_succ]
    refine takeL 7 (v := ?vc7) rfl (by kernel_rfl) (by kernel_rfl) (by kernel_rfl) (by kernel_rfl) (by kernel_rfl) (fun _ _ _ h => h) hH rfl ?yc7 ?rc7
    case yc7 => intro w hSw; go_simp; try with_reducible rfl
    try simp only [Act.put, List.setIfInBounds_toArray, List.set_cons_zero, List.set_cons_succ]
    refine takeL 8 (v := ?vc8) rfl (by kernel_rfl) (by kernel_rfl) (by kernel_rfl) (by kernel_rfl) (by kernel_rfl) (fun _ _ _ h => h) hH rfl ?yc8 ?rc8
    case yc8 => intro w hSw; go_simp; try with_reducible rfl
    try simp only [Act.put, List.setIfInBounds_toArray, List.set_cons_zero, List.set_cons_succ]
    refine takeL 9 (v := ?vc9) rfl (by kernel_rfl) (by kernel_rfl) (by kernel_rfl) (by kernel_rfl) (by kernel_rfl) (fun _ _ _ h => h) hH rfl ?yc9 ?rc9
    case yc9 => intro w hSw; go_simp; try with_reducible rfl
    try simp only [Act.put, List.setIfInBounds_toArray, List.set_cons_zero, List.set_cons_succ]
    refine takeL 10 (v := ?vc10) rfl (by kernel_rfl) (by kernel_rfl) (by kernel_rfl) (by kernel_rfl) (by kernel_rfl) (fun _ _ _ h => h) hH rfl ?yc10 ?rc10
    case yc10 => intro w hSw; go_simp; try with_reducible rfl
    try simp only [Act.put, List.setIfInBounds_toArray, List.set_cons_zero, List.set_cons_succ]
    refine callL 11 rfl (by kernel_rfl) rfl (fun K hK => ?_)
    go_simp
    refine hK.out _ _ hH (fun hH => ?_)
    clear hK K
    try simp only [Act.put, List.setIfInBounds_toArray, List.set_cons_zero, List.set_cons_succ]
    refine callL 12 rfl (by kernel_rfl) rfl (fun K hK => ?_)
    go_simp
    refine hK.out _ _ hH (fun hH => ?_)
    clear hK K
    try simp only [Act.put, List.setIfInBounds_toArray, List.set_cons_zero, List.set_cons_succ]
    refine callL 13 rfl (by kernel_rfl) rfl (fun K hK => ?_)
    go_simp
    refine hK.out _ _ hH (fun hH => ?_)
    clear hK K
    try simp only [Act.put, List.setIfInBounds_toArray, List.set_cons_zero, List.set_cons_succ]
    refine lastL rfl (by kernel_rfl) (by kernel_rfl) (by kernel_rfl) rfl (fun K hK => ?_)
    go_simp
    refine hK.out _ _ ?_
    clear hK K
    try simp only [Act.put, List.setIfInBounds_toArray, List.set_cons_zero, List.set_cons_succ]
    have hs2 : Str (W1.setCell ⟨M, plM y.r y.a, none⟩ (.bool true)).drew M 87 (marksV (setM bs (plM y.r y.a))) := by
      have := Str.set (W := W1) Hst.out (plM y.r y.a) (.bool true)
      rw [marksV_set] at this
      exact this
    have hg2 : W1.grownBy (W1.setCell ⟨M, plM y.r y.a, none⟩ (.bool true)).drew (some M) := grownBy_trans (grownBy_set W1 M (plM y.r y.a) (.bool true)) (below_rowP (Below.refl _ _).drew _)
    generalize (W1.setCell ⟨M, plM y.r y.a, none⟩ (.bool true)).drew = W2 at *
    have HG2 := Lib.hid (grownBy_trans HG1.out hg2)
    have Hg2 := Lib.hid (grownBy_trans Hdr.out hg2)
    have Hs2 := Lib.hid hs2
    have e4 := (HN.out W2 HG2.out).1.cell 4 (v := .slice pp qs.length pcap) rfl
    clear hs2 hg2 gm gf e0 e1 hH
    go_wp2_with fail
    go_loopw [40] (fun i wr => ∃ (k : Nat) (b2 : Nat → Bool), k ≤ qs.length ∧ i = .int .i64 k ∧ wl.grownBy wr (some M) ∧ w.grownBy wr (some M) ∧ Str wr M 87 (marksV b2) ∧ Mkk g y bs b2 k) (fun i _ => qs.length - (intOf i).toNat)
    case atStart => exact ⟨0, _, by omega, rfl, HG2.out, Hg2.out, Hs2.out, Hk0.out⟩
    case round =>
      obtain ⟨k, b2, hk, rfl, hgl, hgw, hsm, hmk⟩ := hrel
      by_cases hlt : k < qs.length
      · obtain ⟨gb, cap, ep, _, _, hcell⟩ := (HN.out wr hgl).2.cell k hlt
        have hkp : k < y.ps.length := by have := Hql.out; omega
        obtain ⟨z, hz, hzr, hza⟩ := Hpar.out y hy y.ps[k] (List.getElem_mem hkp)
        have hr1 : 1 ≤ y.r := by
          by_cases e : y.r = 0
          · have := Hr0.out y hy e; omega
          · have := Hiy.out.1; omega
        have hzq : h (plN z.r z.a) = ptrV qs[k] := by rw [hzr, hza]; exact Hqp.out k hlt hkp
        have iz := Hin.out z hz
        unfold inPl at iz
        have Hcall := Lib.hid (Hih.out z.r.toNat (by have := Hn.out; omega) z qs[k] wr b2 hz rfl hzq hgl hsm (by rw [hzr]; exact hmk.cls))
        have Hstep := Lib.hid (fun b3 => mkk_step (b2 := b3) Hin.out hy hmk hz hkp hzr hza)
        have Hgl := Lib.hid hgl
        have Hgw := Lib.hid hgw
        simp only [Value.slice.injEq, true_and] at ep
        obtain ⟨rfl, rfl⟩ := ep
        unfold ptrV at hcell
        generalize qs[k] = qk at *
        clear hgl hgw hsm hmk hzr hza hzq iz hr1 hkp
        go_wp2_with fail
        refine Hcall.out.mono ?_
        rintro e w2 ⟨rfl, hg3, b3, hs3, hd3⟩
        have Hg3 := Lib.hid hg3
        have Hs3 := Lib.hid hs3
        have Hd3 := Lib.hid hd3
        clear hg3 hs3 hd3 hcell
        go_wp2
        go_roundw
        case rel => exact ⟨k + 1, b3, by omega, by go_num, grownBy_trans Hgl.out Hg3.out, grownBy_trans Hgw.out Hg3.out, Hs3.out, Hstep.out _ Hd3.out⟩
        case measure => simp [intOf]; omega
      · have hke : k = y.ps.length := by have := Hql.out; omega
        rw [hke] at hmk
        have Hmk := Lib.hid (mkk_end Hsrt.out Hin.out hy Hc.out hmk)
        have Hgw := Lib.hid hgw
        have Hsm := Lib.hid hsm
        clear hmk hgl hgw hsm hke
        go_wp2
        go_end0
        exact ⟨rfl, Hgw.out, b2, Hsm.out, Hmk.out⟩

end Go.Proofs.YtjaacdapibokiaaGreatDoor

/- impl's GraphPast, by a walk of its text; conditions: lists are shorter than 2^40 (a graph: 2^20). -/
namespace Go.Proofs.YtjaacdapibokiaaGreatDoor
open Go.RowKit

theorem own_ne_str {E t : TypeId} {w : World} {B M : Nat} {v : Value} {xs : List Int} {vs : Array Value} (h : Own E w B v xs) (s : Str w M t vs) (hne : E ≠ t) : v.ownBlock ≠ some M := by
  intro e
  rcases h.2 with ⟨rfl, _⟩ | ⟨g, cap, cur, rfl, _, hg, _⟩
  · cases e
  · cases e
    have := hg.symm.trans s
    simp at this
    exact hne this.2
theorem pair_uni {g : List Vx} (h : Srt g) {i j : Nat} (hi : i < g.length) (hj : j < g.length) (hr : g[i].r = g[j].r) (ha : g[i].a = g[j].a) : i = j := by
  have hs := List.pairwise_iff_getElem.1 h
  rcases Nat.lt_trichotomy i j with h1 | h1 | h1
  · have := befB_iff.1 (hs i j hi hj h1); omega
  · exact h1
  · have := befB_iff.1 (hs j i hj hi h1); omega
/-- The marks are the past, as the reference reckons it. -/
theorem marks_past {c : List Int} {g : List Vx} (h : graphB c g = true) {a : Nat} (ha : a < g.length) {bs : Nat → Bool} (hm : Mkd g g[a] (fun _ => false) bs) (hr : ∀ z ∈ g, z.r ≤ g[a].r ∨ True) : ∀ j (hj : j < g.length), bs (plM g[j].r g[j].a) = (pastB g a).getD j false := by
  have hs := graph_sorted h
  obtain ⟨hcl, hca, hcb⟩ := past_closed h ha
  have hfind : ∀ j (hj : j < g.length), findZ g g[j].r g[j].a = j := fun j hj => by
    obtain ⟨k, hk, e, e2⟩ := findZ_mem hs (List.getElem_mem hj)
    rw [e, pair_uni hs hk hj (by rw [e2]) (by rw [e2])]
  have h1 : ∀ j (hj : j < g.length), bs (plM g[j].r g[j].a) = true → (pastB g a).getD j false = true := by
    intro j hj hb
    rcases hm.only (fun z => ∃ i, ∃ hi : i < g.length, g[i] = z ∧ (pastB g a).getD i false = true) (fun y hy hP p hp z hz er ea => by
      obtain ⟨i, hi, rfl, hb⟩ := hP
      obtain ⟨k, hk, rfl⟩ := List.mem_iff_getElem.1 hp
      obtain ⟨j, hj, e, e2⟩ := findZ_mem hs hz
      rw [er, ea] at e
      have := hcl i hi (Nat.zero_le _) hb k hk
      rw [e, Int.toNat_natCast] at this
      exact ⟨j, hj, e2, this⟩) ⟨a, ha, rfl, hca⟩ g[j] (List.getElem_mem hj) hb with h0 | ⟨i, hi, e, hb⟩
    · cases h0
    · rwa [pair_uni hs hi hj (by rw [e]) (by rw [e])] at hb
  have h2 : ∀ n j, (hj : j < g.length) → g.length - j ≤ n → (pastB g a).getD j false = true → bs (plM g[j].r g[j].a) = true ∧ g[j].r ≤ g[a].r := by
    intro n
    induction n with
    | zero => intro j hj hn; omega
    | succ n ih =>
      intro j hj hn hb
      by_cases e : j = a
      · subst e; exact ⟨hm.it, Int.le_refl _⟩
      · obtain ⟨i, hi, hji, hbi, _, er, ep⟩ := past_least h ha j hb e
        obtain ⟨i1, i2⟩ := ih i hi (by omega) hbi
        have := hm.cls g[i] (List.getElem_mem hi) i2 i1 g[j].a ep
        rw [show g[i].r - 1 = g[j].r by omega] at this
        exact ⟨this, by omega⟩
  intro j hj
  cases hb : (pastB g a).getD j false with
  | true => exact (h2 (g.length - j) j hj (Nat.le_refl _) hb).1
  | false =>
    cases hb2 : bs (plM g[j].r g[j].a) with
    | false => rfl
    | true => rw [h1 j hj hb2] at hb; cases hb
theorem pastB_none (g : List Vx) : idxTo (pastB g (-1)) g.length = [] := by
  unfold idxTo pastB
  rw [if_pos (by omega)]
  rw [List.map_eq_nil_iff, List.filter_eq_nil_iff]
  intro i hi
  have hi' := List.mem_range.1 hi
  simp [List.getD, hi']

set_option maxRecDepth 8000 in
set_option maxHeartbeats 4000000 in
theorem impl_GraphPast' (ac : Option Addr) (capc : Nat) (c : List Int) (g : List Vx) (v : Value) (fp : List Nat) (r a : Int) (w : World) (hn : c.length ≤ 1099511627776) (hbig : g.length ≤ 1048576) (hps : ∀ x ∈ g, x.ps.length ≤ 1099511627776) (hc : IntsAt w ac c) (hg : Gr w g v fp) :
    Calls Tryz.prog 20 #[.slice ac c.length capc, v, .int .i64 r, .int .i64 a] w fun e w' => ∃ u, e = .returned u ∧ Own 3 w' w.heap.size u (gpZ c g r a) ∧ Below w.heap.size w w' := by
  have hb0 : Below w.heap.size w (w.alloc (.cells #[] 3)) := (Below.refl _ _).alloc (Nat.le_refl _) _
  have ho0 := own_empty 3 w (Nat.le_refl w.heap.size)
  have Ho0 := Lib.hid ho0; clear ho0
  have Hb0 := Lib.hid hb0
  have hc0 := hc.below hb0
  have hg0 := hg.under hb0
  cases hgb : graphB c g with
  | false =>
    have Hz := Lib.hid (show gpZ c g r a = [] by unfold gpZ; rw [hgb]; rfl)
    have H := Lib.hid (graphOf_no ac capc c g v fp _ hn hbig hps hc0 hg0 hgb)
    clear hc hg hc0 hg0 hb0 hps hgb
    go_enter Tryz.func20, Tryz.ntmps20
    go_wp2_with fail
    generalize w.alloc (.cells #[] 3) = W0 at *
    refine H.out.mono ?_
    rintro e w1 ⟨rfl, hb1⟩
    have Hb1 := Lib.hid (below_step Hb0.out Hb0.out.size hb1)
    have Ho1 := Lib.hid (Ho0.out.below hb1)
    clear hb1
    go_wp2
    go_ret
    exact ⟨_, rfl, by rw [Hz.out]; exact Ho1.out, Hb1.out⟩
  | true =>
  have hv : validB c = true := by have h := hgb; unfold graphB at h; simp only [Bool.and_eq_true] at h; exact h.1
  have hc7 := (validB_len hv).2
  have hsrt := graph_sorted hgb
  have hvx := graph_vtx hgb
  have H := Lib.hid (graphOf_yes ac capc c g v fp _ hn hbig hps hc0 hg0 hgb)
  have Hz := Lib.hid (show gpZ c g r a = idxTo (pastB g (findZ g r a)) g.length by unfold gpZ; rw [hgb]; rfl)
  have Hzn := Lib.hid (show (∀ y ∈ g, ¬ (y.r = r ∧ y.a = a)) → gpZ c g r a = [] from fun h => by rw [Hz.out, findZ_none h, pastB_none])
  have hpl : ∀ y ∈ g, inPl y := fun y hy => vtx_pl hv (hvx y hy)
  have haut : ∀ y ∈ g, 0 ≤ y.a ∧ y.a < (c.length : Int) := fun y hy => by have := vtx_author (hvx y hy); exact this
  have hpar : Par g := fun y hy p hp => by
    obtain ⟨i, hi, rfl⟩ := List.mem_iff_getElem.1 hy
    obtain ⟨k, hk, rfl⟩ := List.mem_iff_getElem.1 hp
    obtain ⟨j, hj, e⟩ := graph_parents hgb i hi k hk
    rcases findZ_cases g (g[i].r - 1) g[i].ps[k] with ⟨e', _⟩ | ⟨j', hj', e', hs, _⟩
    · omega
    · exact ⟨g[j'], List.getElem_mem hj', (of_decide_eq_true hs).1, (of_decide_eq_true hs).2⟩
  have hr00 : ∀ y ∈ g, y.r = 0 → y.ps.length = 0 := fun y hy e => vtx_r0 (hvx y hy) e
  have HMk := Lib.hid (fun (wl : World) (hi G : Nat) (h : Nat → Value) (M : Nat) hL hM => mark_past (w.alloc (.cells #[] 3)) wl hi G (.slice ac c.length capc) h g M hL hM hsrt hpl hpar hr00 hps)
  have Hmp := Lib.hid (fun (k : Nat) (hk : k < g.length) (bs : Nat → Bool) => marks_past (bs := bs) hgb hk)
  have Hpl := Lib.hid hpl
  have Haut := Lib.hid haut
  have Hsrt := Lib.hid hsrt
  have Hg := Lib.hid hg
  have HP := Lib.hid hps
  clear hpl haut hpar hr00 hsrt hvx hc hc0 hg0 hb0 hg hps hgb hv
  obtain ⟨va, vc, rfl⟩ := Hg.out.slice
  go_enter Tryz.func20, Tryz.ntmps20
  go_wp2_with fail
  generalize w.alloc (.cells #[] 3) = W0 at *
  refine H.out.mono ?_
  rintro e w1 ⟨G, rfl, hb1, hG, hi, h, hL⟩
  have HL := Lib.hid hL
  have HB1 := Lib.hid hb1
  have Hb1 := Lib.hid (below_step Hb0.out Hb0.out.size hb1)
  have Ho1 := Lib.hid (Ho0.out.below hb1)
  clear hb1 hL
  go_wp2_with fail
  refine (impl_isRound r w1).mono ?_
  rintro e w2 ⟨rfl, rfl⟩
  cases hr : rngB r with
  | false =>
    have Hzz := Lib.hid (Hzn.out fun y hy e => by
      have := Hpl.out y hy
      unfold inPl at this
      rw [← e.1] at hr
      rw [show rngB y.r = true from decide_eq_true ⟨this.1, this.2.1⟩] at hr; cases hr)
    clear hr
    go_wp2
    go_ret
    exact ⟨_, rfl, by rw [Hzz.out]; exact Ho1.out, Hb1.out⟩
  | true =>
  have hrr : 0 ≤ r ∧ r ≤ 30 := of_decide_eq_true hr
  obtain ⟨hr0, hr1⟩ := hrr
  by_cases ha0 : 0 ≤ a
  case neg =>
    have Hzz := Lib.hid (Hzn.out fun y hy e => by have := Haut.out y hy; omega)
    have ha0' : a < 0 := by omega
    go_wp2
    go_ret
    exact ⟨_, rfl, by rw [Hzz.out]; exact Ho1.out, Hb1.out⟩
  by_cases ha1 : a < (c.length : Int)
  case neg =>
    have Hzz := Lib.hid (Hzn.out fun y hy e => by have := Haut.out y hy; omega)
    have ha1' : (c.length : Int) ≤ a := by omega
    go_wp2
    go_ret
    exact ⟨_, rfl, by rw [Hzz.out]; exact Ho1.out, Hb1.out⟩
  have ha1' : ¬ (c.length : Int) ≤ a := by omega
  have hA0 : decide (a < 0) = false := decide_eq_false (by omega)
  have hA1 : decide ((c.length : Int) ≤ a) = false := decide_eq_false (by omega)
  have ha6 : a ≤ 6 := by omega
  obtain ⟨o1, ho1, ho2⟩ := run_place G r a hr0 hr1 ha0 ha6
  have gp := HL.out.cell (plN_bd hr1 ha6).2
  by_cases hfound : ∃ y ∈ g, y.r = r ∧ y.a = a
  case neg =>
    have hno : ∀ y ∈ g, ¬ (y.r = r ∧ y.a = a) := fun y hy e => hfound ⟨y, hy, e⟩
    have Hzz := Lib.hid (Hzn.out hno)
    rw [HL.out.non r a hr0 hr1 ha0 ha6 hno] at gp
    clear hfound hno
    go_wp2
    go_ret
    exact ⟨_, rfl, by rw [Hzz.out]; exact Ho1.out, Hb1.out⟩
  obtain ⟨y, hy, er, ea⟩ := hfound
  obtain ⟨kk, hkk, ek, eg⟩ := findZ_mem Hsrt.out hy
  obtain ⟨q, hq, nd⟩ := HL.out.has y hy
  have Hhq := Lib.hid hq
  rw [er, ea] at hq ek
  rw [hq] at gp
  unfold ptrV at gp
  have Hek := Lib.hid ek
  have Heg := Lib.hid eg
  have hz72 : Tryz.zeroCells87 = marksV fun _ => false := by kernel_rfl
  have hbM : Below w1.heap.size w1 (w1.alloc (.cells Tryz.zeroCells87 87)) := (Below.refl _ _).alloc (Nat.le_refl _) _
  have gpM : (w1.alloc (.cells Tryz.zeroCells87 87)).cell? ⟨G, plN r a, none⟩ = some (.pointer (some ⟨q, 0, none⟩)) := (hbM.cell (p := ⟨G, plN r a, none⟩) (Nat.lt_of_lt_of_le HL.out.lt HL.out.le)).trans gp
  have sM := Str.new w1 87 Tryz.zeroCells87
  rw [hz72] at sM
  have HMc := Lib.hid (HMk.out w1 hi G h w1.heap.size HL.out HL.out.le y.r.toNat y q (w1.alloc (.cells Tryz.zeroCells87 87)) (fun _ => false) hy rfl Hhq.out (below_rowP hbM _) (by rw [hz72]; exact sM) (fun z _ _ hb => by cases hb))
  have HbM := Lib.hid (below_step Hb1.out Hb1.out.size hbM)
  have HoM := Lib.hid (Ho1.out.below hbM)
  have hlM : w.heap.size < w1.heap.size := by
    have := Hb0.out.size
    have h2 := HB1.out.size
    have h3 := (Ho0.out.lt w.heap.size rfl).2
    omega
  have Hgy := Lib.hid (fun bs (h : Mkd g y (fun _ => false) bs) => Hmp.out kk hkk bs (by rw [Heg.out]; exact h) (fun _ _ => .inr trivial))
  clear nd hq ek eg er ea hz72 hbM sM Hmp
  go_wp2_with fail
  refine HMc.out.mono ?_
  rintro e w3 ⟨rfl, hg3, bs, hs3, hmk⟩
  have Hp := Lib.hid (Hgy.out bs hmk)
  have Hb3 := Lib.hid (HbM.out.grown hg3 HbM.out.size (fun g e => by cases e; omega))
  have Ho3 := Lib.hid (HoM.out.kept hg3 (.inr (by intro e; simp [Value.ownBlock] at e; omega)))
  have Hs3 := Lib.hid hs3
  clear hg3 hs3 hmk gp gpM
  go_wp2_with fail
  go_loopw [9, 62] (fun v i wr => ∃ k : Nat, k ≤ g.length ∧ i = .int .i64 k ∧ Own 3 wr w.heap.size v (idxTo (pastB g kk) k) ∧ Str wr w1.heap.size 87 (marksV bs) ∧ Below w.heap.size w wr) (fun _ i _ => g.length - (intOf i).toNat)
  case atStart => exact ⟨0, Nat.zero_le _, rfl, Ho3.out, Hs3.out, Hb3.out⟩
  case round =>
    obtain ⟨k, hk, rfl, hown, hsm, hbel⟩ := hrel
    have Hown := Lib.hid hown; clear hown
    have Hbel := Lib.hid hbel; clear hbel
    by_cases hlt : k < g.length
    · obtain ⟨b, off, rfl, hb, hat⟩ := (Hg.out.under Hbel.out).at (by omega)
      obtain ⟨c0, c1, ⟨pa, pc, c2, _⟩, c3⟩ := hat k hlt
      have ip := Hpl.out _ (List.getElem_mem hlt)
      unfold inPl at ip
      obtain ⟨o3, hm1, hm2⟩ := run_mark w1.heap.size g[k].r g[k].a ip.1 ip.2.1 ip.2.2.1 ip.2.2.2
      have hpk := Hp.out k hlt
      have hbA : Below wr.heap.size wr (wr.alloc (.cells #[.int .i64 g[k].r, .int .i64 g[k].a, .slice pa g[k].ps.length pc, .int .i64 g[k].d] 39)) := (Below.refl _ _).alloc (Nat.le_refl _) _
      have s0 := Str.new wr 39 #[.int .i64 g[k].r, .int .i64 g[k].a, .slice pa g[k].ps.length pc, .int .i64 g[k].d]
      have k0 := s0.cell 0 (v := .int .i64 g[k].r) rfl
      have k1 := s0.cell 1 (v := .int .i64 g[k].a) rfl
      have hsA := hsm.alloc (.cells #[.int .i64 g[k].r, .int .i64 g[k].a, .slice pa g[k].ps.length pc, .int .i64 g[k].d] 39)
      have em := hsA.cell (plM g[k].r g[k].a) (v := .bool (bs (plM g[k].r g[k].a))) (arrP_get (plM_bd ip.2.1 ip.2.2.2))
      rw [hpk] at em
      have HbA := Lib.hid (below_step Hbel.out Hbel.out.size hbA)
      have HoA := Lib.hid (Hown.out.below hbA)
      have HsA := Lib.hid hsA
      clear hat hbA s0 hsA hsm ip hpk
      generalize g[k] = x at *
      obtain ⟨xr, xa, xp, xd⟩ := x
      dsimp only at *
      cases hbv : (pastB g kk).getD k false with
      | true =>
        rw [hbv] at em
        have Hs := Lib.hid (idxTo_yes hbv)
        have hl := idxTo_len (pastB g kk) k
        clear hbv
        generalize idxTo (pastB g kk) k = out at *
        go_wp2_with fail
        generalize wr.alloc (.cells #[.int .i64 xr, .int .i64 xa, .slice pa xp.length pc, .int .i64 xd] 39) = wB at *
        clear c0 c1 c2 c3
        refine wp_region_held_drew (S := fun w' => w'.cell? ⟨wr.heap.size, 0, none⟩ = some (.int .i64 xr) ∧ w'.cell? ⟨wr.heap.size, 1, none⟩ = some (.int .i64 xa) ∧ w'.cell? ⟨w1.heap.size, plM xr xa, none⟩ = some (.bool true)) (by kernel_rfl) ⟨k0, k1, em⟩ (fun hH => ?_)
        refine takeH 0 (v := ?va0) rfl (by kernel_rfl) (by kernel_rfl) (by kernel_rfl) (fun _ _ _ h => h) hH rfl ?ya0 ?ra0
        case ya0 => intro W hSw; go_simp; try with_reducible rfl
        try simp only [Act.put, List.setIfInBounds_toArray, List.set_cons_zero, List.set_cons_succ]
        refine takeH 1 (v := ?va1) rfl (by kernel_rfl) (by kernel_rfl) (by kernel_rfl) (fun _ _ _ h => h) hH rfl ?ya1 ?ra1
        case ya1 => intro W hSw; go_simp; try with_reducible rfl
        try simp only [Act.put, List.setIfInBounds_toArray, List.set_cons_zero, List.set_cons_succ]
        refine takeH 2 (v := ?va2) rfl (by kernel_rfl) (by kernel_rfl) (by kernel_rfl) (fun _ _ _ h => h) hH rfl ?ya2 ?ra2
        case ya2 => intro W hSw; go_simp; try with_reducible rfl
        try simp only [Act.put, List.setIfInBounds_toArray, List.set_cons_zero, List.set_cons_succ]
        refine takeH 3 (v := ?va3) rfl (by kernel_rfl) (by kernel_rfl) (by kernel_rfl) (fun _ _ _ h => h) hH rfl ?ya3 ?ra3
        case ya3 => intro W hSw; go_simp; try with_reducible rfl
        try simp only [Act.put, List.setIfInBounds_toArray, List.set_cons_zero, List.set_cons_succ]
        refine takeH 4 (v := ?va4) rfl (by kernel_rfl) (by kernel_rfl) (by kernel_rfl) (fun _ _ _ h => h) hH rfl ?ya4 ?ra4
        case ya4 => intro W hSw; go_simp; try with_reducible rfl
        try simp only [Act.put, List.setIfInBounds_toArray, List.set_cons_zero, List.set_cons_succ]
        refine takeH 5 (v := ?va5) rfl (by kernel_rfl) (by kernel_rfl) (by kernel_rfl) (fun _ _ _ h => h) hH rfl ?ya5 ?ra5
        case ya5 => intro W hSw; go_simp; try with_reducible rfl
        try simp only [Act.put, List.setIfInBounds_toArray, List.set_cons_zero, List.set_cons_succ]
        refine takeH 6 (v := ?va6) rfl (by kernel_rfl) (by kernel_rfl) (by kernel_rfl) (fun _ _ _ h => h) hH rfl ?ya6 ?ra6
        case ya6 => intro W hSw; go_simp; try with_reducible rfl
        try simp only [Act.put, List.setIfInBounds_toArray, List.set_cons_zero, List.set_cons_succ]
        refine wpAnyH_done (by kernel_rfl) ?_ _
        try simp only [Act.put]
        have hBd : w.heap.size ≤ wB.drew.heap.size := HbA.out.size
        have HoD := Lib.hid (show Own 3 wB.drew w.heap.size _ out from HoA.out)
        have HbD := Lib.hid HbA.out.drew
        have HsD := Lib.hid (show Str wB.drew w1.heap.size 87 (marksV bs) from HsA.out)
        generalize wB.drew = wC at *
        clear hH k0 k1 em
        go_wp2_with (at_builtin; refine wpList_push TIg rfl (.tmp 74) (.tmp 76) rfl w.heap.size _ out _ rfl HoD.out (by omega) rfl hBd ?_; intro v8 w8 hown8 hg8)
        go_roundw
        case rel => exact ⟨k + 1, by omega, by go_num, by rw [Hs.out]; exact hown8, HsD.out.kept hg8 (fun e => own_ne_str HoD.out HsD.out (by decide) e.symm), HbD.out.grown hg8 hBd (fun g e => (HoD.out.lt g e).1)⟩
        case measure => simp [intOf]; omega
      | false =>
        rw [hbv] at em
        have Hs := Lib.hid (idxTo_no hbv)
        clear hbv
        go_wp2_with fail
        generalize wr.alloc (.cells #[.int .i64 xr, .int .i64 xa, .slice pa xp.length pc, .int .i64 xd] 39) = wB at *
        clear c0 c1 c2 c3
        refine wp_region_held_drew (S := fun w' => w'.cell? ⟨wr.heap.size, 0, none⟩ = some (.int .i64 xr) ∧ w'.cell? ⟨wr.heap.size, 1, none⟩ = some (.int .i64 xa) ∧ w'.cell? ⟨w1.heap.size, plM xr xa, none⟩ = some (.bool false)) (by kernel_rfl) ⟨k0, k1, em⟩ (fun hH => ?_)
        refine takeH 0 (v := ?vb0) rfl (by kernel_rfl) (by kernel_rfl) (by kernel_rfl) (fun _ _ _ h => h) hH rfl ?yb0 ?rb0
        case yb0 => intro W hSw; go_simp; try with_reducible rfl
        try simp only [Act.put, List.setIfInBounds_toArray, List.set_cons_zero, List.set_cons_succ]
        refine takeH 1 (v := ?vb1) rfl (by kernel_rfl) (by kernel_rfl) (by kernel_rfl) (fun _ _ _ h => h) hH rfl ?yb1 ?rb1
        case yb1 => intro W hSw; go_simp; try with_reducible rfl
        try simp only [Act.put, List.setIfInBounds_toArray, List.set_cons_zero, List.set_cons_succ]
        refine takeH 2 (v := ?vb2) rfl (by kernel_rfl) (by kernel_rfl) (by kernel_rfl) (fun _ _ _ h => h) hH rfl ?yb2 ?rb2
        case yb2 => intro W hSw; go_simp; try with_reducible rfl
        try simp only [Act.put, List.setIfInBounds_toArray, List.set_cons_zero, List.set_cons_succ]
        refine takeH 3 (v := ?vb3) rfl (by kernel_rfl) (by kernel_rfl) (by kernel_rfl) (fun _ _ _ h => h) hH rfl ?yb3 ?rb3
        case yb3 => intro W hSw; go_simp; try with_reducible rfl
        try simp only [Act.put, List.setIfInBounds_toArray, List.set_cons_zero, List.set_cons_succ]
        refine takeH 4 (v := ?vb4) rfl (by kernel_rfl) (by kernel_rfl) (by kernel_rfl) (fun _ _ _ h => h) hH rfl ?yb4 ?rb4
        case yb4 => intro W hSw; go_simp; try with_reducible rfl
        try simp only [Act.put, List.setIfInBounds_toArray, List.set_cons_zero, List.set_cons_succ]
        refine takeH 5 (v := ?vb5) rfl (by kernel_rfl) (by kernel_rfl) (by kernel_rfl) (fun _ _ _ h => h) hH rfl ?yb5 ?rb5
        case yb5 => intro W hSw; go_simp; try with_reducible rfl
        try simp only [Act.put, List.setIfInBounds_toArray, List.set_cons_zero, List.set_cons_succ]
        refine takeH 6 (v := ?vb6) rfl (by kernel_rfl) (by kernel_rfl) (by kernel_rfl) (fun _ _ _ h => h) hH rfl ?yb6 ?rb6
        case yb6 => intro W hSw; go_simp; try with_reducible rfl
        try simp only [Act.put, List.setIfInBounds_toArray, List.set_cons_zero, List.set_cons_succ]
        refine wpAnyH_done (by kernel_rfl) ?_ _
        try simp only [Act.put]
        have HoD := Lib.hid (show Own 3 wB.drew w.heap.size _ (idxTo (pastB g kk) k) from HoA.out)
        have HbD := Lib.hid HbA.out.drew
        have HsD := Lib.hid (show Str wB.drew w1.heap.size 87 (marksV bs) from HsA.out)
        generalize wB.drew = wC at *
        clear hH k0 k1 em
        go_wp2
        go_roundw
        case rel => exact ⟨k + 1, by omega, by go_num, by rw [Hs.out]; exact HoD.out, HsD.out, HbD.out⟩
        case measure => simp [intOf]; omega
    · have hke : k = g.length := by omega
      subst hke
      go_wp2
      go_ret
      exact ⟨_, rfl, by rw [Hz.out, Hek.out]; exact Hown.out, Hbel.out⟩

end Go.Proofs.YtjaacdapibokiaaGreatDoor

/- impl's test of leaders, by walks of its texts; condition: lists are shorter than 2^40. -/
namespace Go.Proofs.YtjaacdapibokiaaGreatDoor
open Go.RowKit

set_option maxHeartbeats 1000000 in
theorem committee_hasLeaders (ac : Option Addr) (capc : Nat) (n : Nat) (al : Option Addr) (cap : Nat) (ls : List Int) (w : World) (_hn : n ≤ 1099511627776) (hbig : ls.length ≤ 1099511627776) (hc : IntsAt w al ls) :
    Calls Tryz.prog 52 #[.slice ac n capc, .slice al ls.length cap] w fun e w' => e = .returned (.bool (ldsB n ls)) ∧ w = w' := by
  have Hc := Lib.hid hc; clear hc
  by_cases h15 : ls.length ≤ 15
  case neg =>
    have hz := Lib.hid (show ldsB n ls = false by unfold ldsB; rw [decide_eq_false h15]; simp)
    have h15' : decide ((15 : Int) < (ls.length : Int)) = true := decide_eq_true (by omega)
    have h15'' : (15 : Int) < (ls.length : Int) := by omega
    go_enter Tryz.func52, Tryz.ntmps52
    go_wp2
    go_ret
    exact ⟨by rw [hz.out]; rfl, rfl⟩
  have hz := Lib.hid (show ldsB n ls = allB (okLd n ls) ls.length by unfold ldsB; rw [decide_eq_true h15]; simp)
  have h15' : ¬ (15 : Int) < (ls.length : Int) := by omega
  go_enter Tryz.func52, Tryz.ntmps52
  go_wp2
  go_loopw [12] (fun i wr => ∃ k : Nat, k ≤ ls.length ∧ i = .int .i64 k ∧ Hid (Upto (okLd n ls) k) ∧ w = wr) (fun i _ => ls.length - (intOf i).toNat)
  case atStart => exact ⟨0, by omega, rfl, Lib.hid (upto_zero _), rfl⟩
  case round =>
    obtain ⟨k, hk, rfl, hup, rfl⟩ := hrel
    by_cases hlt : k < ls.length
    · obtain ⟨b, off, rfl, hb, hat⟩ := Hc.out.cell (by omega)
      have hcell := hat k hlt
      have hgd := getD_get hlt
      have hok : okLd n ls k = decide (0 ≤ ls[k] ∧ ls[k] ≤ (n : Int) - 1) := by unfold okLd; rw [hgd]
      have Hok := Lib.hid hok
      clear hat hgd hok
      generalize ls[k] = x at *
      by_cases h1 : x < 0
      · have hres := Lib.hid (show ldsB n ls = false by rw [hz.out]; exact allB_no hlt (Hok.out.trans (decide_eq_false (by omega))))
        go_wp2
        go_ret
        exact ⟨by rw [hres.out]; rfl, rfl⟩
      by_cases h2 : (n : Int) ≤ x
      · have hres := Lib.hid (show ldsB n ls = false by rw [hz.out]; exact allB_no hlt (Hok.out.trans (decide_eq_false (by omega))))
        go_wp2
        go_ret
        exact ⟨by rw [hres.out]; rfl, rfl⟩
      have Hs := Lib.hid (upto_step hup.out (Hok.out.trans (decide_eq_true (by omega))))
      go_wp2
      go_roundw
      case rel => exact ⟨k + 1, by omega, by go_num, Lib.hid Hs.out, trivial⟩
      case measure => simp [intOf]; omega
    · have hres := Lib.hid (show ldsB n ls = true by rw [hz.out, allB_yes hup.out (by omega)])
      go_wp2
      go_ret
      exact ⟨by rw [hres.out]; rfl, rfl⟩

theorem impl_LeadersValid (ac : Option Addr) (capc : Nat) (c : List Int) (al : Option Addr) (cap : Nat) (ls : List Int) (w : World) (hn : c.length ≤ 1099511627776) (hl : ls.length ≤ 1099511627776) (hc : IntsAt w ac c) (hi : IntsAt w al ls) :
    Calls Tryz.prog 28 #[.slice ac c.length capc, .slice al ls.length cap] w fun e w' => e = .returned (.bool (lvB c ls)) ∧ w = w' := by
  have HV := Lib.hid (impl_CommitteeValid ac capc c w hn hc)
  have HL := Lib.hid (committee_hasLeaders ac capc c.length al cap ls w hn hl hi)
  have Hres := Lib.hid (show lvB c ls = (validB c && ldsB c.length ls) from rfl)
  clear hc hi
  go_enter Tryz.func28, Tryz.ntmps28
  go_wp2_with fail
  refine HV.out.mono ?_
  rintro e w1 ⟨rfl, rfl⟩
  cases h1 : validB c with
  | false =>
    go_wp2
    go_ret
    exact ⟨ret_bool (by rw [Hres.out, h1]; rfl), rfl⟩
  | true =>
  go_wp2_with fail
  refine HL.out.mono ?_
  rintro e w2 ⟨rfl, rfl⟩
  go_wp2
  go_ret
  exact ⟨ret_bool (by rw [Hres.out, h1]; rfl), rfl⟩

end Go.Proofs.YtjaacdapibokiaaGreatDoor

/- impl's graph with its leaders, each by a walk of its text; conditions: lists are shorter than 2^40 (a graph: 2^20). -/
namespace Go.Proofs.YtjaacdapibokiaaGreatDoor
open Go.RowKit

/-- The graph with its leaders. -/
structure Lg (w0 w : World) (hi G q : Nat) (mv : Value) (h : Nat → Value) (g : List Vx) (al : Option Addr) (cap : Nat) (ls : List Int) : Prop where
  lk : Lk w0 w hi G mv h g
  st : Str w q 104 #[.pointer (some ⟨G, 0, none⟩), .slice al ls.length cap]
  hq : hi ≤ q
theorem Lg.under {w0 w w' : World} {hi G q : Nat} {mv : Value} {h : Nat → Value} {g : List Vx} {al : Option Addr} {cap : Nat} {ls : List Int} (l : Lg w0 w hi G q mv h g al cap ls) (hb : Below w.heap.size w w') : Lg w0 w' hi G q mv h g al cap ls :=
  ⟨l.lk.under hb, (hb.block _ l.st.lt).trans l.st, l.hq⟩
set_option maxRecDepth 8000 in
theorem ledGraphOf_no (ac : Option Addr) (capc : Nat) (c : List Int) (g : List Vx) (v : Value) (fp : List Nat) (al : Option Addr) (cap : Nat) (ls : List Int) (eN eI : Addr) (w : World) (hn : c.length ≤ 1099511627776) (hbig : g.length ≤ 1048576) (hps : ∀ x ∈ g, x.ps.length ≤ 1099511627776) (hl : ls.length ≤ 1099511627776) (hc : IntsAt w ac c) (hg : Gr w g v fp) (hi : IntsAt w al ls) (hs : Sen w eN eI) (hno : waB c g ls = false) :
    Calls Tryz.prog 43 #[.slice ac c.length capc, v, .slice al ls.length cap] w fun e w' => e = .returned (.tuple #[.pointer none, .iface 152 (.pointer (some eI))]) ∧ Below w.heap.size w w' := by
  cases hgb : graphB c g with
  | false =>
    have H := Lib.hid (graphOf_no ac capc c g v fp w hn hbig hps hc hg hgb)
    have Hs := Lib.hid hs
    clear hc hg hps hi hs hno hgb
    go_enter Tryz.func43, Tryz.ntmps43
    go_wp2_with fail
    refine H.out.mono ?_
    rintro e w1 ⟨rfl, hb⟩
    have hgI := (Hs.out.below hb).gI
    have Hb := Lib.hid hb; clear hb
    go_wp2_with fail
    go_quiet (fail)
    go_wp2
    go_ret2
    exact ⟨rfl, below_step Hb.out Hb.out.size (((Drawn.refl _).drewN _).below _)⟩
  | true =>
    have hlv : lvB c ls = false := by
      unfold waB at hno; rw [hgb] at hno
      unfold lvB
      rw [show ldsB c.length ls = false by simpa using hno]; simp
    have H := Lib.hid (graphOf_yes ac capc c g v fp w hn hbig hps hc hg hgb)
    have HL := Lib.hid (fun W (hb : Below w.heap.size w W) => impl_LeadersValid ac capc c al cap ls W hn hl (hc.below hb) (hi.below hb))
    rw [hlv] at HL
    have Hs := Lib.hid hs
    clear hc hg hps hi hs hno hgb hlv
    go_enter Tryz.func43, Tryz.ntmps43
    go_wp2_with fail
    refine H.out.mono ?_
    rintro e w1 ⟨G, rfl, hb, _⟩
    have hgI := (Hs.out.below hb).gI
    have Hb := Lib.hid hb; clear hb
    go_wp2_with fail
    refine (HL.out w1 Hb.out).mono ?_
    rintro e w2 ⟨rfl, rfl⟩
    go_wp2_with fail
    go_quiet (fail)
    go_wp2
    go_ret2
    exact ⟨rfl, below_step Hb.out Hb.out.size (((Drawn.refl _).drewN _).below _)⟩
set_option maxRecDepth 8000 in
theorem ledGraphOf_yes (ac : Option Addr) (capc : Nat) (c : List Int) (g : List Vx) (v : Value) (fp : List Nat) (al : Option Addr) (cap : Nat) (ls : List Int) (w : World) (hn : c.length ≤ 1099511627776) (hbig : g.length ≤ 1048576) (hps : ∀ x ∈ g, x.ps.length ≤ 1099511627776) (hl : ls.length ≤ 1099511627776) (hc : IntsAt w ac c) (hg : Gr w g v fp) (hi : IntsAt w al ls) (hyes : waB c g ls = true) :
    Calls Tryz.prog 43 #[.slice ac c.length capc, v, .slice al ls.length cap] w fun e w' => ∃ q G hi' h, e = .returned (.tuple #[.pointer (some ⟨q, 0, none⟩), .nilIface]) ∧ Below w.heap.size w w' ∧ w.heap.size ≤ q ∧ Lg w w' hi' G q (.slice ac c.length capc) h g al cap ls := by
  have hgb : graphB c g = true := by unfold waB at hyes; simp only [Bool.and_eq_true] at hyes; exact hyes.1
  have hv : validB c = true := by have h := hgb; unfold graphB at h; simp only [Bool.and_eq_true] at h; exact h.1
  have hlv : lvB c ls = true := by
    unfold waB at hyes; simp only [Bool.and_eq_true] at hyes
    unfold lvB; rw [hv, hyes.2]; rfl
  have H := Lib.hid (graphOf_yes ac capc c g v fp w hn hbig hps hc hg hgb)
  have HL := Lib.hid (fun W (hb : Below w.heap.size w W) => impl_LeadersValid ac capc c al cap ls W hn hl (hc.below hb) (hi.below hb))
  rw [hlv] at HL
  clear hc hg hps hi hyes hgb hlv hv
  go_enter Tryz.func43, Tryz.ntmps43
  go_wp2_with fail
  refine H.out.mono ?_
  rintro e w1 ⟨G, rfl, hb, hG, hi', h, hL⟩
  have HLk := Lib.hid hL
  have Hb := Lib.hid hb; clear hb hL
  go_wp2_with fail
  refine (HL.out w1 Hb.out).mono ?_
  rintro e w2 ⟨rfl, rfl⟩
  have hal : Below w1.heap.size w1 (w1.alloc (.cells #[.pointer (some ⟨G, 0, none⟩), .slice al ls.length cap] 104)) := (Below.refl _ _).alloc (Nat.le_refl _) _
  have Hal := Lib.hid hal; clear hal
  have HS := Lib.hid (Str.new w1 104 #[.pointer (some ⟨G, 0, none⟩), .slice al ls.length cap])
  go_wp2
  go_ret2
  exact ⟨w1.heap.size, G, hi', h, rfl, below_step Hb.out Hb.out.size Hal.out, Hb.out.size, HLk.out.under Hal.out, HS.out, HLk.out.le⟩

end Go.Proofs.YtjaacdapibokiaaGreatDoor

/- impl's leader vertex of a wave, by walks of its text; condition: there are at most 15 leaders, each from 0 to 6. -/
namespace Go.Proofs.YtjaacdapibokiaaGreatDoor
open Go.RowKit

section
variable {w0 w : World} {hi G q : Nat} {mv : Value} {h : Nat → Value} {g : List Vx} {al : Option Addr} {cap : Nat} {ls : List Int} {eN eI : Addr}
set_option maxRecDepth 8000 in
theorem led_leader_bad (l : Lg w0 w hi G q mv h g al cap ls) (hs : Sen w eN eI) (k : Int) (_hl : ls.length ≤ 15) (hk : ¬ (1 ≤ k ∧ k ≤ ls.length)) :
    Calls Tryz.prog 55 #[.pointer (some ⟨q, 0, none⟩), .int .i64 k] w fun e w' => e = .returned (.tuple #[.pointer none, .iface 152 (.pointer (some eI))]) ∧ Drawn w w' := by
  have c1 := l.st.cell 1 (v := .slice al ls.length cap) rfl
  have hgI := hs.gI
  by_cases h1 : k < 1
  · have h1' : decide (k < 1) = true := decide_eq_true h1
    clear hs l hk
    go_enter Tryz.func55, Tryz.ntmps55
    go_wp2_with fail
    go_quiet (fail)
    go_wp2
    go_ret2
    exact ⟨rfl, (Drawn.refl _).drewN _⟩
  · have h1' : decide (k < 1) = false := decide_eq_false h1
    have h2 : (ls.length : Int) < k := by omega
    have h2' : decide ((ls.length : Int) < k) = true := decide_eq_true h2
    clear hs l hk
    go_enter Tryz.func55, Tryz.ntmps55
    go_wp2_with fail
    go_quiet (fail)
    go_wp2
    go_ret2
    exact ⟨rfl, (Drawn.refl _).drewN _⟩

/-- What the walk needs of a wave that exists. -/
theorem led_at (l : Lg w0 w hi G q mv h g al cap ls) (k : Nat) (hk : 1 ≤ k ∧ k ≤ ls.length) (hl : ls.length ≤ 15) (hls : ∀ j (hj : j < ls.length), 0 ≤ ls[j] ∧ ls[j] ≤ 6) (hi' : IntsAt w al ls) :
    ∃ (L : Int) (b off : Nat), L = ls.getD (k - 1) 0 ∧ 0 ≤ L ∧ L ≤ 6 ∧ al = some ⟨b, off, none⟩ ∧ w.cell? ⟨b, off + (k - 1), none⟩ = some (.int .i64 L) ∧ w.cell? ⟨G, plN (2 * (k : Int) - 1) L, none⟩ = some (h (plN (2 * (k : Int) - 1) L)) := by
  obtain ⟨b, off, rfl, hb, hat⟩ := hi'.cell (by omega)
  have h0 := hls (k - 1) (by omega)
  have hgd : ls.getD (k - 1) 0 = ls[k - 1]'(by omega) := getD_get (by omega)
  refine ⟨ls[k - 1]'(by omega), b, off, hgd.symm, h0.1, h0.2, rfl, hat (k - 1) (by omega), ?_⟩
  exact l.lk.cell (plN_bd (by omega) h0.2).2
set_option maxRecDepth 8000 in
set_option maxHeartbeats 1000000 in
theorem led_leader (l : Lg w0 w hi G q mv h g al cap ls) (hs : Sen w eN eI) (k : Nat) (hk : 1 ≤ k ∧ k ≤ ls.length) (hl : ls.length ≤ 15) (hls : ∀ j (hj : j < ls.length), 0 ≤ ls[j] ∧ ls[j] ≤ 6) (hi' : IntsAt w al ls) (hp : ∀ y ∈ g, inPl y) :
    Calls Tryz.prog 55 #[.pointer (some ⟨q, 0, none⟩), .int .i64 k] w fun e w' => ((ldZ g ls k = -1 ∧ e = .returned (.tuple #[.pointer none, .iface 152 (.pointer (some eN))])) ∨
      ∃ (j : Nat) (hj : j < g.length) (p : Nat), ldZ g ls k = j ∧ h (plN g[j].r g[j].a) = ptrV p ∧ e = .returned (.tuple #[.pointer (some ⟨p, 0, none⟩), .nilIface])) ∧ Drawn w w' := by
  obtain ⟨L, b, off, hL, hL0, hL6, rfl, hlc, hpc⟩ := led_at l k hk hl hls hi'
  obtain ⟨hk1, hk2⟩ := hk
  have c0 := l.st.cell 0 (v := .pointer (some ⟨G, 0, none⟩)) rfl
  have c1 := l.st.cell 1 (v := .slice (some ⟨b, off, none⟩) ls.length cap) rfl
  have hgN := hs.gN
  obtain ⟨o1, ho1, ho2⟩ := run_place G (2 * (k : Int) - 1) L (by omega) (by omega) hL0 hL6
  have Hz := Lib.hid (show ldZ g ls k = findZ g (2 * (k : Int) - 1) L by unfold ldZ; rw [hL])
  have e1 : IntKind.i64.wrap ((k : Int) - 1) = k - 1 := IntWalk.i64_in _ (by omega)
  have e2 : ((k : Int) - 1).toNat = k - 1 := by omega
  have e3 : 0 ≤ (k : Int) - 1 := by omega
  have e4 : (k : Int) - 1 < ls.length := by omega
  have e5 : 1 ≤ (k : Int) := by omega
  have e6 : (k : Int) ≤ 15 := by omega
  have e7 : decide ((k : Int) < 1) = false := decide_eq_false (by omega)
  have e8 : decide ((ls.length : Int) < (k : Int)) = false := decide_eq_false (by omega)
  have Hcase := Lib.hid (findZ_cases g (2 * (k : Int) - 1) L)
  have HLk := Lib.hid l
  have Hp := Lib.hid hp
  clear hs hls hi' hL l hp
  by_cases hz : ∃ (j : Nat) (hj : j < g.length), findZ g (2 * (k : Int) - 1) L = j ∧ g[j].r = 2 * (k : Int) - 1 ∧ g[j].a = L
  · obtain ⟨j, hj, ez, er, ea⟩ := hz
    obtain ⟨p, hq', _⟩ := HLk.out.lk.has g[j] (List.getElem_mem hj)
    have Hq := Lib.hid hq'
    rw [er, ea] at hq'
    rw [hq'] at hpc
    unfold ptrV at hpc
    have Hr := Lib.hid (show ldZ g ls k = j by rw [Hz.out, ez])
    clear hq' er ea ez
    go_enter Tryz.func55, Tryz.ntmps55
    go_wp2_with fail
    go_quiet (fail)
    go_wp2
    go_ret2
    exact ⟨.inr ⟨j, hj, p, Hr.out, Hq.out, rfl⟩, (Drawn.refl _).drewN _⟩
  · have hno : findZ g (2 * (k : Int) - 1) L = -1 ∧ ∀ y ∈ g, ¬ (y.r = 2 * (k : Int) - 1 ∧ y.a = L) := by
      rcases Hcase.out with ⟨e, hn⟩ | ⟨j, hj, e, hy, _⟩
      · exact ⟨e, fun y hy e2 => by have := hn y hy; unfold sameRA at this; simp at this; omega⟩
      · exact absurd ⟨j, hj, e, of_decide_eq_true hy⟩ hz
    have Hr := Lib.hid (show ldZ g ls k = -1 by rw [Hz.out]; exact hno.1)
    rw [HLk.out.lk.non _ _ (by omega) (by omega) hL0 hL6 hno.2] at hpc
    clear hno hz
    go_enter Tryz.func55, Tryz.ntmps55
    go_wp2_with fail
    go_quiet (fail)
    go_wp2_with fail
    go_quiet (fail)
    go_wp2
    go_ret2
    exact ⟨.inl ⟨Hr.out, rfl⟩, ((Drawn.refl _).drewN _).drewN _⟩
end

end Go.Proofs.YtjaacdapibokiaaGreatDoor

/- impl's votes for a leader vertex and the library's search among pointers, each by a walk of its text; conditions: the graph and the leaders are valid, lists are shorter than 2^40. -/
namespace Go.Proofs.YtjaacdapibokiaaGreatDoor
open Go.RowKit

/-- All that holds of a valid graph with valid leaders. -/
structure Good21 (c : List Int) (g : List Vx) (ls : List Int) : Prop where
  gb : graphB c g = true
  hv : validB c = true
  srt : Srt g
  pl : ∀ y ∈ g, inPl y
  aut : ∀ y ∈ g, 0 ≤ y.a ∧ y.a < (c.length : Int)
  par : Par g
  r0 : ∀ y ∈ g, y.r = 0 → y.ps.length = 0
  ps : ∀ y ∈ g, y.ps.length ≤ 1099511627776
  l15 : ls.length ≤ 15
  l6 : ∀ j (hj : j < ls.length), 0 ≤ ls[j] ∧ ls[j] ≤ 6
theorem good21 {c : List Int} {g : List Vx} {ls : List Int} (h : waB c g ls = true) (hps : ∀ x ∈ g, x.ps.length ≤ 1099511627776) : Good21 c g ls := by
  unfold waB at h; simp only [Bool.and_eq_true] at h
  obtain ⟨hgb, hl⟩ := h
  have hv : validB c = true := by have h := hgb; unfold graphB at h; simp only [Bool.and_eq_true] at h; exact h.1
  have hvx := graph_vtx hgb
  have hc7 := (validB_len hv).2
  obtain ⟨h15, h6⟩ := ldAt hl
  refine ⟨hgb, hv, graph_sorted hgb, fun y hy => vtx_pl hv (hvx y hy), fun y hy => by have := vtx_author (hvx y hy); exact this, ?_, fun y hy e => vtx_r0 (hvx y hy) e, hps, h15, fun j hj => by have := h6 j hj; omega⟩
  intro y hy p hp
  obtain ⟨i, hi, rfl⟩ := List.mem_iff_getElem.1 hy
  obtain ⟨k, hk, rfl⟩ := List.mem_iff_getElem.1 hp
  obtain ⟨j, hj, e⟩ := graph_parents hgb i hi k hk
  rcases findZ_cases g (g[i].r - 1) g[i].ps[k] with ⟨e', _⟩ | ⟨j', hj', e', hs, _⟩
  · omega
  · exact ⟨g[j'], List.getElem_mem hj', (of_decide_eq_true hs).1, (of_decide_eq_true hs).2⟩

/-! the votes, place by place -/
theorem votSum_filter {f : Vx → Int} {p : Vx → Bool} : ∀ (g : List Vx), (∀ y ∈ g, p y = false → f y = 0) → ((g.filter p).map f).sum = (g.map f).sum
  | [], _ => rfl
  | x :: g, h => by
    have ih := votSum_filter g fun y hy => h y (List.mem_cons_of_mem _ hy)
    cases hp : p x with
    | true => rw [List.filter_cons, if_pos hp, List.map_cons, List.map_cons, List.sum_cons, List.sum_cons, ih]
    | false => rw [List.filter_cons, if_neg (by rw [hp]; simp), List.map_cons, List.sum_cons, ih, h x (by simp) hp]; omega
def votP (c : List Int) (L : Int) (r : Nat) (g : List Vx) (a : Nat) : Int := ((outZ g r a).map (votC c L r)).sum
theorem votP_zero {c : List Int} {L : Int} {r : Nat} {g : List Vx} (h : ∀ v ∈ g, inPl v) : votP c L r g 0 = 0 := by
  unfold votP
  have : ∀ (l : List Vx), (∀ y ∈ l, y.r < (r : Int)) → (l.map (votC c L r)).sum = 0 := by
    intro l
    induction l with
    | nil => intro _; rfl
    | cons x l ih =>
      intro hl
      rw [List.map_cons, List.sum_cons, ih fun y hy => hl y (List.mem_cons_of_mem _ hy)]
      have := hl x (by simp)
      unfold votC
      rw [if_neg (by omega)]; omega
  refine this _ fun y hy => ?_
  unfold outZ at hy
  obtain ⟨hm, hp⟩ := List.mem_filter.1 hy
  have := h y hm
  unfold inPl at this
  unfold plB at hp
  simp at hp; omega
theorem votP_all {c : List Int} {L : Int} {r : Nat} {g : List Vx} (h : ∀ v ∈ g, inPl v) : votP c L r g 7 = votTo c L r g g.length := by
  unfold votP votTo outZ
  rw [List.take_length]
  refine votSum_filter g fun y hy hp => ?_
  have := h y hy
  unfold inPl at this
  unfold plB at hp
  simp at hp
  unfold votC
  rw [if_neg (by omega)]
theorem votP_yes {c : List Int} {L : Int} {r a : Nat} {g : List Vx} {y : Vx} (hs : Srt g) (hy : y ∈ g) (hr : y.r = r) (ha : y.a = a) : votP c L r g (a + 1) = votP c L r g a + (if hasB y.ps L = true then c.getD a 0 else 0) := by
  unfold votP
  rw [outZ_yes hs hy hr ha, List.map_append, List.sum_append]
  congr 1
  show votC c L r y + 0 = _
  unfold votC
  rw [ha, Int.toNat_natCast]
  by_cases hh : hasB y.ps L = true
  · rw [if_pos ⟨hr, hh⟩, if_pos hh]; omega
  · rw [if_neg (fun e => hh e.2), if_neg hh]; rfl
theorem votP_no {c : List Int} {L : Int} {r a : Nat} {g : List Vx} (hs : Srt g) (hn : ∀ v ∈ g, ¬ (v.r = (r : Int) ∧ v.a = (a : Int))) : votP c L r g (a + 1) = votP c L r g a := by
  unfold votP
  rw [outZ_no hs hn]
theorem votP_bd {c : List Int} {L : Int} {r a : Nat} {g : List Vx} (hv : validB c = true) : 0 ≤ votP c L r g a ∧ votP c L r g a ≤ 9 * g.length := by
  have h := votTo_bd (c := c) (L := L) (r := r) (g := outZ g r a) hv _ (Nat.le_refl _)
  have hl := outZ_len g r a
  unfold votTo at h
  rw [List.take_length] at h
  unfold votP
  omega

/-- A pointer is among a vertex's parents exactly if its author is. -/
theorem nd_has {w0 w : World} {hi G : Nat} {mv : Value} {h : Nat → Value} {g : List Vx} (l : Lk w0 w hi G mv h g) (hpar : Par g) {y z : Vx} (hy : y ∈ g) (hz : z ∈ g) (hr : z.r = y.r - 1) {p : Nat} (hp : h (plN z.r z.a) = ptrV p) {qs : List Nat} (hl : qs.length = y.ps.length)
    (hq : ∀ j (hj : j < qs.length) (hj' : j < y.ps.length), h (plN (y.r - 1) y.ps[j]) = ptrV qs[j]) : p ∈ qs ↔ hasB y.ps z.a = true := by
  have hinj : ∀ a b : Nat, ptrV a = ptrV b → a = b := fun a b e => by unfold ptrV at e; simpa using e
  constructor
  · intro hm
    obtain ⟨i, hi', e⟩ := List.mem_iff_getElem.1 hm
    have hii : i < y.ps.length := by omega
    obtain ⟨x, hx, hxr, hxa⟩ := hpar y hy y.ps[i] (List.getElem_mem hii)
    obtain ⟨qx, hqx, nx⟩ := l.has x hx
    obtain ⟨qz, hqz, nz⟩ := l.has z hz
    have h1 := hq i hi' hii
    rw [hxr, hxa, h1] at hqx
    have e1 := hinj _ _ hqx
    rw [hp] at hqz
    have e2 := hinj _ _ hqz
    have e3 : qx = qz := by rw [← e1, ← e2, e]
    obtain ⟨_, _, _, _, sx, _⟩ := nx.ex
    obtain ⟨_, _, _, _, sz, _⟩ := nz.ex
    rw [e3] at sx
    have e4 := (sx.cell 1 (v := .int .i64 x.a) rfl).symm.trans (sz.cell 1 (v := .int .i64 z.a) rfl)
    have e5 : x.a = z.a := by simpa using e4
    rw [← e5, hxa]
    exact hasB_yes hii
  · intro hh
    have hm : z.a ∈ y.ps := of_decide_eq_true hh
    obtain ⟨i, hi', e⟩ := List.mem_iff_getElem.1 hm
    have h1 := hq i (by omega) hi'
    rw [e, ← hr, hp] at h1
    rw [hinj _ _ h1]
    exact List.getElem_mem _

theorem lv_size : (Tryz.prog.info? 63).map (·.size) = some 5 := by kernel_rfl
set_option maxRecDepth 8000 in
theorem lib_IndexP (pp : Option Addr) (pcap : Nat) (qs : List Nat) (p B : Nat) (w : World) (hbig : qs.length ≤ 1099511627776) (ho : OwnP 61 w B (.slice pp qs.length pcap) qs) (hb : ∀ x, x = p ∨ x ∈ qs → ∃ c t, w.heap[x]? = some (.cells c t (0, 0))) :
    Calls Tryz.prog 101 #[.slice pp qs.length pcap, .pointer (some ⟨p, 0, none⟩)] w fun e w' => (∃ z : Int, e = .returned (.int .i64 z) ∧ (p ∈ qs → 0 ≤ z) ∧ (p ∉ qs → z = -1)) ∧ w = w' := by
  obtain ⟨i5, hi5, hsz⟩ := Option.map_eq_some_iff.1 lv_size
  have Ho := Lib.hid ho; have Hb := Lib.hid hb
  clear ho hb
  go_enter Tryz.func101, Tryz.ntmps101
  go_wp2
  go_loopw [8] (fun i wr => ∃ k : Nat, k ≤ qs.length ∧ i = .int .i64 k ∧ Hid (∀ j (hj : j < qs.length), j < k → qs[j] ≠ p) ∧ w = wr) (fun i _ => qs.length - (intOf i).toNat)
  case atStart => exact ⟨0, by omega, rfl, Lib.hid (fun j _ h => by omega), rfl⟩
  case round =>
    obtain ⟨k, hk, rfl, hup, rfl⟩ := hrel
    by_cases hlt : k < qs.length
    · obtain ⟨gb, cap', hpe, _, _, hcell⟩ := Ho.out.cell k hlt
      obtain ⟨rfl, rfl⟩ : pp = some ⟨gb, 0, none⟩ ∧ pcap = cap' := by simpa using hpe
      unfold ptrV at hcell
      clear hpe
      by_cases e : qs[k] = p
      · have hcell2 : w.cell? ⟨gb, k, none⟩ = some (.pointer (some ⟨p, 0, none⟩)) := by rw [hcell, e]
        have heq := run_eql_ptr_same (P := Tryz.prog) w ⟨p, 0, none⟩ Tryz.underlying61 hi5
        have hm : p ∈ qs := by rw [← e]; exact List.getElem_mem hlt
        have Hm := Lib.hid hm
        clear hcell hm e
        go_wp2
        go_ret
        exact ⟨⟨_, rfl, fun _ => by omega, fun h => absurd Hm.out h⟩, rfl⟩
      · obtain ⟨ca, ta, ha⟩ := Hb.out p (.inl rfl)
        obtain ⟨cb, tb, hb⟩ := Hb.out qs[k] (.inr (List.getElem_mem hlt))
        have heq := run_eql_ptr_other (P := Tryz.prog) w (a := ⟨p, 0, none⟩) (b := ⟨qs[k], 0, none⟩) Tryz.underlying61 hi5 (by rw [hsz]; decide) (fun h => e (by injection h with h1; exact h1.symm)) ha hb
        have Hs := Lib.hid (show ∀ j (hj : j < qs.length), j < k + 1 → qs[j] ≠ p from fun j hj hjk => by
          by_cases e2 : j = k
          · subst e2; exact e
          · exact hup.out j hj (by omega))
        clear e ha hb hup
        generalize qs[k] = y at *
        go_wp2
        go_roundw
        case rel => exact ⟨k + 1, by omega, by go_num, Lib.hid Hs.out, trivial⟩
        case measure => simp [intOf]; omega
    · go_wp2
      go_ret
      refine ⟨⟨_, rfl, fun h => ?_, fun _ => rfl⟩, rfl⟩
      obtain ⟨j, hj, e⟩ := List.mem_iff_getElem.1 h
      exact absurd e (hup.out j hj (by omega))

theorem lib_ContainsP (pp : Option Addr) (pcap : Nat) (qs : List Nat) (p B : Nat) (w : World) (hbig : qs.length ≤ 1099511627776) (ho : OwnP 61 w B (.slice pp qs.length pcap) qs) (hb : ∀ x, x = p ∨ x ∈ qs → ∃ c t, w.heap[x]? = some (.cells c t (0, 0))) :
    Calls Tryz.prog 92 #[.slice pp qs.length pcap, .pointer (some ⟨p, 0, none⟩)] w fun e w' => e = .returned (.bool (decide (p ∈ qs))) ∧ w = w' := by
  have H := Lib.hid (lib_IndexP pp pcap qs p B w hbig ho hb)
  clear ho hb
  go_enter Tryz.func92, Tryz.ntmps92
  go_wp2_with fail
  refine H.out.mono ?_
  rintro e w1 ⟨⟨z, rfl, h1, h2⟩, rfl⟩
  by_cases hm : p ∈ qs
  · have hz := h1 hm
    have Hr := Lib.hid (show decide (p ∈ qs) = true from decide_eq_true hm)
    have hz' : decide (0 ≤ z) = true := decide_eq_true hz
    clear h1 h2 hm
    go_wp2
    go_ret
    exact ⟨by rw [Hr.out]; rfl, rfl⟩
  · have hz := h2 hm
    subst hz
    have Hr := Lib.hid (show decide (p ∈ qs) = false from decide_eq_false hm)
    clear h1 h2 hm
    go_wp2
    go_ret
    exact ⟨by rw [Hr.out]; rfl, rfl⟩

end Go.Proofs.YtjaacdapibokiaaGreatDoor

/- Plain arithmetic of sets of members and their weights; no walk and no condition of our own. -/
namespace Go.Proofs.YtjaacdapibokiaaGreatDoor

/-- Ascending members below n. -/
def AscP (n : Nat) (ms : List Int) : Prop := ms.Pairwise (· < ·) ∧ ∀ m ∈ ms, 0 ≤ m ∧ m < n
theorem ascP_of {n : Nat} {ms : List Int} (h : membersB n ms = true) : AscP n ms := by
  have step : ∀ d i (hi : i + 1 + d < ms.length), ms[i] < ms[i + 1 + d] := by
    intro d
    induction d with
    | zero =>
      intro i hi
      have := okAt_bd hi (allB_upto h (i + 1) hi)
      rcases this.2.2 with h0 | h0
      · omega
      · rw [show i + 1 + 0 - 1 = i by omega, getD_get (by omega)] at h0; exact h0
    | succ d ih =>
      intro i hi
      have h1 := ih i (by omega)
      have := okAt_bd hi (allB_upto h (i + 1 + (d + 1)) hi)
      rcases this.2.2 with h0 | h0
      · omega
      · rw [show i + 1 + (d + 1) - 1 = i + 1 + d by omega, getD_get (by omega)] at h0
        exact Int.lt_trans h1 h0
  refine ⟨List.pairwise_iff_getElem.2 fun i j hi hj hij => ?_, fun m hm => ?_⟩
  · have := step (j - i - 1) i (by omega)
    simpa [show i + 1 + (j - i - 1) = j by omega] using this
  · obtain ⟨j, hj, rfl⟩ := List.mem_iff_getElem.1 hm
    exact membersB_at h j hj
theorem of_ascP {n : Nat} {ms : List Int} (h : AscP n ms) : membersB n ms = true := by
  unfold membersB
  refine allB_yes (k := ms.length) (fun j hj => ?_) (Nat.le_refl _)
  have hb := h.2 ms[j] (List.getElem_mem hj)
  refine okAt_yes hj hb.1 hb.2 ?_
  by_cases h0 : j = 0
  · exact .inl h0
  · refine .inr ?_
    rw [getD_get (by omega)]
    exact List.pairwise_iff_getElem.1 h.1 (j - 1) j (by omega) hj (by omega)
theorem ascP_filter {n : Nat} {ms : List Int} (p : Int → Bool) (h : AscP n ms) : AscP n (ms.filter p) :=
  ⟨h.1.filter p, fun m hm => h.2 m (List.mem_filter.1 hm).1⟩
theorem ascP_rangeF (p : Nat → Bool) (n : Nat) : AscP n (rangeF p n) := by
  induction n with
  | zero => exact ⟨by simp [rangeF], by simp [rangeF]⟩
  | succ n ih =>
    cases hp : p n with
    | false => rw [rangeF_no hp]; exact ⟨ih.1, fun m hm => by have := ih.2 m hm; omega⟩
    | true =>
      rw [rangeF_yes hp]
      refine ⟨List.pairwise_append.2 ⟨ih.1, by simp, fun a ha b hb => ?_⟩, fun m hm => ?_⟩
      · simp at hb; subst hb; exact (ih.2 a ha).2
      · rcases List.mem_append.1 hm with hm | hm
        · have := ih.2 m hm; omega
        · simp at hm; omega
theorem mem_rangeF {p : Nat → Bool} {n i : Nat} : (i : Int) ∈ rangeF p n ↔ i < n ∧ p i = true := by
  unfold rangeF
  simp only [List.mem_map, List.mem_filter, List.mem_range]
  constructor
  · rintro ⟨a, h, e⟩
    obtain rfl : a = i := by omega
    exact h
  · intro h; exact ⟨i, h, rfl⟩

/-- f 0 + .. + f (n - 1). -/
def isum (f : Nat → Int) : Nat → Int
  | 0 => 0
  | n + 1 => isum f n + f n
theorem isum_congr {f g : Nat → Int} {n : Nat} (h : ∀ i, i < n → f i = g i) : isum f n = isum g n := by
  induction n with
  | zero => rfl
  | succ n ih => simp only [isum]; rw [ih (fun i hi => h i (by omega)), h n (by omega)]
theorem isum_add (f g : Nat → Int) (n : Nat) : isum (fun i => f i + g i) n = isum f n + isum g n := by
  induction n with
  | zero => rfl
  | succ n ih => simp only [isum]; rw [ih]; omega
theorem isum_le {f g : Nat → Int} {n : Nat} (h : ∀ i, i < n → f i ≤ g i) : isum f n ≤ isum g n := by
  induction n with
  | zero => exact Int.le_refl _
  | succ n ih => simp only [isum]; have := ih (fun i hi => h i (by omega)); have := h n (by omega); omega
theorem isum_total (c : List Int) : isum (fun i => c.getD i 0) c.length = totalZ c := by
  have : ∀ k, k ≤ c.length → isum (fun i => c.getD i 0) k = sumTo c k := by
    intro k
    induction k with
    | zero => intro _; rfl
    | succ k ih => intro hk; simp only [isum]; rw [ih (by omega), sumTo_succ (by omega), getD_get (by omega)]
  exact this _ (Nat.le_refl _)

/-- The weight of i if it is among ms. -/
def wAt (c ms : List Int) (i : Nat) : Int := if hasB ms i = true then c.getD i 0 else 0
theorem weightTo_app (c ms : List Int) (x : Int) : weightZ c (ms ++ [x]) = weightZ c ms + c.getD x.toNat 0 := by
  unfold weightZ
  rw [List.length_append]
  simp only [List.length_cons, List.length_nil]
  rw [weightTo_succ (by simp)]
  congr 1
  · unfold weightTo; simp
  · simp
theorem weight_isum (c : List Int) : ∀ (n : Nat) (ms : List Int), AscP n ms → weightZ c ms = isum (wAt c ms) n := by
  intro n
  induction n with
  | zero =>
    intro ms h
    cases ms with
    | nil => rfl
    | cons m ms => have := h.2 m (by simp); omega
  | succ n ih =>
    intro ms h
    simp only [isum]
    rcases List.eq_nil_or_concat ms with rfl | ⟨l, x, rfl⟩
    · rw [← ih [] ⟨by simp, by simp⟩]; simp [wAt, hasB]
    · rw [List.concat_eq_append] at h ⊢
      have hp := List.pairwise_append.1 h.1
      have hx := h.2 x (by simp)
      have hl : ∀ m ∈ l, 0 ≤ m ∧ m < x := fun m hm => ⟨(h.2 m (by simp [hm])).1, hp.2.2 m hm x (by simp)⟩
      by_cases hxn : x = n
      · subst hxn
        have h1 := ih l ⟨hp.1, fun m hm => ⟨(hl m hm).1, by have := hl m hm; omega⟩⟩
        rw [weightTo_app, h1]
        congr 1
        · refine isum_congr fun i hi => ?_
          unfold wAt hasB
          have : ((i : Int) ∈ l ++ [(n : Int)]) = ((i : Int) ∈ l) := by
            rw [List.mem_append]; simp; omega
          simp only [this]
        · unfold wAt hasB; simp
      · have h1 := ih (l ++ [x]) ⟨h.1, fun m hm => by
          have := h.2 m hm
          rcases List.mem_append.1 hm with hm | hm
          · have := hl m hm; omega
          · simp at hm; omega⟩
        rw [h1]
        have : wAt c (l ++ [x]) n = 0 := by
          unfold wAt hasB
          rw [if_neg]
          rw [decide_eq_true_eq]
          intro hm
          rcases List.mem_append.1 hm with hm | hm
          · have := hl _ hm; omega
          · simp at hm; omega
        omega

theorem hasB_common (a b : List Int) (i : Int) : hasB (commonZ a b) i = (hasB a i && hasB b i) := by
  rw [commonZ_eq, Bool.eq_iff_iff]
  simp [hasB, List.mem_filter]
theorem c_nonneg {c : List Int} (h : validB c = true) (i : Nat) (hi : i < c.length) : 0 ≤ c.getD i 0 := by have := good_getD h hi; omega

/-- Two sets weigh no more together than all members and what is common. -/
theorem weights_meet {c a b : List Int} (h : validB c = true) (ha : AscP c.length a) (hb : AscP c.length b) : weightZ c a + weightZ c b ≤ totalZ c + weightZ c (commonZ a b) := by
  have hc : AscP c.length (commonZ a b) := by rw [commonZ_eq]; exact ascP_filter _ ha
  rw [weight_isum c _ a ha, weight_isum c _ b hb, weight_isum c _ _ hc, ← isum_total, ← isum_add, ← isum_add]
  refine isum_le fun i hi => ?_
  have := c_nonneg h i hi
  unfold wAt
  rw [hasB_common]
  generalize c.getD i 0 = x at *
  cases hasB a i <;> cases hasB b i <;> simp <;> omega
/-- Weights are added. -/
theorem weights_add {c a b : List Int} (ha : AscP c.length a) (hb : AscP c.length b) :
    weightZ c a + weightZ c b = weightZ c (rangeF (fun i => hasB a i || hasB b i) c.length) + weightZ c (commonZ a b) := by
  have hc : AscP c.length (commonZ a b) := by rw [commonZ_eq]; exact ascP_filter _ ha
  have hu := ascP_rangeF (fun i => hasB a i || hasB b i) c.length
  rw [weight_isum c _ a ha, weight_isum c _ b hb, weight_isum c _ _ hc, weight_isum c _ _ hu, ← isum_add, ← isum_add]
  refine isum_congr fun i hi => ?_
  unfold wAt
  rw [hasB_common]
  have : hasB (rangeF (fun i => hasB a i || hasB b i) c.length) i = (hasB a i || hasB b i) := by
    rw [Bool.eq_iff_iff]; unfold hasB; rw [decide_eq_true_eq, mem_rangeF]; simp [hi]
  rw [this]
  cases hasB a i <;> cases hasB b i <;> simp

/-- The weight of all members. -/
theorem weight_all {c : List Int} (h : validB c = true) : weightZ c (rangeF (bitB 127) c.length) = totalZ c := by
  rw [weight_isum c _ _ (ascP_rangeF _ _), ← isum_total]
  refine isum_congr fun i hi => ?_
  have hl := validB_len h
  have h7 : bitB 127 i = true := by
    have : i < 7 := by omega
    match i, this with
    | 0, _ => rfl
    | 1, _ => rfl
    | 2, _ => rfl
    | 3, _ => rfl
    | 4, _ => rfl
    | 5, _ => rfl
    | 6, _ => rfl
  have : hasB (rangeF (bitB 127) c.length) i = true := decide_eq_true (mem_rangeF.2 ⟨hi, h7⟩)
  unfold wAt
  rw [if_pos this]

theorem mwZ_of {c ms : List Int} (h : validB c = true) (hm : AscP c.length ms) : mwZ c ms = weightZ c ms := mwZ_yes (by rw [mvB_yes h]; exact of_ascP hm)
theorem mwZ_rangeF {c : List Int} (h : validB c = true) (p : Nat → Bool) : mwZ c (rangeF p c.length) = weightZ c (rangeF p c.length) := mwZ_of h (ascP_rangeF p _)

theorem weight_bd {c a : List Int} (h : validB c = true) (ha : AscP c.length a) : 0 ≤ weightZ c a ∧ weightZ c a ≤ totalZ c := by
  have h0 : isum (fun _ => 0) c.length = 0 := by
    generalize c.length = n
    induction n with
    | zero => rfl
    | succ n ih => simp only [isum]; rw [ih]; rfl
  rw [weight_isum c _ a ha, ← isum_total]
  refine ⟨Int.le_trans (Int.le_of_eq h0.symm) (isum_le fun i hi => ?_), isum_le fun i hi => ?_⟩ <;> (have := c_nonneg h i hi; unfold wAt; split <;> omega)
theorem ascP_common {n : Nat} {a b : List Int} (ha : AscP n a) : AscP n (commonZ a b) := by rw [commonZ_eq]; exact ascP_filter _ ha
theorem common_pos {c a b : List Int} (h : 0 < weightZ c (commonZ a b)) : 0 < (commonZ a b).length := by
  rcases Nat.eq_zero_or_pos (commonZ a b).length with h0 | h0
  · rw [List.eq_nil_of_length_eq_zero h0] at h; exact absurd h (by simp [weightZ, weightTo])
  · exact h0

theorem validB_iff (c : List Int) : validB c = true ↔ (1 ≤ c.length ∧ c.length ≤ 7) ∧ ∀ x ∈ c, 1 ≤ x ∧ x ≤ 9 := by
  unfold validB goodB
  rw [Bool.and_eq_true, decide_eq_true_eq, List.all_eq_true]
  simp
theorem valid_less {c : List Int} {k : Nat} (h : validB c = true) (hk : k < c.length) (h1 : c.length ≠ 1) : validB (c.take k ++ c.drop (k + 1)) = true := by
  rw [validB_iff] at h ⊢
  refine ⟨?_, fun x hx => h.2 x ?_⟩
  · rw [List.length_append, List.length_take, List.length_drop]; omega
  · rcases List.mem_append.1 hx with hx | hx
    · exact List.mem_of_mem_take hx
    · exact List.mem_of_mem_drop hx
theorem valid_zero {c : List Int} {k : Nat} (hk : k < c.length) : validB (c.set k 0) = false := by
  rw [Bool.eq_false_iff]
  intro h
  rw [validB_iff] at h
  have := h.2 0 (List.mem_set hk 0)
  omega

theorem members_less {n : Nat} {ms : List Int} {k : Nat} (h : AscP n ms) : AscP n (ms.take k ++ ms.drop (k + 1)) := by
  have hsub : (ms.take k ++ ms.drop (k + 1)).Sublist ms := by rw [← List.eraseIdx_eq_take_drop_succ]; exact List.eraseIdx_sublist ms k
  exact ⟨h.1.sublist hsub, fun m hm => h.2 m (hsub.subset hm)⟩
theorem members_twice {n : Nat} {ms : List Int} {k : Nat} (hk : k < ms.length) : membersB n (ms.take (k + 1) ++ ms.drop k) = false := by
  rw [Bool.eq_false_iff]
  intro h
  have hp := (List.pairwise_append.1 (ascP_of h).1).2.2 ms[k] (by rw [List.mem_take_iff_getElem]; exact ⟨k, by omega, rfl⟩) ms[k] (by rw [List.mem_drop_iff_getElem]; exact ⟨0, by omega, by simp⟩)
  omega

end Go.Proofs.YtjaacdapibokiaaGreatDoor
