/- Texts that the laws of this folder share, one behind another; no conditions. -/
import Derived.Test.YtgpbogalknmcmaaRows
import Derived.Test.YtgpbogalknmcmaaBu2
import Derived.Test.YtgpbogalknmcmaaBu1
import Derived.Deep.QuietTactic
import Derived.BigQuiet

/- The reference's signing of a vote, by walks of its text; condition: the voter and the vote are valid where the text asks it. -/
namespace Go.Proofs.Ytgpbogalknmcmaa
open Go.RowKit

set_option maxHeartbeats 20000000 in
set_option maxRecDepth 8000 in
theorem spec_l12Sign (f : Int) (g : List Vt) (v : Value) (fp : List Nat) (ur ua ud : Int) (w : World) (hbig : g.length ≤ 40) (hg : Vts w g v fp) :
    Calls Try.prog 38 #[.agg #[.int .i64 f, v], .agg #[.int .i64 ur, .int .i64 ua, .int .i64 ud]] w fun e w' => ∃ vv, e = .returned (.tuple #[.agg #[.int .i64 f, vv], .bool (signB f g ⟨ur, ua, ud⟩)]) ∧ OwnR 27 3 3 w' w.heap.size w'.heap.size vv ((signG f g ⟨ur, ua, ud⟩).map Vt.fd) ∧ Below w.heap.size w w' := by
  obtain ⟨va, vc, rfl⟩ := hg.slice
  have hb0 : Below w.heap.size w (((w.alloc (.cells #[.int .i64 f, .slice va g.length vc] 25)).alloc (.cells #[.int .i64 ur, .int .i64 ua, .int .i64 ud] 27)).alloc (.cells #[.int .i64 0, .slice none 0 0] 25)) := (((Below.refl _ _).alloc (Nat.le_refl _) _).alloc (by simp) _).alloc (by simp; omega) _
  have sx := ((Str.new w 25 #[.int .i64 f, .slice va g.length vc]).alloc (.cells #[.int .i64 ur, .int .i64 ua, .int .i64 ud] 27)).alloc (.cells #[.int .i64 0, .slice none 0 0] 25)
  have sv := (Str.new (w.alloc (.cells #[.int .i64 f, .slice va g.length vc] 25)) 27 #[.int .i64 ur, .int .i64 ua, .int .i64 ud]).alloc (.cells #[.int .i64 0, .slice none 0 0] 25)
  have sr := Str.new ((w.alloc (.cells #[.int .i64 f, .slice va g.length vc] 25)).alloc (.cells #[.int .i64 ur, .int .i64 ua, .int .i64 ud] 27)) 25 #[.int .i64 0, .slice none 0 0]
  have hz0 : w.heap.size + 3 ≤ (((w.alloc (.cells #[.int .i64 f, .slice va g.length vc] 25)).alloc (.cells #[.int .i64 ur, .int .i64 ua, .int .i64 ud] 27)).alloc (.cells #[.int .i64 0, .slice none 0 0] 25)).heap.size := by simp
  simp only [World.size_alloc] at sv sr
  have SX := Lib.hid (show Str (((w.alloc (.cells #[.int .i64 f, .slice va g.length vc] 25)).alloc (.cells #[.int .i64 ur, .int .i64 ua, .int .i64 ud] 27)).alloc (.cells #[.int .i64 0, .slice none 0 0] 25)) (w.heap.size) 25 #[.int .i64 f, .slice va g.length vc] from sx)
  have SV := Lib.hid (show Str (((w.alloc (.cells #[.int .i64 f, .slice va g.length vc] 25)).alloc (.cells #[.int .i64 ur, .int .i64 ua, .int .i64 ud] 27)).alloc (.cells #[.int .i64 0, .slice none 0 0] 25)) (w.heap.size + 1) 27 #[.int .i64 ur, .int .i64 ua, .int .i64 ud] from sv)
  have SR := Lib.hid (show Str (((w.alloc (.cells #[.int .i64 f, .slice va g.length vc] 25)).alloc (.cells #[.int .i64 ur, .int .i64 ua, .int .i64 ud] 27)).alloc (.cells #[.int .i64 0, .slice none 0 0] 25)) (w.heap.size + 2) 25 #[.int .i64 0, .slice none 0 0] from sr)
  have HV := Lib.hid (vsrc_of hg)
  have hcap := Lib.hid (vts_cap hg)
  have Hg := Lib.hid hg
  have Hb := Lib.hid hb0
  clear sx sv sr hb0 hg
  go_enter Try.func38, Try.ntmps38
  have cX_0 := SX.out.cell 0 (v := .int .i64 f) rfl
  have cX_1 := SX.out.cell 1 (v := .slice va g.length vc) rfl
  have cV_0 := SV.out.cell 0 (v := .int .i64 ur) rfl
  have cV_1 := SV.out.cell 1 (v := .int .i64 ua) rfl
  have cV_2 := SV.out.cell 2 (v := .int .i64 ud) rfl
  go_wp2_with fail
  clear cX_0 cX_1 cV_0 cV_1 cV_2
  generalize (((w.alloc (.cells #[.int .i64 f, .slice va g.length vc] 25)).alloc (.cells #[.int .i64 ur, .int .i64 ua, .int .i64 ud] 27)).alloc (.cells #[.int .i64 0, .slice none 0 0] 25)) = W0 at *
  refine Code.wp_mono (Q := fun e a' w' => match e with | .normal => ∃ OB LB al cl, a' = (?F : Nat → Nat → Option Addr → Nat → Act) OB LB al cl ∧ Str w' (w.heap.size) 25 #[.int .i64 f, .slice va g.length vc] ∧ Str w' (w.heap.size + 1) 27 #[.int .i64 ur, .int .i64 ua, .int .i64 ud] ∧ Str w' (w.heap.size + 2) 25 #[.int .i64 0, .slice none 0 0] ∧ Str w' OB 25 #[.int .i64 f, .slice al g.length cl] ∧ OwnV 27 w' LB (.slice al g.length cl) g ∧ (∀ q, (Value.slice al g.length cl).ownBlock = some q → q ≠ OB) ∧ Below w.heap.size w w' ∧ w.heap.size + 3 ≤ OB ∧ w.heap.size + 3 ≤ LB | _ => False) ?hq ?hc
  case hc =>
    have hdr : Below W0.heap.size W0 W0.drew := (Below.refl _ _).drew
    have SX := Lib.hid (show Str W0.drew (w.heap.size) 25 #[.int .i64 f, .slice va g.length vc] from SX.out)
    have SV := Lib.hid (show Str W0.drew (w.heap.size + 1) 27 #[.int .i64 ur, .int .i64 ua, .int .i64 ud] from SV.out)
    have SR := Lib.hid (show Str W0.drew (w.heap.size + 2) 25 #[.int .i64 0, .slice none 0 0] from SR.out)
    have Hb := Lib.hid Hb.out.drew
    have hzwd : W0.heap.size ≤ W0.drew.heap.size := Nat.le_refl _
    clear hdr
    refine wp_region_L 8 (fun w' => w'.cell? ⟨w.heap.size, 0, none⟩ = some (.int .i64 f) ∧ w'.cell? ⟨w.heap.size, 1, none⟩ = some (.slice va g.length vc) ∧ w'.cell? ⟨w.heap.size + 1, 0, none⟩ = some (.int .i64 ur) ∧ w'.cell? ⟨w.heap.size + 1, 1, none⟩ = some (.int .i64 ua) ∧ w'.cell? ⟨w.heap.size + 1, 2, none⟩ = some (.int .i64 ud)) (by kernel_rfl) ⟨SX.out.cell 0 (v := .int .i64 f) rfl, SX.out.cell 1 (v := .slice va g.length vc) rfl, SV.out.cell 0 (v := .int .i64 ur) rfl, SV.out.cell 1 (v := .int .i64 ua) rfl, SV.out.cell 2 (v := .int .i64 ud) rfl⟩ (fun hH => ?_)
    generalize W0.drew = wd at *
    refine takeL 0 (v := ?vt1) rfl (by kernel_rfl) (by kernel_rfl) (by kernel_rfl) (by kernel_rfl) (by kernel_rfl) (fun _ _ _ h => h) hH rfl ?yt1 ?rt1
    case yt1 => intro W hSw; go_simp; try with_reducible rfl
    try simp only [Act.put, List.setIfInBounds_toArray, List.set_cons_zero, List.set_cons_succ]
    refine takeL 1 (v := ?vt2) rfl (by kernel_rfl) (by kernel_rfl) (by kernel_rfl) (by kernel_rfl) (by kernel_rfl) (fun _ _ _ h => h) hH rfl ?yt2 ?rt2
    case yt2 => intro W hSw; go_simp; try with_reducible rfl
    try simp only [Act.put, List.setIfInBounds_toArray, List.set_cons_zero, List.set_cons_succ]
    refine takeL 3 (v := ?vt3) rfl (by kernel_rfl) (by kernel_rfl) (by kernel_rfl) (by kernel_rfl) (by kernel_rfl) (fun _ _ _ h => h) hH rfl ?yt3 ?rt3
    case yt3 => intro W hSw; go_simp; try with_reducible rfl
    try simp only [Act.put, List.setIfInBounds_toArray, List.set_cons_zero, List.set_cons_succ]
    refine takeL 4 (v := ?vt4) rfl (by kernel_rfl) (by kernel_rfl) (by kernel_rfl) (by kernel_rfl) (by kernel_rfl) (fun _ _ _ h => h) hH rfl ?yt4 ?rt4
    case yt4 => intro W hSw; go_simp; try with_reducible rfl
    try simp only [Act.put, List.setIfInBounds_toArray, List.set_cons_zero, List.set_cons_succ]
    refine twoL 2 7 rfl rfl (by kernel_rfl) rfl rfl (fun K hK => ?_) (fun K hK => ?_)
    · skip
      go_simp
      have hal : Below wd.heap.size wd (wd.alloc (.cells #[] 27)) := (Below.refl _ _).alloc (Nat.le_refl _) _
      have oN := OwnV.empty 27 wd
      have hzn : wd.heap.size < (wd.alloc (.cells #[] 27)).heap.size := by simp
      have SX := Lib.hid (show Str (wd.alloc (.cells #[] 27)) (w.heap.size) 25 #[.int .i64 f, .slice va g.length vc] from (hal.block _ SX.out.lt).trans SX.out)
      have SV := Lib.hid (show Str (wd.alloc (.cells #[] 27)) (w.heap.size + 1) 27 #[.int .i64 ur, .int .i64 ua, .int .i64 ud] from (hal.block _ SV.out.lt).trans SV.out)
      have SR := Lib.hid (show Str (wd.alloc (.cells #[] 27)) (w.heap.size + 2) 25 #[.int .i64 0, .slice none 0 0] from (hal.block _ SR.out.lt).trans SR.out)
      have hsz9 := hal.size
      have Hb := Lib.hid (below_step Hb.out Hb.out.size hal)
      have OL := Lib.hid oN; clear oN hal
      refine hK.out _ _ ⟨SX.out.cell 0 (v := .int .i64 f) rfl, SX.out.cell 1 (v := .slice va g.length vc) rfl, SV.out.cell 0 (v := .int .i64 ur) rfl, SV.out.cell 1 (v := .int .i64 ua) rfl, SV.out.cell 2 (v := .int .i64 ud) rfl⟩ (fun hH => ?_)
      clear hK K
      try simp only [Act.put, List.setIfInBounds_toArray, List.set_cons_zero, List.set_cons_succ]
      generalize (wd.alloc (.cells #[] 27)) = wn1 at *
      generalize hLB : wd.heap.size = LB at *
      refine twoL 5 7 rfl rfl (by kernel_rfl) rfl rfl (fun K hK => ?_) (fun K hK => ?_)
      · skip
        refine op_app_V (.tmp 10) (.tmp 12) rfl LB _ [] g va vc rfl OL.out rfl (HV.out.below Hb.out) (by simp; omega) (by omega) (fun vl3 wn2 ho9 hg9 hp9 => ?_)
        have hrow : ∀ q, ((Value.slice (some ⟨LB, 0, none⟩) 0 0)).ownBlock = some q → q = LB := fun q e => by have e' : some LB = some q := e; exact (Option.some.inj e').symm
        have SX := Lib.hid (show Str wn2 (w.heap.size) 25 #[.int .i64 f, .slice va g.length vc] from SX.out.kept hg9 (fun e => by have := hrow _ e.symm; omega))
        have SV := Lib.hid (show Str wn2 (w.heap.size + 1) 27 #[.int .i64 ur, .int .i64 ua, .int .i64 ud] from SV.out.kept hg9 (fun e => by have := hrow _ e.symm; omega))
        have SR := Lib.hid (show Str wn2 (w.heap.size + 2) 25 #[.int .i64 0, .slice none 0 0] from SR.out.kept hg9 (fun e => by have := hrow _ e.symm; omega))
        have hsz9 := hg9.size
        have Hb := Lib.hid (Hb.out.grown hg9 Hb.out.size (fun q e => by have := hrow q e; omega))
        have hfr : ∀ q, vl3.ownBlock = some q → q = LB ∨ wn1.heap.size ≤ q := fun q e => (hp9 q e).imp (hrow q) id
        clear hp9 hrow hg9
        have OL := Lib.hid (show OwnV 27 wn2 LB vl3 g from ho9)
        clear ho9
        obtain ⟨al, cl, rfl⟩ := OL.out.slice
        have hne : ∀ q, (Value.slice al g.length cl).ownBlock = some q → q < wn2.heap.size := fun q e => (OL.out.lt q e).2
        clear hfr
        refine hK.out _ _ ⟨SX.out.cell 0 (v := .int .i64 f) rfl, SX.out.cell 1 (v := .slice va g.length vc) rfl, SV.out.cell 0 (v := .int .i64 ur) rfl, SV.out.cell 1 (v := .int .i64 ua) rfl, SV.out.cell 2 (v := .int .i64 ud) rfl⟩ (fun hH => ?_)
        clear hK K
        try simp only [Act.put, List.setIfInBounds_toArray, List.set_cons_zero, List.set_cons_succ]
        refine takeL 6 (v := ?vt5) rfl (by kernel_rfl) (by kernel_rfl) (by kernel_rfl) (by kernel_rfl) (by kernel_rfl) (fun _ _ _ h => h) hH rfl ?yt5 ?rt5
        case yt5 => intro W hSw; go_simp; try with_reducible rfl
        try simp only [Act.put, List.setIfInBounds_toArray, List.set_cons_zero, List.set_cons_succ]
        refine callL 7 rfl (by kernel_rfl) rfl (fun K hK => ?_)
        go_simp
        have hal : Below wn2.heap.size wn2 (wn2.alloc (.cells #[.int .i64 0, .slice none 0 0] 25)) := (Below.refl _ _).alloc (Nat.le_refl _) _
        have sN := Str.new wn2 25 #[.int .i64 0, .slice none 0 0]
        have hzn : wn2.heap.size < (wn2.alloc (.cells #[.int .i64 0, .slice none 0 0] 25)).heap.size := by simp
        have SX := Lib.hid (show Str (wn2.alloc (.cells #[.int .i64 0, .slice none 0 0] 25)) (w.heap.size) 25 #[.int .i64 f, .slice va g.length vc] from (hal.block _ SX.out.lt).trans SX.out)
        have SV := Lib.hid (show Str (wn2.alloc (.cells #[.int .i64 0, .slice none 0 0] 25)) (w.heap.size + 1) 27 #[.int .i64 ur, .int .i64 ua, .int .i64 ud] from (hal.block _ SV.out.lt).trans SV.out)
        have SR := Lib.hid (show Str (wn2.alloc (.cells #[.int .i64 0, .slice none 0 0] 25)) (w.heap.size + 2) 25 #[.int .i64 0, .slice none 0 0] from (hal.block _ SR.out.lt).trans SR.out)
        have OL := Lib.hid (show OwnV 27 (wn2.alloc (.cells #[.int .i64 0, .slice none 0 0] 25)) (LB) ((Value.slice al g.length cl)) (g) from OL.out.below hal)
        have hsz9 := hal.size
        have Hb := Lib.hid (below_step Hb.out Hb.out.size hal)
        skip
        have SO := Lib.hid sN; clear sN
        clear hal
        refine hK.out _ _ ⟨SX.out.cell 0 (v := .int .i64 f) rfl, SX.out.cell 1 (v := .slice va g.length vc) rfl, SV.out.cell 0 (v := .int .i64 ur) rfl, SV.out.cell 1 (v := .int .i64 ua) rfl, SV.out.cell 2 (v := .int .i64 ud) rfl⟩ (fun hH => ?_)
        clear hK K
        try simp only [Act.put, List.setIfInBounds_toArray, List.set_cons_zero, List.set_cons_succ]
        generalize (wn2.alloc (.cells #[.int .i64 0, .slice none 0 0] 25)) = wn4 at *
        generalize hBOB : wn2.heap.size = OB at *
        have cO_0 := SO.out.cell 0 (v := .int .i64 0) rfl
        have cO_1 := SO.out.cell 1 (v := .slice none 0 0) rfl
        have fO_0 := SO.out.frozen 0
        have fO_1 := SO.out.frozen 1
        refine lastL rfl (by kernel_rfl) (by kernel_rfl) (by kernel_rfl) rfl (fun K hK => ?_)
        go_simp
        clear cO_0 cO_1 fO_0 fO_1
        have hne : ∀ q, (Value.slice al g.length cl).ownBlock = some q → q ≠ OB := fun q e => by have := hne q e; omega
        have so := (SO.out.set 0 (.int .i64 f)).set 1 (.slice al g.length cl)
        refine hK.out _ _ ⟨OB, LB, al, cl, ?eF, (SX.out.other (by omega) _ _).other (by omega) _ _, (SV.out.other (by omega) _ _).other (by omega) _ _, (SR.out.other (by omega) _ _).other (by omega) _ _, so, (OL.out.kept fun q e => ?eO), hne, (Hb.out.setCell (p := ⟨OB, 0, none⟩) (by simp only; omega) _).setCell (p := ⟨OB, 1, none⟩) (by simp only; omega) _, by omega, by omega⟩
        case eF => rfl
        case eO => exact ((grownBy_set _ OB 1 _).block q (by have := (OL.out.lt q e).2; simpa using this) (by have := hne q e; simpa using this)).trans ((grownBy_set _ OB 0 _).block q (OL.out.lt q e).2 (by have := hne q e; simpa using this))
      · skip
        go_simp
        have hal : Below wn1.heap.size wn1 (wn1.alloc (.cells #[.int .i64 0, .slice none 0 0] 25)) := (Below.refl _ _).alloc (Nat.le_refl _) _
        have sN := Str.new wn1 25 #[.int .i64 0, .slice none 0 0]
        have hzn : wn1.heap.size < (wn1.alloc (.cells #[.int .i64 0, .slice none 0 0] 25)).heap.size := by simp
        have SX := Lib.hid (show Str (wn1.alloc (.cells #[.int .i64 0, .slice none 0 0] 25)) (w.heap.size) 25 #[.int .i64 f, .slice va g.length vc] from (hal.block _ SX.out.lt).trans SX.out)
        have SV := Lib.hid (show Str (wn1.alloc (.cells #[.int .i64 0, .slice none 0 0] 25)) (w.heap.size + 1) 27 #[.int .i64 ur, .int .i64 ua, .int .i64 ud] from (hal.block _ SV.out.lt).trans SV.out)
        have SR := Lib.hid (show Str (wn1.alloc (.cells #[.int .i64 0, .slice none 0 0] 25)) (w.heap.size + 2) 25 #[.int .i64 0, .slice none 0 0] from (hal.block _ SR.out.lt).trans SR.out)
        have OL := Lib.hid (show OwnV 27 (wn1.alloc (.cells #[.int .i64 0, .slice none 0 0] 25)) (LB) ((Value.slice (some ⟨LB, 0, none⟩) 0 0)) ([]) from OL.out.below hal)
        have hsz9 := hal.size
        have Hb := Lib.hid (below_step Hb.out Hb.out.size hal)
        skip
        have SO := Lib.hid sN; clear sN
        clear hal
        refine hK.out _ _ ⟨SX.out.cell 0 (v := .int .i64 f) rfl, SX.out.cell 1 (v := .slice va g.length vc) rfl, SV.out.cell 0 (v := .int .i64 ur) rfl, SV.out.cell 1 (v := .int .i64 ua) rfl, SV.out.cell 2 (v := .int .i64 ud) rfl⟩ (fun hH => ?_)
        clear hK K
        try simp only [Act.put, List.setIfInBounds_toArray, List.set_cons_zero, List.set_cons_succ]
        generalize (wn1.alloc (.cells #[.int .i64 0, .slice none 0 0] 25)) = wn5 at *
        generalize hBOB : wn1.heap.size = OB at *
        refine callL 5 rfl (by kernel_rfl) rfl (fun K hK => ?_)
        refine op_app_V (.tmp 10) (.tmp 12) rfl LB _ [] g va vc rfl OL.out rfl (HV.out.below Hb.out) (by simp; omega) (by omega) (fun vl7 wn6 ho9 hg9 hp9 => ?_)
        have hrow : ∀ q, ((Value.slice (some ⟨LB, 0, none⟩) 0 0)).ownBlock = some q → q = LB := fun q e => by have e' : some LB = some q := e; exact (Option.some.inj e').symm
        have SX := Lib.hid (show Str wn6 (w.heap.size) 25 #[.int .i64 f, .slice va g.length vc] from SX.out.kept hg9 (fun e => by have := hrow _ e.symm; omega))
        have SV := Lib.hid (show Str wn6 (w.heap.size + 1) 27 #[.int .i64 ur, .int .i64 ua, .int .i64 ud] from SV.out.kept hg9 (fun e => by have := hrow _ e.symm; omega))
        have SR := Lib.hid (show Str wn6 (w.heap.size + 2) 25 #[.int .i64 0, .slice none 0 0] from SR.out.kept hg9 (fun e => by have := hrow _ e.symm; omega))
        have SO := Lib.hid (show Str wn6 (OB) 25 #[.int .i64 0, .slice none 0 0] from SO.out.kept hg9 (fun e => by have := hrow _ e.symm; omega))
        have hsz9 := hg9.size
        have Hb := Lib.hid (Hb.out.grown hg9 Hb.out.size (fun q e => by have := hrow q e; omega))
        have hfr : ∀ q, vl7.ownBlock = some q → q = LB ∨ wn5.heap.size ≤ q := fun q e => (hp9 q e).imp (hrow q) id
        clear hp9 hrow hg9
        have OL := Lib.hid (show OwnV 27 wn6 LB vl7 g from ho9)
        clear ho9
        obtain ⟨al, cl, rfl⟩ := OL.out.slice
        have hne : ∀ q, (Value.slice al g.length cl).ownBlock = some q → q ≠ OB := fun q e => by rcases hfr q e with h | h <;> omega
        clear hfr
        refine hK.out _ _ ⟨SX.out.cell 0 (v := .int .i64 f) rfl, SX.out.cell 1 (v := .slice va g.length vc) rfl, SV.out.cell 0 (v := .int .i64 ur) rfl, SV.out.cell 1 (v := .int .i64 ua) rfl, SV.out.cell 2 (v := .int .i64 ud) rfl⟩ (fun hH => ?_)
        clear hK K
        try simp only [Act.put, List.setIfInBounds_toArray, List.set_cons_zero, List.set_cons_succ]
        refine takeL 6 (v := ?vt6) rfl (by kernel_rfl) (by kernel_rfl) (by kernel_rfl) (by kernel_rfl) (by kernel_rfl) (fun _ _ _ h => h) hH rfl ?yt6 ?rt6
        case yt6 => intro W hSw; go_simp; try with_reducible rfl
        try simp only [Act.put, List.setIfInBounds_toArray, List.set_cons_zero, List.set_cons_succ]
        have cO_0 := SO.out.cell 0 (v := .int .i64 0) rfl
        have cO_1 := SO.out.cell 1 (v := .slice none 0 0) rfl
        have fO_0 := SO.out.frozen 0
        have fO_1 := SO.out.frozen 1
        refine lastL rfl (by kernel_rfl) (by kernel_rfl) (by kernel_rfl) rfl (fun K hK => ?_)
        go_simp
        clear cO_0 cO_1 fO_0 fO_1
        have so := (SO.out.set 0 (.int .i64 f)).set 1 (.slice al g.length cl)
        refine hK.out _ _ ⟨OB, LB, al, cl, ?eF, (SX.out.other (by omega) _ _).other (by omega) _ _, (SV.out.other (by omega) _ _).other (by omega) _ _, (SR.out.other (by omega) _ _).other (by omega) _ _, so, (OL.out.kept fun q e => ?eO), hne, (Hb.out.setCell (p := ⟨OB, 0, none⟩) (by simp only; omega) _).setCell (p := ⟨OB, 1, none⟩) (by simp only; omega) _, by omega, by omega⟩
        case eF => rfl
        case eO => exact ((grownBy_set _ OB 1 _).block q (by have := (OL.out.lt q e).2; simpa using this) (by have := hne q e; simpa using this)).trans ((grownBy_set _ OB 0 _).block q (OL.out.lt q e).2 (by have := hne q e; simpa using this))
    · skip
      go_simp
      have hal : Below wd.heap.size wd (wd.alloc (.cells #[.int .i64 0, .slice none 0 0] 25)) := (Below.refl _ _).alloc (Nat.le_refl _) _
      have sN := Str.new wd 25 #[.int .i64 0, .slice none 0 0]
      have hzn : wd.heap.size < (wd.alloc (.cells #[.int .i64 0, .slice none 0 0] 25)).heap.size := by simp
      have SX := Lib.hid (show Str (wd.alloc (.cells #[.int .i64 0, .slice none 0 0] 25)) (w.heap.size) 25 #[.int .i64 f, .slice va g.length vc] from (hal.block _ SX.out.lt).trans SX.out)
      have SV := Lib.hid (show Str (wd.alloc (.cells #[.int .i64 0, .slice none 0 0] 25)) (w.heap.size + 1) 27 #[.int .i64 ur, .int .i64 ua, .int .i64 ud] from (hal.block _ SV.out.lt).trans SV.out)
      have SR := Lib.hid (show Str (wd.alloc (.cells #[.int .i64 0, .slice none 0 0] 25)) (w.heap.size + 2) 25 #[.int .i64 0, .slice none 0 0] from (hal.block _ SR.out.lt).trans SR.out)
      have hsz9 := hal.size
      have Hb := Lib.hid (below_step Hb.out Hb.out.size hal)
      skip
      have SO := Lib.hid sN; clear sN
      clear hal
      refine hK.out _ _ ⟨SX.out.cell 0 (v := .int .i64 f) rfl, SX.out.cell 1 (v := .slice va g.length vc) rfl, SV.out.cell 0 (v := .int .i64 ur) rfl, SV.out.cell 1 (v := .int .i64 ua) rfl, SV.out.cell 2 (v := .int .i64 ud) rfl⟩ (fun hH => ?_)
      clear hK K
      try simp only [Act.put, List.setIfInBounds_toArray, List.set_cons_zero, List.set_cons_succ]
      generalize (wd.alloc (.cells #[.int .i64 0, .slice none 0 0] 25)) = wn8 at *
      generalize hBOB : wd.heap.size = OB at *
      refine callL 2 rfl (by kernel_rfl) rfl (fun K hK => ?_)
      go_simp
      have hal : Below wn8.heap.size wn8 (wn8.alloc (.cells #[] 27)) := (Below.refl _ _).alloc (Nat.le_refl _) _
      have oN := OwnV.empty 27 wn8
      have hzn : wn8.heap.size < (wn8.alloc (.cells #[] 27)).heap.size := by simp
      have SX := Lib.hid (show Str (wn8.alloc (.cells #[] 27)) (w.heap.size) 25 #[.int .i64 f, .slice va g.length vc] from (hal.block _ SX.out.lt).trans SX.out)
      have SV := Lib.hid (show Str (wn8.alloc (.cells #[] 27)) (w.heap.size + 1) 27 #[.int .i64 ur, .int .i64 ua, .int .i64 ud] from (hal.block _ SV.out.lt).trans SV.out)
      have SR := Lib.hid (show Str (wn8.alloc (.cells #[] 27)) (w.heap.size + 2) 25 #[.int .i64 0, .slice none 0 0] from (hal.block _ SR.out.lt).trans SR.out)
      have SO := Lib.hid (show Str (wn8.alloc (.cells #[] 27)) (OB) 25 #[.int .i64 0, .slice none 0 0] from (hal.block _ SO.out.lt).trans SO.out)
      have hsz9 := hal.size
      have Hb := Lib.hid (below_step Hb.out Hb.out.size hal)
      have OL := Lib.hid oN; clear oN hal
      refine hK.out _ _ ⟨SX.out.cell 0 (v := .int .i64 f) rfl, SX.out.cell 1 (v := .slice va g.length vc) rfl, SV.out.cell 0 (v := .int .i64 ur) rfl, SV.out.cell 1 (v := .int .i64 ua) rfl, SV.out.cell 2 (v := .int .i64 ud) rfl⟩ (fun hH => ?_)
      clear hK K
      try simp only [Act.put, List.setIfInBounds_toArray, List.set_cons_zero, List.set_cons_succ]
      generalize (wn8.alloc (.cells #[] 27)) = wn9 at *
      generalize hLB : wn8.heap.size = LB at *
      refine callL 5 rfl (by kernel_rfl) rfl (fun K hK => ?_)
      refine op_app_V (.tmp 10) (.tmp 12) rfl LB _ [] g va vc rfl OL.out rfl (HV.out.below Hb.out) (by simp; omega) (by omega) (fun vl11 wn10 ho9 hg9 hp9 => ?_)
      have hrow : ∀ q, ((Value.slice (some ⟨LB, 0, none⟩) 0 0)).ownBlock = some q → q = LB := fun q e => by have e' : some LB = some q := e; exact (Option.some.inj e').symm
      have SX := Lib.hid (show Str wn10 (w.heap.size) 25 #[.int .i64 f, .slice va g.length vc] from SX.out.kept hg9 (fun e => by have := hrow _ e.symm; omega))
      have SV := Lib.hid (show Str wn10 (w.heap.size + 1) 27 #[.int .i64 ur, .int .i64 ua, .int .i64 ud] from SV.out.kept hg9 (fun e => by have := hrow _ e.symm; omega))
      have SR := Lib.hid (show Str wn10 (w.heap.size + 2) 25 #[.int .i64 0, .slice none 0 0] from SR.out.kept hg9 (fun e => by have := hrow _ e.symm; omega))
      have SO := Lib.hid (show Str wn10 (OB) 25 #[.int .i64 0, .slice none 0 0] from SO.out.kept hg9 (fun e => by have := hrow _ e.symm; omega))
      have hsz9 := hg9.size
      have Hb := Lib.hid (Hb.out.grown hg9 Hb.out.size (fun q e => by have := hrow q e; omega))
      have hfr : ∀ q, vl11.ownBlock = some q → q = LB ∨ wn9.heap.size ≤ q := fun q e => (hp9 q e).imp (hrow q) id
      clear hp9 hrow hg9
      have OL := Lib.hid (show OwnV 27 wn10 LB vl11 g from ho9)
      clear ho9
      obtain ⟨al, cl, rfl⟩ := OL.out.slice
      have hne : ∀ q, (Value.slice al g.length cl).ownBlock = some q → q ≠ OB := fun q e => by rcases hfr q e with h | h <;> omega
      clear hfr
      refine hK.out _ _ ⟨SX.out.cell 0 (v := .int .i64 f) rfl, SX.out.cell 1 (v := .slice va g.length vc) rfl, SV.out.cell 0 (v := .int .i64 ur) rfl, SV.out.cell 1 (v := .int .i64 ua) rfl, SV.out.cell 2 (v := .int .i64 ud) rfl⟩ (fun hH => ?_)
      clear hK K
      try simp only [Act.put, List.setIfInBounds_toArray, List.set_cons_zero, List.set_cons_succ]
      refine takeL 6 (v := ?vt7) rfl (by kernel_rfl) (by kernel_rfl) (by kernel_rfl) (by kernel_rfl) (by kernel_rfl) (fun _ _ _ h => h) hH rfl ?yt7 ?rt7
      case yt7 => intro W hSw; go_simp; try with_reducible rfl
      try simp only [Act.put, List.setIfInBounds_toArray, List.set_cons_zero, List.set_cons_succ]
      have cO_0 := SO.out.cell 0 (v := .int .i64 0) rfl
      have cO_1 := SO.out.cell 1 (v := .slice none 0 0) rfl
      have fO_0 := SO.out.frozen 0
      have fO_1 := SO.out.frozen 1
      refine lastL rfl (by kernel_rfl) (by kernel_rfl) (by kernel_rfl) rfl (fun K hK => ?_)
      go_simp
      clear cO_0 cO_1 fO_0 fO_1
      have so := (SO.out.set 0 (.int .i64 f)).set 1 (.slice al g.length cl)
      refine hK.out _ _ ⟨OB, LB, al, cl, ?eF, (SX.out.other (by omega) _ _).other (by omega) _ _, (SV.out.other (by omega) _ _).other (by omega) _ _, (SR.out.other (by omega) _ _).other (by omega) _ _, so, (OL.out.kept fun q e => ?eO), hne, (Hb.out.setCell (p := ⟨OB, 0, none⟩) (by simp only; omega) _).setCell (p := ⟨OB, 1, none⟩) (by simp only; omega) _, by omega, by omega⟩
      case eF => rfl
      case eO => exact ((grownBy_set _ OB 1 _).block q (by have := (OL.out.lt q e).2; simpa using this) (by have := hne q e; simpa using this)).trans ((grownBy_set _ OB 0 _).block q (OL.out.lt q e).2 (by have := hne q e; simpa using this))
  case hq =>
    intro e a w1 hx
    cases e <;> first | exact hx.elim | skip
    obtain ⟨OB, LB, al, cl, rfl, sx, sv, sr, so, ol, hne, hb, hOB, hLB⟩ := hx
    clear Hb SX SV SR hz0
    have SX := Lib.hid sx; have SV := Lib.hid sv; have SR := Lib.hid sr; have SO := Lib.hid so; have OL := Lib.hid ol; have Hb := Lib.hid hb
    clear sx sv sr so ol hb
    have hob := SO.out.lt
    go_wp2
    go_loopw [7] (fun i wr => ∃ k : Nat, k ≤ g.length ∧ i = .int .i64 k ∧ (∀ x ∈ g.take k, vbefB x ⟨ur, ua, ud⟩ = true) ∧ Below w1.heap.size w1 wr) (fun i _ => g.length - (intOf i).toNat)
    case atStart => exact ⟨0, by omega, rfl, by simp, Below.refl _ _⟩
    case round =>
      obtain ⟨k, hk, rfl, hup, hbel⟩ := hrel
      have SX := Lib.hid (show Str wr (w.heap.size) 25 #[.int .i64 f, .slice va g.length vc] from (hbel.block _ SX.out.lt).trans SX.out)
      have SV := Lib.hid (show Str wr (w.heap.size + 1) 27 #[.int .i64 ur, .int .i64 ua, .int .i64 ud] from (hbel.block _ SV.out.lt).trans SV.out)
      have SR := Lib.hid (show Str wr (w.heap.size + 2) 25 #[.int .i64 0, .slice none 0 0] from (hbel.block _ SR.out.lt).trans SR.out)
      have SO := Lib.hid (show Str wr (OB) 25 #[.int .i64 f, .slice al g.length cl] from (hbel.block _ SO.out.lt).trans SO.out)
      have OL := Lib.hid (show OwnV 27 wr (LB) ((Value.slice al g.length cl)) (g) from OL.out.below hbel)
      have hsz9 := hbel.size
      have Hb := Lib.hid (below_step Hb.out Hb.out.size hbel)
      have HW := Lib.hid hbel
      have Hup := Lib.hid hup
      clear hbel hup
      by_cases hlt : k < g.length
      · skip
        obtain ⟨b, off, rfl, hbk, hat⟩ := Hg.out.at (by omega)
        obtain ⟨e0, e1, e2⟩ := hat k hlt
        generalize hx : g[k] = x at *
        obtain ⟨xr, xa, xd⟩ := x
        dsimp only at *
        have Hx := Lib.hid hx
        clear hat hx
        have C0 := Lib.hid ((Hb.out.cell (p := ⟨b, off + k * 3, none⟩) hbk).trans e0)
        have C1 := Lib.hid ((Hb.out.cell (p := ⟨b, off + k * 3 + 1, none⟩) hbk).trans e1)
        have C2 := Lib.hid ((Hb.out.cell (p := ⟨b, off + k * 3 + 2, none⟩) hbk).trans e2)
        clear e0 e1 e2
        have HB := Lib.hid (fun W => spec_l12Before ⟨xr, xa, xd⟩ ⟨ur, ua, ud⟩ W)
        have HC := Lib.hid (fun W => spec_l12Before ⟨ur, ua, ud⟩ ⟨xr, xa, xd⟩ W)
        have hd : decide ((k : Int) < (g.length : Int)) = true := decide_eq_true (by omega)
        have hd' : (k : Int) < (g.length : Int) := by omega
        cases h1 : vbefB ⟨xr, xa, xd⟩ ⟨ur, ua, ud⟩ with
        | true =>
          rw [h1] at HB
          have cX_0 := SX.out.cell 0 (v := .int .i64 f) rfl
          have cX_1 := SX.out.cell 1 (v := .slice (some ⟨b, off, none⟩) g.length vc) rfl
          have cV_0 := SV.out.cell 0 (v := .int .i64 ur) rfl
          have cV_1 := SV.out.cell 1 (v := .int .i64 ua) rfl
          have cV_2 := SV.out.cell 2 (v := .int .i64 ud) rfl
          go_wp2_with fail
          clear cX_0 cX_1 cV_0 cV_1 cV_2
          have hdr : Below wr.heap.size wr wr.drew := (Below.refl _ _).drew
          have SX := Lib.hid (show Str wr.drew (w.heap.size) 25 #[.int .i64 f, .slice (some ⟨b, off, none⟩) g.length vc] from SX.out)
          have SV := Lib.hid (show Str wr.drew (w.heap.size + 1) 27 #[.int .i64 ur, .int .i64 ua, .int .i64 ud] from SV.out)
          have SR := Lib.hid (show Str wr.drew (w.heap.size + 2) 25 #[.int .i64 0, .slice none 0 0] from SR.out)
          have SO := Lib.hid (show Str wr.drew (OB) 25 #[.int .i64 f, .slice al g.length cl] from SO.out)
          have OL := Lib.hid (show OwnV 27 wr.drew (LB) ((Value.slice al g.length cl)) (g) from OL.out)
          have C0 := Lib.hid (show wr.drew.cell? ⟨b, off + k * 3, none⟩ = some (.int .i64 xr) from C0.out)
          have C1 := Lib.hid (show wr.drew.cell? ⟨b, off + k * 3 + 1, none⟩ = some (.int .i64 xa) from C1.out)
          have C2 := Lib.hid (show wr.drew.cell? ⟨b, off + k * 3 + 2, none⟩ = some (.int .i64 xd) from C2.out)
          have HW := Lib.hid HW.out.drew
          have Hb := Lib.hid Hb.out.drew
          have hzwd : wr.heap.size ≤ wr.drew.heap.size := Nat.le_refl _
          clear hdr
          refine wp_region_held_drew (S := fun w' => w'.cell? ⟨w.heap.size, 0, none⟩ = some (.int .i64 f) ∧ w'.cell? ⟨w.heap.size, 1, none⟩ = some (.slice (some ⟨b, off, none⟩) g.length vc) ∧ w'.cell? ⟨w.heap.size + 1, 0, none⟩ = some (.int .i64 ur) ∧ w'.cell? ⟨w.heap.size + 1, 1, none⟩ = some (.int .i64 ua) ∧ w'.cell? ⟨w.heap.size + 1, 2, none⟩ = some (.int .i64 ud) ∧ w'.cell? ⟨b, off + k * 3, none⟩ = some (.int .i64 xr) ∧ w'.cell? ⟨b, off + k * 3 + 1, none⟩ = some (.int .i64 xa) ∧ w'.cell? ⟨b, off + k * 3 + 2, none⟩ = some (.int .i64 xd)) (by kernel_rfl) ⟨SX.out.cell 0 (v := .int .i64 f) rfl, SX.out.cell 1 (v := .slice (some ⟨b, off, none⟩) g.length vc) rfl, SV.out.cell 0 (v := .int .i64 ur) rfl, SV.out.cell 1 (v := .int .i64 ua) rfl, SV.out.cell 2 (v := .int .i64 ud) rfl, C0.out, C1.out, C2.out⟩ (fun hH => ?_)
          generalize wr.drew = wd at *
          refine takeH 0 (v := ?vt8) rfl (by kernel_rfl) (by kernel_rfl) (by kernel_rfl) (fun _ _ _ h => h) hH rfl ?yt8 ?rt8
          case yt8 => intro W hSw; go_simp; try with_reducible rfl
          try simp only [Act.put, List.setIfInBounds_toArray, List.set_cons_zero, List.set_cons_succ]
          refine takeH 1 (v := ?vt9) rfl (by kernel_rfl) (by kernel_rfl) (by kernel_rfl) (fun _ _ _ h => h) hH rfl ?yt9 ?rt9
          case yt9 => intro W hSw; go_simp; try with_reducible rfl
          try simp only [Act.put, List.setIfInBounds_toArray, List.set_cons_zero, List.set_cons_succ]
          refine takeH 2 (v := ?vt10) rfl (by kernel_rfl) (by kernel_rfl) (by kernel_rfl) (fun _ _ _ h => h) hH rfl ?yt10 ?rt10
          case yt10 => intro W hSw; go_simp; try with_reducible rfl
          try simp only [Act.put, List.setIfInBounds_toArray, List.set_cons_zero, List.set_cons_succ]
          refine takeH 3 (v := ?vt11) rfl (by kernel_rfl) (by kernel_rfl) (by kernel_rfl) (fun _ _ _ h => h) hH rfl ?yt11 ?rt11
          case yt11 => intro W hSw; go_simp; try with_reducible rfl
          try simp only [Act.put, List.setIfInBounds_toArray, List.set_cons_zero, List.set_cons_succ]
          refine takeH 4 (v := ?vt12) rfl (by kernel_rfl) (by kernel_rfl) (by kernel_rfl) (fun _ _ _ h => h) hH rfl ?yt12 ?rt12
          case yt12 => intro W hSw; go_simp; try with_reducible rfl
          try simp only [Act.put, List.setIfInBounds_toArray, List.set_cons_zero, List.set_cons_succ]
          refine takeH 5 (v := ?vt13) rfl (by kernel_rfl) (by kernel_rfl) (by kernel_rfl) (fun _ _ _ h => h) hH rfl ?yt13 ?rt13
          case yt13 => intro W hSw; go_simp; try with_reducible rfl
          try simp only [Act.put, List.setIfInBounds_toArray, List.set_cons_zero, List.set_cons_succ]
          refine takeH 6 (v := ?vt14) rfl (by kernel_rfl) (by kernel_rfl) (by kernel_rfl) (fun _ _ _ h => h) hH rfl ?yt14 ?rt14
          case yt14 => intro W hSw; go_simp; try with_reducible rfl
          try simp only [Act.put, List.setIfInBounds_toArray, List.set_cons_zero, List.set_cons_succ]
          refine takeH 7 (v := ?vt15) rfl (by kernel_rfl) (by kernel_rfl) (by kernel_rfl) (fun _ _ _ h => h) hH rfl ?yt15 ?rt15
          case yt15 => intro W hSw; go_simp; try with_reducible rfl
          try simp only [Act.put, List.setIfInBounds_toArray, List.set_cons_zero, List.set_cons_succ]
          refine takeH 8 (v := ?vt16) rfl (by kernel_rfl) (by kernel_rfl) (by kernel_rfl) (fun _ _ _ h => h) hH rfl ?yt16 ?rt16
          case yt16 => intro W hSw; go_simp; try with_reducible rfl
          try simp only [Act.put, List.setIfInBounds_toArray, List.set_cons_zero, List.set_cons_succ]
          refine takeH 9 (v := ?vt17) rfl (by kernel_rfl) (by kernel_rfl) (by kernel_rfl) (fun _ _ _ h => h) hH rfl ?yt17 ?rt17
          case yt17 => intro W hSw; go_simp; try with_reducible rfl
          try simp only [Act.put, List.setIfInBounds_toArray, List.set_cons_zero, List.set_cons_succ]
          refine takeH 10 (v := ?vt18) rfl (by kernel_rfl) (by kernel_rfl) (by kernel_rfl) (fun _ _ _ h => h) hH rfl ?yt18 ?rt18
          case yt18 => intro W hSw; go_simp; try with_reducible rfl
          try simp only [Act.put, List.setIfInBounds_toArray, List.set_cons_zero, List.set_cons_succ]
          refine takeH 11 (v := ?vt19) rfl (by kernel_rfl) (by kernel_rfl) (by kernel_rfl) (fun _ _ _ h => h) hH rfl ?yt19 ?rt19
          case yt19 => intro W hSw; go_simp; try with_reducible rfl
          try simp only [Act.put, List.setIfInBounds_toArray, List.set_cons_zero, List.set_cons_succ]
          refine callH 12 rfl (by kernel_rfl) rfl (fun K hK => ?_)
          go_simp
          go_at_call 44
          refine (HB.out _).mono ?_
          rintro e wx ⟨rfl, hbx⟩
          have SX := Lib.hid (show Str wx (w.heap.size) 25 #[.int .i64 f, .slice (some ⟨b, off, none⟩) g.length vc] from (hbx.block _ SX.out.lt).trans SX.out)
          have SV := Lib.hid (show Str wx (w.heap.size + 1) 27 #[.int .i64 ur, .int .i64 ua, .int .i64 ud] from (hbx.block _ SV.out.lt).trans SV.out)
          have SR := Lib.hid (show Str wx (w.heap.size + 2) 25 #[.int .i64 0, .slice none 0 0] from (hbx.block _ SR.out.lt).trans SR.out)
          have SO := Lib.hid (show Str wx (OB) 25 #[.int .i64 f, .slice al g.length cl] from (hbx.block _ SO.out.lt).trans SO.out)
          have OL := Lib.hid (show OwnV 27 wx (LB) ((Value.slice al g.length cl)) (g) from OL.out.below hbx)
          have C0 := Lib.hid (show wx.cell? ⟨b, off + k * 3, none⟩ = some (.int .i64 xr) from (hbx.cell (p := ⟨b, off + k * 3, none⟩) (show b < _ from Nat.lt_of_lt_of_le hbk Hb.out.size)).trans C0.out)
          have C1 := Lib.hid (show wx.cell? ⟨b, off + k * 3 + 1, none⟩ = some (.int .i64 xa) from (hbx.cell (p := ⟨b, off + k * 3 + 1, none⟩) (show b < _ from Nat.lt_of_lt_of_le hbk Hb.out.size)).trans C1.out)
          have C2 := Lib.hid (show wx.cell? ⟨b, off + k * 3 + 2, none⟩ = some (.int .i64 xd) from (hbx.cell (p := ⟨b, off + k * 3 + 2, none⟩) (show b < _ from Nat.lt_of_lt_of_le hbk Hb.out.size)).trans C2.out)
          have HW := Lib.hid (below_step HW.out HW.out.size hbx)
          have hsz9 := hbx.size
          have Hb := Lib.hid (below_step Hb.out Hb.out.size hbx)
          refine hK.out _ _ ⟨SX.out.cell 0 (v := .int .i64 f) rfl, SX.out.cell 1 (v := .slice (some ⟨b, off, none⟩) g.length vc) rfl, SV.out.cell 0 (v := .int .i64 ur) rfl, SV.out.cell 1 (v := .int .i64 ua) rfl, SV.out.cell 2 (v := .int .i64 ud) rfl, C0.out, C1.out, C2.out⟩ (fun hH => ?_)
          clear hK K hbx
          try simp only [Act.put, List.setIfInBounds_toArray, List.set_cons_zero, List.set_cons_succ]
          refine takeH 13 (v := ?vt20) rfl (by kernel_rfl) (by kernel_rfl) (by kernel_rfl) (fun _ _ _ h => h) hH rfl ?yt20 ?rt20
          case yt20 => intro W hSw; go_simp; try with_reducible rfl
          try simp only [Act.put, List.setIfInBounds_toArray, List.set_cons_zero, List.set_cons_succ]
          refine wpAnyH_done (by kernel_rfl) ?_ _
          clear hH
          try simp only [Act.put]
          go_wp2
          go_roundw
          case rel => exact ⟨k + 1, by omega, by go_num, upto_take hlt Hup.out (by rw [Hx.out]; exact h1), HW.out⟩
          case measure => simp [intOf]; omega
        | false =>
          rw [h1] at HB
          have cX_0 := SX.out.cell 0 (v := .int .i64 f) rfl
          have cX_1 := SX.out.cell 1 (v := .slice (some ⟨b, off, none⟩) g.length vc) rfl
          have cV_0 := SV.out.cell 0 (v := .int .i64 ur) rfl
          have cV_1 := SV.out.cell 1 (v := .int .i64 ua) rfl
          have cV_2 := SV.out.cell 2 (v := .int .i64 ud) rfl
          go_wp2_with fail
          clear cX_0 cX_1 cV_0 cV_1 cV_2
          have hdr : Below wr.heap.size wr wr.drew := (Below.refl _ _).drew
          have SX := Lib.hid (show Str wr.drew (w.heap.size) 25 #[.int .i64 f, .slice (some ⟨b, off, none⟩) g.length vc] from SX.out)
          have SV := Lib.hid (show Str wr.drew (w.heap.size + 1) 27 #[.int .i64 ur, .int .i64 ua, .int .i64 ud] from SV.out)
          have SR := Lib.hid (show Str wr.drew (w.heap.size + 2) 25 #[.int .i64 0, .slice none 0 0] from SR.out)
          have SO := Lib.hid (show Str wr.drew (OB) 25 #[.int .i64 f, .slice al g.length cl] from SO.out)
          have OL := Lib.hid (show OwnV 27 wr.drew (LB) ((Value.slice al g.length cl)) (g) from OL.out)
          have C0 := Lib.hid (show wr.drew.cell? ⟨b, off + k * 3, none⟩ = some (.int .i64 xr) from C0.out)
          have C1 := Lib.hid (show wr.drew.cell? ⟨b, off + k * 3 + 1, none⟩ = some (.int .i64 xa) from C1.out)
          have C2 := Lib.hid (show wr.drew.cell? ⟨b, off + k * 3 + 2, none⟩ = some (.int .i64 xd) from C2.out)
          have HW := Lib.hid HW.out.drew
          have Hb := Lib.hid Hb.out.drew
          have hzwd : wr.heap.size ≤ wr.drew.heap.size := Nat.le_refl _
          clear hdr
          refine wp_region_held_drew (S := fun w' => w'.cell? ⟨w.heap.size, 0, none⟩ = some (.int .i64 f) ∧ w'.cell? ⟨w.heap.size, 1, none⟩ = some (.slice (some ⟨b, off, none⟩) g.length vc) ∧ w'.cell? ⟨w.heap.size + 1, 0, none⟩ = some (.int .i64 ur) ∧ w'.cell? ⟨w.heap.size + 1, 1, none⟩ = some (.int .i64 ua) ∧ w'.cell? ⟨w.heap.size + 1, 2, none⟩ = some (.int .i64 ud) ∧ w'.cell? ⟨b, off + k * 3, none⟩ = some (.int .i64 xr) ∧ w'.cell? ⟨b, off + k * 3 + 1, none⟩ = some (.int .i64 xa) ∧ w'.cell? ⟨b, off + k * 3 + 2, none⟩ = some (.int .i64 xd)) (by kernel_rfl) ⟨SX.out.cell 0 (v := .int .i64 f) rfl, SX.out.cell 1 (v := .slice (some ⟨b, off, none⟩) g.length vc) rfl, SV.out.cell 0 (v := .int .i64 ur) rfl, SV.out.cell 1 (v := .int .i64 ua) rfl, SV.out.cell 2 (v := .int .i64 ud) rfl, C0.out, C1.out, C2.out⟩ (fun hH => ?_)
          generalize wr.drew = wd at *
          refine takeH 0 (v := ?vt21) rfl (by kernel_rfl) (by kernel_rfl) (by kernel_rfl) (fun _ _ _ h => h) hH rfl ?yt21 ?rt21
          case yt21 => intro W hSw; go_simp; try with_reducible rfl
          try simp only [Act.put, List.setIfInBounds_toArray, List.set_cons_zero, List.set_cons_succ]
          refine takeH 1 (v := ?vt22) rfl (by kernel_rfl) (by kernel_rfl) (by kernel_rfl) (fun _ _ _ h => h) hH rfl ?yt22 ?rt22
          case yt22 => intro W hSw; go_simp; try with_reducible rfl
          try simp only [Act.put, List.setIfInBounds_toArray, List.set_cons_zero, List.set_cons_succ]
          refine takeH 2 (v := ?vt23) rfl (by kernel_rfl) (by kernel_rfl) (by kernel_rfl) (fun _ _ _ h => h) hH rfl ?yt23 ?rt23
          case yt23 => intro W hSw; go_simp; try with_reducible rfl
          try simp only [Act.put, List.setIfInBounds_toArray, List.set_cons_zero, List.set_cons_succ]
          refine takeH 3 (v := ?vt24) rfl (by kernel_rfl) (by kernel_rfl) (by kernel_rfl) (fun _ _ _ h => h) hH rfl ?yt24 ?rt24
          case yt24 => intro W hSw; go_simp; try with_reducible rfl
          try simp only [Act.put, List.setIfInBounds_toArray, List.set_cons_zero, List.set_cons_succ]
          refine takeH 4 (v := ?vt25) rfl (by kernel_rfl) (by kernel_rfl) (by kernel_rfl) (fun _ _ _ h => h) hH rfl ?yt25 ?rt25
          case yt25 => intro W hSw; go_simp; try with_reducible rfl
          try simp only [Act.put, List.setIfInBounds_toArray, List.set_cons_zero, List.set_cons_succ]
          refine takeH 5 (v := ?vt26) rfl (by kernel_rfl) (by kernel_rfl) (by kernel_rfl) (fun _ _ _ h => h) hH rfl ?yt26 ?rt26
          case yt26 => intro W hSw; go_simp; try with_reducible rfl
          try simp only [Act.put, List.setIfInBounds_toArray, List.set_cons_zero, List.set_cons_succ]
          refine takeH 6 (v := ?vt27) rfl (by kernel_rfl) (by kernel_rfl) (by kernel_rfl) (fun _ _ _ h => h) hH rfl ?yt27 ?rt27
          case yt27 => intro W hSw; go_simp; try with_reducible rfl
          try simp only [Act.put, List.setIfInBounds_toArray, List.set_cons_zero, List.set_cons_succ]
          refine takeH 7 (v := ?vt28) rfl (by kernel_rfl) (by kernel_rfl) (by kernel_rfl) (fun _ _ _ h => h) hH rfl ?yt28 ?rt28
          case yt28 => intro W hSw; go_simp; try with_reducible rfl
          try simp only [Act.put, List.setIfInBounds_toArray, List.set_cons_zero, List.set_cons_succ]
          refine takeH 8 (v := ?vt29) rfl (by kernel_rfl) (by kernel_rfl) (by kernel_rfl) (fun _ _ _ h => h) hH rfl ?yt29 ?rt29
          case yt29 => intro W hSw; go_simp; try with_reducible rfl
          try simp only [Act.put, List.setIfInBounds_toArray, List.set_cons_zero, List.set_cons_succ]
          refine takeH 9 (v := ?vt30) rfl (by kernel_rfl) (by kernel_rfl) (by kernel_rfl) (fun _ _ _ h => h) hH rfl ?yt30 ?rt30
          case yt30 => intro W hSw; go_simp; try with_reducible rfl
          try simp only [Act.put, List.setIfInBounds_toArray, List.set_cons_zero, List.set_cons_succ]
          refine takeH 10 (v := ?vt31) rfl (by kernel_rfl) (by kernel_rfl) (by kernel_rfl) (fun _ _ _ h => h) hH rfl ?yt31 ?rt31
          case yt31 => intro W hSw; go_simp; try with_reducible rfl
          try simp only [Act.put, List.setIfInBounds_toArray, List.set_cons_zero, List.set_cons_succ]
          refine takeH 11 (v := ?vt32) rfl (by kernel_rfl) (by kernel_rfl) (by kernel_rfl) (fun _ _ _ h => h) hH rfl ?yt32 ?rt32
          case yt32 => intro W hSw; go_simp; try with_reducible rfl
          try simp only [Act.put, List.setIfInBounds_toArray, List.set_cons_zero, List.set_cons_succ]
          refine callH 12 rfl (by kernel_rfl) rfl (fun K hK => ?_)
          go_simp
          go_at_call 44
          refine (HB.out _).mono ?_
          rintro e wx ⟨rfl, hbx⟩
          have SX := Lib.hid (show Str wx (w.heap.size) 25 #[.int .i64 f, .slice (some ⟨b, off, none⟩) g.length vc] from (hbx.block _ SX.out.lt).trans SX.out)
          have SV := Lib.hid (show Str wx (w.heap.size + 1) 27 #[.int .i64 ur, .int .i64 ua, .int .i64 ud] from (hbx.block _ SV.out.lt).trans SV.out)
          have SR := Lib.hid (show Str wx (w.heap.size + 2) 25 #[.int .i64 0, .slice none 0 0] from (hbx.block _ SR.out.lt).trans SR.out)
          have SO := Lib.hid (show Str wx (OB) 25 #[.int .i64 f, .slice al g.length cl] from (hbx.block _ SO.out.lt).trans SO.out)
          have OL := Lib.hid (show OwnV 27 wx (LB) ((Value.slice al g.length cl)) (g) from OL.out.below hbx)
          have C0 := Lib.hid (show wx.cell? ⟨b, off + k * 3, none⟩ = some (.int .i64 xr) from (hbx.cell (p := ⟨b, off + k * 3, none⟩) (show b < _ from Nat.lt_of_lt_of_le hbk Hb.out.size)).trans C0.out)
          have C1 := Lib.hid (show wx.cell? ⟨b, off + k * 3 + 1, none⟩ = some (.int .i64 xa) from (hbx.cell (p := ⟨b, off + k * 3 + 1, none⟩) (show b < _ from Nat.lt_of_lt_of_le hbk Hb.out.size)).trans C1.out)
          have C2 := Lib.hid (show wx.cell? ⟨b, off + k * 3 + 2, none⟩ = some (.int .i64 xd) from (hbx.cell (p := ⟨b, off + k * 3 + 2, none⟩) (show b < _ from Nat.lt_of_lt_of_le hbk Hb.out.size)).trans C2.out)
          have HW := Lib.hid (below_step HW.out HW.out.size hbx)
          have hsz9 := hbx.size
          have Hb := Lib.hid (below_step Hb.out Hb.out.size hbx)
          refine hK.out _ _ ⟨SX.out.cell 0 (v := .int .i64 f) rfl, SX.out.cell 1 (v := .slice (some ⟨b, off, none⟩) g.length vc) rfl, SV.out.cell 0 (v := .int .i64 ur) rfl, SV.out.cell 1 (v := .int .i64 ua) rfl, SV.out.cell 2 (v := .int .i64 ud) rfl, C0.out, C1.out, C2.out⟩ (fun hH => ?_)
          clear hK K hbx
          try simp only [Act.put, List.setIfInBounds_toArray, List.set_cons_zero, List.set_cons_succ]
          refine takeH 13 (v := ?vt33) rfl (by kernel_rfl) (by kernel_rfl) (by kernel_rfl) (fun _ _ _ h => h) hH rfl ?yt33 ?rt33
          case yt33 => intro W hSw; go_simp; try with_reducible rfl
          try simp only [Act.put, List.setIfInBounds_toArray, List.set_cons_zero, List.set_cons_succ]
          refine wpAnyH_done (by kernel_rfl) ?_ _
          clear hH
          try simp only [Act.put]
          cases h2 : vbefB ⟨ur, ua, ud⟩ ⟨xr, xa, xd⟩ with
          | false =>
            rw [h2] at HC
            have cX_0 := SX.out.cell 0 (v := .int .i64 f) rfl
            have cX_1 := SX.out.cell 1 (v := .slice (some ⟨b, off, none⟩) g.length vc) rfl
            have cV_0 := SV.out.cell 0 (v := .int .i64 ur) rfl
            have cV_1 := SV.out.cell 1 (v := .int .i64 ua) rfl
            have cV_2 := SV.out.cell 2 (v := .int .i64 ud) rfl
            go_wp2_with fail
            clear cX_0 cX_1 cV_0 cV_1 cV_2
            have hdr : Below wx.heap.size wx wx.drew := (Below.refl _ _).drew
            have SX := Lib.hid (show Str wx.drew (w.heap.size) 25 #[.int .i64 f, .slice (some ⟨b, off, none⟩) g.length vc] from SX.out)
            have SV := Lib.hid (show Str wx.drew (w.heap.size + 1) 27 #[.int .i64 ur, .int .i64 ua, .int .i64 ud] from SV.out)
            have SR := Lib.hid (show Str wx.drew (w.heap.size + 2) 25 #[.int .i64 0, .slice none 0 0] from SR.out)
            have SO := Lib.hid (show Str wx.drew (OB) 25 #[.int .i64 f, .slice al g.length cl] from SO.out)
            have OL := Lib.hid (show OwnV 27 wx.drew (LB) ((Value.slice al g.length cl)) (g) from OL.out)
            have C0 := Lib.hid (show wx.drew.cell? ⟨b, off + k * 3, none⟩ = some (.int .i64 xr) from C0.out)
            have C1 := Lib.hid (show wx.drew.cell? ⟨b, off + k * 3 + 1, none⟩ = some (.int .i64 xa) from C1.out)
            have C2 := Lib.hid (show wx.drew.cell? ⟨b, off + k * 3 + 2, none⟩ = some (.int .i64 xd) from C2.out)
            have HW := Lib.hid HW.out.drew
            have Hb := Lib.hid Hb.out.drew
            have hzwd : wx.heap.size ≤ wx.drew.heap.size := Nat.le_refl _
            clear hdr
            refine wp_region_held_drew (S := fun w' => w'.cell? ⟨w.heap.size, 0, none⟩ = some (.int .i64 f) ∧ w'.cell? ⟨w.heap.size, 1, none⟩ = some (.slice (some ⟨b, off, none⟩) g.length vc) ∧ w'.cell? ⟨w.heap.size + 1, 0, none⟩ = some (.int .i64 ur) ∧ w'.cell? ⟨w.heap.size + 1, 1, none⟩ = some (.int .i64 ua) ∧ w'.cell? ⟨w.heap.size + 1, 2, none⟩ = some (.int .i64 ud) ∧ w'.cell? ⟨b, off + k * 3, none⟩ = some (.int .i64 xr) ∧ w'.cell? ⟨b, off + k * 3 + 1, none⟩ = some (.int .i64 xa) ∧ w'.cell? ⟨b, off + k * 3 + 2, none⟩ = some (.int .i64 xd)) (by kernel_rfl) ⟨SX.out.cell 0 (v := .int .i64 f) rfl, SX.out.cell 1 (v := .slice (some ⟨b, off, none⟩) g.length vc) rfl, SV.out.cell 0 (v := .int .i64 ur) rfl, SV.out.cell 1 (v := .int .i64 ua) rfl, SV.out.cell 2 (v := .int .i64 ud) rfl, C0.out, C1.out, C2.out⟩ (fun hH => ?_)
            generalize wx.drew = wd at *
            refine takeH 0 (v := ?vt34) rfl (by kernel_rfl) (by kernel_rfl) (by kernel_rfl) (fun _ _ _ h => h) hH rfl ?yt34 ?rt34
            case yt34 => intro W hSw; go_simp; try with_reducible rfl
            try simp only [Act.put, List.setIfInBounds_toArray, List.set_cons_zero, List.set_cons_succ]
            refine takeH 1 (v := ?vt35) rfl (by kernel_rfl) (by kernel_rfl) (by kernel_rfl) (fun _ _ _ h => h) hH rfl ?yt35 ?rt35
            case yt35 => intro W hSw; go_simp; try with_reducible rfl
            try simp only [Act.put, List.setIfInBounds_toArray, List.set_cons_zero, List.set_cons_succ]
            refine takeH 2 (v := ?vt36) rfl (by kernel_rfl) (by kernel_rfl) (by kernel_rfl) (fun _ _ _ h => h) hH rfl ?yt36 ?rt36
            case yt36 => intro W hSw; go_simp; try with_reducible rfl
            try simp only [Act.put, List.setIfInBounds_toArray, List.set_cons_zero, List.set_cons_succ]
            refine takeH 3 (v := ?vt37) rfl (by kernel_rfl) (by kernel_rfl) (by kernel_rfl) (fun _ _ _ h => h) hH rfl ?yt37 ?rt37
            case yt37 => intro W hSw; go_simp; try with_reducible rfl
            try simp only [Act.put, List.setIfInBounds_toArray, List.set_cons_zero, List.set_cons_succ]
            refine takeH 4 (v := ?vt38) rfl (by kernel_rfl) (by kernel_rfl) (by kernel_rfl) (fun _ _ _ h => h) hH rfl ?yt38 ?rt38
            case yt38 => intro W hSw; go_simp; try with_reducible rfl
            try simp only [Act.put, List.setIfInBounds_toArray, List.set_cons_zero, List.set_cons_succ]
            refine takeH 5 (v := ?vt39) rfl (by kernel_rfl) (by kernel_rfl) (by kernel_rfl) (fun _ _ _ h => h) hH rfl ?yt39 ?rt39
            case yt39 => intro W hSw; go_simp; try with_reducible rfl
            try simp only [Act.put, List.setIfInBounds_toArray, List.set_cons_zero, List.set_cons_succ]
            refine takeH 6 (v := ?vt40) rfl (by kernel_rfl) (by kernel_rfl) (by kernel_rfl) (fun _ _ _ h => h) hH rfl ?yt40 ?rt40
            case yt40 => intro W hSw; go_simp; try with_reducible rfl
            try simp only [Act.put, List.setIfInBounds_toArray, List.set_cons_zero, List.set_cons_succ]
            refine takeH 7 (v := ?vt41) rfl (by kernel_rfl) (by kernel_rfl) (by kernel_rfl) (fun _ _ _ h => h) hH rfl ?yt41 ?rt41
            case yt41 => intro W hSw; go_simp; try with_reducible rfl
            try simp only [Act.put, List.setIfInBounds_toArray, List.set_cons_zero, List.set_cons_succ]
            refine takeH 8 (v := ?vt42) rfl (by kernel_rfl) (by kernel_rfl) (by kernel_rfl) (fun _ _ _ h => h) hH rfl ?yt42 ?rt42
            case yt42 => intro W hSw; go_simp; try with_reducible rfl
            try simp only [Act.put, List.setIfInBounds_toArray, List.set_cons_zero, List.set_cons_succ]
            refine takeH 9 (v := ?vt43) rfl (by kernel_rfl) (by kernel_rfl) (by kernel_rfl) (fun _ _ _ h => h) hH rfl ?yt43 ?rt43
            case yt43 => intro W hSw; go_simp; try with_reducible rfl
            try simp only [Act.put, List.setIfInBounds_toArray, List.set_cons_zero, List.set_cons_succ]
            refine takeH 10 (v := ?vt44) rfl (by kernel_rfl) (by kernel_rfl) (by kernel_rfl) (fun _ _ _ h => h) hH rfl ?yt44 ?rt44
            case yt44 => intro W hSw; go_simp; try with_reducible rfl
            try simp only [Act.put, List.setIfInBounds_toArray, List.set_cons_zero, List.set_cons_succ]
            refine takeH 11 (v := ?vt45) rfl (by kernel_rfl) (by kernel_rfl) (by kernel_rfl) (fun _ _ _ h => h) hH rfl ?yt45 ?rt45
            case yt45 => intro W hSw; go_simp; try with_reducible rfl
            try simp only [Act.put, List.setIfInBounds_toArray, List.set_cons_zero, List.set_cons_succ]
            refine callH 12 rfl (by kernel_rfl) rfl (fun K hK => ?_)
            go_simp
            go_at_call 44
            refine (HC.out _).mono ?_
            rintro e wy ⟨rfl, hbx⟩
            have SX := Lib.hid (show Str wy (w.heap.size) 25 #[.int .i64 f, .slice (some ⟨b, off, none⟩) g.length vc] from (hbx.block _ SX.out.lt).trans SX.out)
            have SV := Lib.hid (show Str wy (w.heap.size + 1) 27 #[.int .i64 ur, .int .i64 ua, .int .i64 ud] from (hbx.block _ SV.out.lt).trans SV.out)
            have SR := Lib.hid (show Str wy (w.heap.size + 2) 25 #[.int .i64 0, .slice none 0 0] from (hbx.block _ SR.out.lt).trans SR.out)
            have SO := Lib.hid (show Str wy (OB) 25 #[.int .i64 f, .slice al g.length cl] from (hbx.block _ SO.out.lt).trans SO.out)
            have OL := Lib.hid (show OwnV 27 wy (LB) ((Value.slice al g.length cl)) (g) from OL.out.below hbx)
            have C0 := Lib.hid (show wy.cell? ⟨b, off + k * 3, none⟩ = some (.int .i64 xr) from (hbx.cell (p := ⟨b, off + k * 3, none⟩) (show b < _ from Nat.lt_of_lt_of_le hbk Hb.out.size)).trans C0.out)
            have C1 := Lib.hid (show wy.cell? ⟨b, off + k * 3 + 1, none⟩ = some (.int .i64 xa) from (hbx.cell (p := ⟨b, off + k * 3 + 1, none⟩) (show b < _ from Nat.lt_of_lt_of_le hbk Hb.out.size)).trans C1.out)
            have C2 := Lib.hid (show wy.cell? ⟨b, off + k * 3 + 2, none⟩ = some (.int .i64 xd) from (hbx.cell (p := ⟨b, off + k * 3 + 2, none⟩) (show b < _ from Nat.lt_of_lt_of_le hbk Hb.out.size)).trans C2.out)
            have HW := Lib.hid (below_step HW.out HW.out.size hbx)
            have hsz9 := hbx.size
            have Hb := Lib.hid (below_step Hb.out Hb.out.size hbx)
            refine hK.out _ _ ⟨SX.out.cell 0 (v := .int .i64 f) rfl, SX.out.cell 1 (v := .slice (some ⟨b, off, none⟩) g.length vc) rfl, SV.out.cell 0 (v := .int .i64 ur) rfl, SV.out.cell 1 (v := .int .i64 ua) rfl, SV.out.cell 2 (v := .int .i64 ud) rfl, C0.out, C1.out, C2.out⟩ (fun hH => ?_)
            clear hK K hbx
            try simp only [Act.put, List.setIfInBounds_toArray, List.set_cons_zero, List.set_cons_succ]
            refine takeH 13 (v := ?vt46) rfl (by kernel_rfl) (by kernel_rfl) (by kernel_rfl) (fun _ _ _ h => h) hH rfl ?yt46 ?rt46
            case yt46 => intro W hSw; go_simp; try with_reducible rfl
            try simp only [Act.put, List.setIfInBounds_toArray, List.set_cons_zero, List.set_cons_succ]
            refine takeH 14 (v := ?vt47) rfl (by kernel_rfl) (by kernel_rfl) (by kernel_rfl) (fun _ _ _ h => h) hH rfl ?yt47 ?rt47
            case yt47 => intro W hSw; go_simp; try with_reducible rfl
            try simp only [Act.put, List.setIfInBounds_toArray, List.set_cons_zero, List.set_cons_succ]
            refine wpAnyH_done (by kernel_rfl) ?_ _
            clear hH
            try simp only [Act.put]
            have cX_0 := SX.out.cell 0 (v := .int .i64 f) rfl
            have cX_1 := SX.out.cell 1 (v := .slice (some ⟨b, off, none⟩) g.length vc) rfl
            have cV_0 := SV.out.cell 0 (v := .int .i64 ur) rfl
            have cV_1 := SV.out.cell 1 (v := .int .i64 ua) rfl
            have cV_2 := SV.out.cell 2 (v := .int .i64 ud) rfl
            have cO_0 := SO.out.cell 0 (v := .int .i64 f) rfl
            have cO_1 := SO.out.cell 1 (v := .slice al g.length cl) rfl
            go_wp2_with fail
            clear cX_0 cX_1 cV_0 cV_1 cV_2 cO_0 cO_1
            have hdr : Below wy.heap.size wy wy.drew := (Below.refl _ _).drew
            have SX := Lib.hid (show Str wy.drew (w.heap.size) 25 #[.int .i64 f, .slice (some ⟨b, off, none⟩) g.length vc] from SX.out)
            have SV := Lib.hid (show Str wy.drew (w.heap.size + 1) 27 #[.int .i64 ur, .int .i64 ua, .int .i64 ud] from SV.out)
            have SR := Lib.hid (show Str wy.drew (w.heap.size + 2) 25 #[.int .i64 0, .slice none 0 0] from SR.out)
            have SO := Lib.hid (show Str wy.drew (OB) 25 #[.int .i64 f, .slice al g.length cl] from SO.out)
            have OL := Lib.hid (show OwnV 27 wy.drew (LB) ((Value.slice al g.length cl)) (g) from OL.out)
            have C0 := Lib.hid (show wy.drew.cell? ⟨b, off + k * 3, none⟩ = some (.int .i64 xr) from C0.out)
            have C1 := Lib.hid (show wy.drew.cell? ⟨b, off + k * 3 + 1, none⟩ = some (.int .i64 xa) from C1.out)
            have C2 := Lib.hid (show wy.drew.cell? ⟨b, off + k * 3 + 2, none⟩ = some (.int .i64 xd) from C2.out)
            have HW := Lib.hid HW.out.drew
            have Hb := Lib.hid Hb.out.drew
            have hzwd : wy.heap.size ≤ wy.drew.heap.size := Nat.le_refl _
            clear hdr
            refine wp_region_held_drew (S := fun w' => w'.cell? ⟨w.heap.size, 0, none⟩ = some (.int .i64 f) ∧ w'.cell? ⟨w.heap.size, 1, none⟩ = some (.slice (some ⟨b, off, none⟩) g.length vc) ∧ w'.cell? ⟨w.heap.size + 1, 0, none⟩ = some (.int .i64 ur) ∧ w'.cell? ⟨w.heap.size + 1, 1, none⟩ = some (.int .i64 ua) ∧ w'.cell? ⟨w.heap.size + 1, 2, none⟩ = some (.int .i64 ud) ∧ w'.cell? ⟨OB, 0, none⟩ = some (.int .i64 f) ∧ w'.cell? ⟨OB, 1, none⟩ = some (.slice al g.length cl) ∧ w'.cell? ⟨b, off + k * 3, none⟩ = some (.int .i64 xr) ∧ w'.cell? ⟨b, off + k * 3 + 1, none⟩ = some (.int .i64 xa) ∧ w'.cell? ⟨b, off + k * 3 + 2, none⟩ = some (.int .i64 xd)) (by kernel_rfl) ⟨SX.out.cell 0 (v := .int .i64 f) rfl, SX.out.cell 1 (v := .slice (some ⟨b, off, none⟩) g.length vc) rfl, SV.out.cell 0 (v := .int .i64 ur) rfl, SV.out.cell 1 (v := .int .i64 ua) rfl, SV.out.cell 2 (v := .int .i64 ud) rfl, SO.out.cell 0 (v := .int .i64 f) rfl, SO.out.cell 1 (v := .slice al g.length cl) rfl, C0.out, C1.out, C2.out⟩ (fun hH => ?_)
            generalize wy.drew = wd at *
            refine takeH 0 (v := ?vt48) rfl (by kernel_rfl) (by kernel_rfl) (by kernel_rfl) (fun _ _ _ h => h) hH rfl ?yt48 ?rt48
            case yt48 => intro W hSw; go_simp; try with_reducible rfl
            try simp only [Act.put, List.setIfInBounds_toArray, List.set_cons_zero, List.set_cons_succ]
            refine takeH 1 (v := ?vt49) rfl (by kernel_rfl) (by kernel_rfl) (by kernel_rfl) (fun _ _ _ h => h) hH rfl ?yt49 ?rt49
            case yt49 => intro W hSw; go_simp; try with_reducible rfl
            try simp only [Act.put, List.setIfInBounds_toArray, List.set_cons_zero, List.set_cons_succ]
            refine takeH 2 (v := ?vt50) rfl (by kernel_rfl) (by kernel_rfl) (by kernel_rfl) (fun _ _ _ h => h) hH rfl ?yt50 ?rt50
            case yt50 => intro W hSw; go_simp; try with_reducible rfl
            try simp only [Act.put, List.setIfInBounds_toArray, List.set_cons_zero, List.set_cons_succ]
            refine takeH 3 (v := ?vt51) rfl (by kernel_rfl) (by kernel_rfl) (by kernel_rfl) (fun _ _ _ h => h) hH rfl ?yt51 ?rt51
            case yt51 => intro W hSw; go_simp; try with_reducible rfl
            try simp only [Act.put, List.setIfInBounds_toArray, List.set_cons_zero, List.set_cons_succ]
            refine takeH 4 (v := ?vt52) rfl (by kernel_rfl) (by kernel_rfl) (by kernel_rfl) (fun _ _ _ h => h) hH rfl ?yt52 ?rt52
            case yt52 => intro W hSw; go_simp; try with_reducible rfl
            try simp only [Act.put, List.setIfInBounds_toArray, List.set_cons_zero, List.set_cons_succ]
            refine takeH 5 (v := ?vt53) rfl (by kernel_rfl) (by kernel_rfl) (by kernel_rfl) (fun _ _ _ h => h) hH rfl ?yt53 ?rt53
            case yt53 => intro W hSw; go_simp; try with_reducible rfl
            try simp only [Act.put, List.setIfInBounds_toArray, List.set_cons_zero, List.set_cons_succ]
            refine takeH 6 (v := ?vt54) rfl (by kernel_rfl) (by kernel_rfl) (by kernel_rfl) (fun _ _ _ h => h) hH rfl ?yt54 ?rt54
            case yt54 => intro W hSw; go_simp; try with_reducible rfl
            try simp only [Act.put, List.setIfInBounds_toArray, List.set_cons_zero, List.set_cons_succ]
            refine takeH 7 (v := ?vt55) rfl (by kernel_rfl) (by kernel_rfl) (by kernel_rfl) (fun _ _ _ h => h) hH rfl ?yt55 ?rt55
            case yt55 => intro W hSw; go_simp; try with_reducible rfl
            try simp only [Act.put, List.setIfInBounds_toArray, List.set_cons_zero, List.set_cons_succ]
            refine takeH 8 (v := ?vt56) rfl (by kernel_rfl) (by kernel_rfl) (by kernel_rfl) (fun _ _ _ h => h) hH rfl ?yt56 ?rt56
            case yt56 => intro W hSw; go_simp; try with_reducible rfl
            try simp only [Act.put, List.setIfInBounds_toArray, List.set_cons_zero, List.set_cons_succ]
            refine takeH 9 (v := ?vt57) rfl (by kernel_rfl) (by kernel_rfl) (by kernel_rfl) (fun _ _ _ h => h) hH rfl ?yt57 ?rt57
            case yt57 => intro W hSw; go_simp; try with_reducible rfl
            try simp only [Act.put, List.setIfInBounds_toArray, List.set_cons_zero, List.set_cons_succ]
            have cR_0 := SR.out.cell 0 (v := .int .i64 0) rfl
            have cR_1 := SR.out.cell 1 (v := .slice none 0 0) rfl
            have fR_0 := SR.out.frozen 0
            have fR_1 := SR.out.frozen 1
            refine callH 10 rfl (by kernel_rfl) rfl (fun K hK => ?_)
            go_simp
            clear cR_0 cR_1 fR_0 fR_1
            have SX := Lib.hid (show Str ((wd.setCell ⟨w.heap.size + 2, 0, none⟩ (.int .i64 f)).setCell ⟨w.heap.size + 2, 1, none⟩ (.slice al g.length cl)) (w.heap.size) 25 #[.int .i64 f, .slice (some ⟨b, off, none⟩) g.length vc] from ((((SX.out).other (by omega) _ _)).other (by omega) _ _))
            have SV := Lib.hid (show Str ((wd.setCell ⟨w.heap.size + 2, 0, none⟩ (.int .i64 f)).setCell ⟨w.heap.size + 2, 1, none⟩ (.slice al g.length cl)) (w.heap.size + 1) 27 #[.int .i64 ur, .int .i64 ua, .int .i64 ud] from ((((SV.out).other (by omega) _ _)).other (by omega) _ _))
            have SO := Lib.hid (show Str ((wd.setCell ⟨w.heap.size + 2, 0, none⟩ (.int .i64 f)).setCell ⟨w.heap.size + 2, 1, none⟩ (.slice al g.length cl)) (OB) 25 #[.int .i64 f, .slice al g.length cl] from ((((SO.out).other (by omega) _ _)).other (by omega) _ _))
            have SR := Lib.hid (show Str ((wd.setCell ⟨w.heap.size + 2, 0, none⟩ (.int .i64 f)).setCell ⟨w.heap.size + 2, 1, none⟩ (.slice al g.length cl)) (w.heap.size + 2) 25 #[.int .i64 f, .slice al g.length cl] from ((((SR.out).set 0 (.int .i64 f))).set 1 (.slice al g.length cl)))
            have C0 := Lib.hid (show ((wd.setCell ⟨w.heap.size + 2, 0, none⟩ (.int .i64 f)).setCell ⟨w.heap.size + 2, 1, none⟩ (.slice al g.length cl)).cell? ⟨b, off + k * 3, none⟩ = some (.int .i64 xr) from ((World.cell?_setCell_other _ _ _ _ (by simp only [ne_eq, Addr.mk.injEq]; omega)).trans (((World.cell?_setCell_other _ _ _ _ (by simp only [ne_eq, Addr.mk.injEq]; omega)).trans (C0.out)))))
            have C1 := Lib.hid (show ((wd.setCell ⟨w.heap.size + 2, 0, none⟩ (.int .i64 f)).setCell ⟨w.heap.size + 2, 1, none⟩ (.slice al g.length cl)).cell? ⟨b, off + k * 3 + 1, none⟩ = some (.int .i64 xa) from ((World.cell?_setCell_other _ _ _ _ (by simp only [ne_eq, Addr.mk.injEq]; omega)).trans (((World.cell?_setCell_other _ _ _ _ (by simp only [ne_eq, Addr.mk.injEq]; omega)).trans (C1.out)))))
            have C2 := Lib.hid (show ((wd.setCell ⟨w.heap.size + 2, 0, none⟩ (.int .i64 f)).setCell ⟨w.heap.size + 2, 1, none⟩ (.slice al g.length cl)).cell? ⟨b, off + k * 3 + 2, none⟩ = some (.int .i64 xd) from ((World.cell?_setCell_other _ _ _ _ (by simp only [ne_eq, Addr.mk.injEq]; omega)).trans (((World.cell?_setCell_other _ _ _ _ (by simp only [ne_eq, Addr.mk.injEq]; omega)).trans (C2.out)))))
            have OL := Lib.hid (show OwnV 27 ((wd.setCell ⟨w.heap.size + 2, 0, none⟩ (.int .i64 f)).setCell ⟨w.heap.size + 2, 1, none⟩ (.slice al g.length cl)) (LB) ((Value.slice al g.length cl)) (g) from OL.out.kept fun q e => by have h1 := OL.out.lt q e; have h2 := hne q e; exact set2 (by simpa using h1.2) (by omega))
            have Hb := Lib.hid (show Below w.heap.size w ((wd.setCell ⟨w.heap.size + 2, 0, none⟩ (.int .i64 f)).setCell ⟨w.heap.size + 2, 1, none⟩ (.slice al g.length cl)) from ((((Hb.out).setCell (p := ⟨w.heap.size + 2, 0, none⟩) (by simp only; omega) _)).setCell (p := ⟨w.heap.size + 2, 1, none⟩) (by simp only; omega) _))
            have hzw8 : ((wd.setCell ⟨w.heap.size + 2, 0, none⟩ (.int .i64 f)).setCell ⟨w.heap.size + 2, 1, none⟩ (.slice al g.length cl)).heap.size = wd.heap.size := by simp
            refine hK.out _ _ ⟨SX.out.cell 0 (v := .int .i64 f) rfl, SX.out.cell 1 (v := .slice (some ⟨b, off, none⟩) g.length vc) rfl, SV.out.cell 0 (v := .int .i64 ur) rfl, SV.out.cell 1 (v := .int .i64 ua) rfl, SV.out.cell 2 (v := .int .i64 ud) rfl, SO.out.cell 0 (v := .int .i64 f) rfl, SO.out.cell 1 (v := .slice al g.length cl) rfl, C0.out, C1.out, C2.out⟩ (fun hH => ?_)
            generalize ((wd.setCell ⟨w.heap.size + 2, 0, none⟩ (.int .i64 f)).setCell ⟨w.heap.size + 2, 1, none⟩ (.slice al g.length cl)) = w8 at *
            clear hK K
            try simp only [Act.put, List.setIfInBounds_toArray, List.set_cons_zero, List.set_cons_succ]
            refine takeH 11 (v := ?vt58) rfl (by kernel_rfl) (by kernel_rfl) (by kernel_rfl) (fun _ _ _ h => h) hH rfl ?yt58 ?rt58
            case yt58 => intro W hSw; go_simp; try with_reducible rfl
            try simp only [Act.put, List.setIfInBounds_toArray, List.set_cons_zero, List.set_cons_succ]
            refine wpAnyH_done (by kernel_rfl) ?_ _
            clear hH
            try simp only [Act.put]
            have e0 := SR.out.cell 0 (v := .int .i64 f) rfl
            have e1 := SR.out.cell 1 (v := .slice al g.length cl) rfl
            go_wp2
            refine bodyPost_ret (v := .tuple #[.agg #[.int .i64 f, .slice al g.length cl], .bool (xd == ud)]) (by simp [results, Try.f38, go_sem, e0, e1]) rfl ?_
            obtain ⟨s1, s2⟩ := sign_at_hit f hlt Hup.out (by rw [Hx.out]; exact h1) (by rw [Hx.out]; exact h2)
            rw [Hx.out] at s2
            exact ⟨.slice al g.length cl, by rw [s2] <;> rfl, by rw [s1]; exact OwnR.from (OL.out.ownR (Nat.le_refl _)) (by omega), Hb.out⟩
          | true =>
            rw [h2] at HC
            have cX_0 := SX.out.cell 0 (v := .int .i64 f) rfl
            have cX_1 := SX.out.cell 1 (v := .slice (some ⟨b, off, none⟩) g.length vc) rfl
            have cV_0 := SV.out.cell 0 (v := .int .i64 ur) rfl
            have cV_1 := SV.out.cell 1 (v := .int .i64 ua) rfl
            have cV_2 := SV.out.cell 2 (v := .int .i64 ud) rfl
            go_wp2_with fail
            clear cX_0 cX_1 cV_0 cV_1 cV_2
            have hdr : Below wx.heap.size wx wx.drew := (Below.refl _ _).drew
            have SX := Lib.hid (show Str wx.drew (w.heap.size) 25 #[.int .i64 f, .slice (some ⟨b, off, none⟩) g.length vc] from SX.out)
            have SV := Lib.hid (show Str wx.drew (w.heap.size + 1) 27 #[.int .i64 ur, .int .i64 ua, .int .i64 ud] from SV.out)
            have SR := Lib.hid (show Str wx.drew (w.heap.size + 2) 25 #[.int .i64 0, .slice none 0 0] from SR.out)
            have SO := Lib.hid (show Str wx.drew (OB) 25 #[.int .i64 f, .slice al g.length cl] from SO.out)
            have OL := Lib.hid (show OwnV 27 wx.drew (LB) ((Value.slice al g.length cl)) (g) from OL.out)
            have C0 := Lib.hid (show wx.drew.cell? ⟨b, off + k * 3, none⟩ = some (.int .i64 xr) from C0.out)
            have C1 := Lib.hid (show wx.drew.cell? ⟨b, off + k * 3 + 1, none⟩ = some (.int .i64 xa) from C1.out)
            have C2 := Lib.hid (show wx.drew.cell? ⟨b, off + k * 3 + 2, none⟩ = some (.int .i64 xd) from C2.out)
            have HW := Lib.hid HW.out.drew
            have Hb := Lib.hid Hb.out.drew
            have hzwd : wx.heap.size ≤ wx.drew.heap.size := Nat.le_refl _
            clear hdr
            refine wp_region_held_drew (S := fun w' => w'.cell? ⟨w.heap.size, 0, none⟩ = some (.int .i64 f) ∧ w'.cell? ⟨w.heap.size, 1, none⟩ = some (.slice (some ⟨b, off, none⟩) g.length vc) ∧ w'.cell? ⟨w.heap.size + 1, 0, none⟩ = some (.int .i64 ur) ∧ w'.cell? ⟨w.heap.size + 1, 1, none⟩ = some (.int .i64 ua) ∧ w'.cell? ⟨w.heap.size + 1, 2, none⟩ = some (.int .i64 ud) ∧ w'.cell? ⟨b, off + k * 3, none⟩ = some (.int .i64 xr) ∧ w'.cell? ⟨b, off + k * 3 + 1, none⟩ = some (.int .i64 xa) ∧ w'.cell? ⟨b, off + k * 3 + 2, none⟩ = some (.int .i64 xd)) (by kernel_rfl) ⟨SX.out.cell 0 (v := .int .i64 f) rfl, SX.out.cell 1 (v := .slice (some ⟨b, off, none⟩) g.length vc) rfl, SV.out.cell 0 (v := .int .i64 ur) rfl, SV.out.cell 1 (v := .int .i64 ua) rfl, SV.out.cell 2 (v := .int .i64 ud) rfl, C0.out, C1.out, C2.out⟩ (fun hH => ?_)
            generalize wx.drew = wd at *
            refine takeH 0 (v := ?vt59) rfl (by kernel_rfl) (by kernel_rfl) (by kernel_rfl) (fun _ _ _ h => h) hH rfl ?yt59 ?rt59
            case yt59 => intro W hSw; go_simp; try with_reducible rfl
            try simp only [Act.put, List.setIfInBounds_toArray, List.set_cons_zero, List.set_cons_succ]
            refine takeH 1 (v := ?vt60) rfl (by kernel_rfl) (by kernel_rfl) (by kernel_rfl) (fun _ _ _ h => h) hH rfl ?yt60 ?rt60
            case yt60 => intro W hSw; go_simp; try with_reducible rfl
            try simp only [Act.put, List.setIfInBounds_toArray, List.set_cons_zero, List.set_cons_succ]
            refine takeH 2 (v := ?vt61) rfl (by kernel_rfl) (by kernel_rfl) (by kernel_rfl) (fun _ _ _ h => h) hH rfl ?yt61 ?rt61
            case yt61 => intro W hSw; go_simp; try with_reducible rfl
            try simp only [Act.put, List.setIfInBounds_toArray, List.set_cons_zero, List.set_cons_succ]
            refine takeH 3 (v := ?vt62) rfl (by kernel_rfl) (by kernel_rfl) (by kernel_rfl) (fun _ _ _ h => h) hH rfl ?yt62 ?rt62
            case yt62 => intro W hSw; go_simp; try with_reducible rfl
            try simp only [Act.put, List.setIfInBounds_toArray, List.set_cons_zero, List.set_cons_succ]
            refine takeH 4 (v := ?vt63) rfl (by kernel_rfl) (by kernel_rfl) (by kernel_rfl) (fun _ _ _ h => h) hH rfl ?yt63 ?rt63
            case yt63 => intro W hSw; go_simp; try with_reducible rfl
            try simp only [Act.put, List.setIfInBounds_toArray, List.set_cons_zero, List.set_cons_succ]
            refine takeH 5 (v := ?vt64) rfl (by kernel_rfl) (by kernel_rfl) (by kernel_rfl) (fun _ _ _ h => h) hH rfl ?yt64 ?rt64
            case yt64 => intro W hSw; go_simp; try with_reducible rfl
            try simp only [Act.put, List.setIfInBounds_toArray, List.set_cons_zero, List.set_cons_succ]
            refine takeH 6 (v := ?vt65) rfl (by kernel_rfl) (by kernel_rfl) (by kernel_rfl) (fun _ _ _ h => h) hH rfl ?yt65 ?rt65
            case yt65 => intro W hSw; go_simp; try with_reducible rfl
            try simp only [Act.put, List.setIfInBounds_toArray, List.set_cons_zero, List.set_cons_succ]
            refine takeH 7 (v := ?vt66) rfl (by kernel_rfl) (by kernel_rfl) (by kernel_rfl) (fun _ _ _ h => h) hH rfl ?yt66 ?rt66
            case yt66 => intro W hSw; go_simp; try with_reducible rfl
            try simp only [Act.put, List.setIfInBounds_toArray, List.set_cons_zero, List.set_cons_succ]
            refine takeH 8 (v := ?vt67) rfl (by kernel_rfl) (by kernel_rfl) (by kernel_rfl) (fun _ _ _ h => h) hH rfl ?yt67 ?rt67
            case yt67 => intro W hSw; go_simp; try with_reducible rfl
            try simp only [Act.put, List.setIfInBounds_toArray, List.set_cons_zero, List.set_cons_succ]
            refine takeH 9 (v := ?vt68) rfl (by kernel_rfl) (by kernel_rfl) (by kernel_rfl) (fun _ _ _ h => h) hH rfl ?yt68 ?rt68
            case yt68 => intro W hSw; go_simp; try with_reducible rfl
            try simp only [Act.put, List.setIfInBounds_toArray, List.set_cons_zero, List.set_cons_succ]
            refine takeH 10 (v := ?vt69) rfl (by kernel_rfl) (by kernel_rfl) (by kernel_rfl) (fun _ _ _ h => h) hH rfl ?yt69 ?rt69
            case yt69 => intro W hSw; go_simp; try with_reducible rfl
            try simp only [Act.put, List.setIfInBounds_toArray, List.set_cons_zero, List.set_cons_succ]
            refine takeH 11 (v := ?vt70) rfl (by kernel_rfl) (by kernel_rfl) (by kernel_rfl) (fun _ _ _ h => h) hH rfl ?yt70 ?rt70
            case yt70 => intro W hSw; go_simp; try with_reducible rfl
            try simp only [Act.put, List.setIfInBounds_toArray, List.set_cons_zero, List.set_cons_succ]
            refine callH 12 rfl (by kernel_rfl) rfl (fun K hK => ?_)
            go_simp
            go_at_call 44
            refine (HC.out _).mono ?_
            rintro e wy ⟨rfl, hbx⟩
            have SX := Lib.hid (show Str wy (w.heap.size) 25 #[.int .i64 f, .slice (some ⟨b, off, none⟩) g.length vc] from (hbx.block _ SX.out.lt).trans SX.out)
            have SV := Lib.hid (show Str wy (w.heap.size + 1) 27 #[.int .i64 ur, .int .i64 ua, .int .i64 ud] from (hbx.block _ SV.out.lt).trans SV.out)
            have SR := Lib.hid (show Str wy (w.heap.size + 2) 25 #[.int .i64 0, .slice none 0 0] from (hbx.block _ SR.out.lt).trans SR.out)
            have SO := Lib.hid (show Str wy (OB) 25 #[.int .i64 f, .slice al g.length cl] from (hbx.block _ SO.out.lt).trans SO.out)
            have OL := Lib.hid (show OwnV 27 wy (LB) ((Value.slice al g.length cl)) (g) from OL.out.below hbx)
            have C0 := Lib.hid (show wy.cell? ⟨b, off + k * 3, none⟩ = some (.int .i64 xr) from (hbx.cell (p := ⟨b, off + k * 3, none⟩) (show b < _ from Nat.lt_of_lt_of_le hbk Hb.out.size)).trans C0.out)
            have C1 := Lib.hid (show wy.cell? ⟨b, off + k * 3 + 1, none⟩ = some (.int .i64 xa) from (hbx.cell (p := ⟨b, off + k * 3 + 1, none⟩) (show b < _ from Nat.lt_of_lt_of_le hbk Hb.out.size)).trans C1.out)
            have C2 := Lib.hid (show wy.cell? ⟨b, off + k * 3 + 2, none⟩ = some (.int .i64 xd) from (hbx.cell (p := ⟨b, off + k * 3 + 2, none⟩) (show b < _ from Nat.lt_of_lt_of_le hbk Hb.out.size)).trans C2.out)
            have HW := Lib.hid (below_step HW.out HW.out.size hbx)
            have hsz9 := hbx.size
            have Hb := Lib.hid (below_step Hb.out Hb.out.size hbx)
            refine hK.out _ _ ⟨SX.out.cell 0 (v := .int .i64 f) rfl, SX.out.cell 1 (v := .slice (some ⟨b, off, none⟩) g.length vc) rfl, SV.out.cell 0 (v := .int .i64 ur) rfl, SV.out.cell 1 (v := .int .i64 ua) rfl, SV.out.cell 2 (v := .int .i64 ud) rfl, C0.out, C1.out, C2.out⟩ (fun hH => ?_)
            clear hK K hbx
            try simp only [Act.put, List.setIfInBounds_toArray, List.set_cons_zero, List.set_cons_succ]
            refine takeH 13 (v := ?vt71) rfl (by kernel_rfl) (by kernel_rfl) (by kernel_rfl) (fun _ _ _ h => h) hH rfl ?yt71 ?rt71
            case yt71 => intro W hSw; go_simp; try with_reducible rfl
            try simp only [Act.put, List.setIfInBounds_toArray, List.set_cons_zero, List.set_cons_succ]
            refine takeH 14 (v := ?vt72) rfl (by kernel_rfl) (by kernel_rfl) (by kernel_rfl) (fun _ _ _ h => h) hH rfl ?yt72 ?rt72
            case yt72 => intro W hSw; go_simp; try with_reducible rfl
            try simp only [Act.put, List.setIfInBounds_toArray, List.set_cons_zero, List.set_cons_succ]
            refine wpAnyH_done (by kernel_rfl) ?_ _
            clear hH
            try simp only [Act.put]
            have hsg := Lib.hid (sign_at_no f (v := ⟨ur, ua, ud⟩) hk Hup.out (fun _ => ⟨by rw [Hx.out]; exact h1, by rw [Hx.out]; exact h2⟩))
            by_cases hyA : ur < f
            · skip
              have HyA := Lib.hid hyA
              have hlo : decide (ur < f) = true := decide_eq_true hyA
              have cX_0 := SX.out.cell 0 (v := .int .i64 f) rfl
              have cX_1 := SX.out.cell 1 (v := .slice (some ⟨b, off, none⟩) g.length vc) rfl
              have cV_0 := SV.out.cell 0 (v := .int .i64 ur) rfl
              have cV_1 := SV.out.cell 1 (v := .int .i64 ua) rfl
              have cV_2 := SV.out.cell 2 (v := .int .i64 ud) rfl
              have cO_0 := SO.out.cell 0 (v := .int .i64 f) rfl
              have cO_1 := SO.out.cell 1 (v := .slice al g.length cl) rfl
              have cR_0 := SR.out.cell 0 (v := .int .i64 0) rfl
              have cR_1 := SR.out.cell 1 (v := .slice none 0 0) rfl
              have fR_0 := SR.out.frozen 0
              have fR_1 := SR.out.frozen 1
              have sF := (SR.out.set 0 (.int .i64 f)).set 1 (.slice al g.length cl)
              have e0 := sF.cell 0 (v := .int .i64 f) rfl
              have e1 := sF.cell 1 (v := .slice al g.length cl) rfl
              clear sF
              go_wp2
              refine bodyPost_ret (v := .tuple #[.agg #[.int .i64 f, .slice al g.length cl], .bool false]) (by simp [results, Try.f38, go_sem, e0, e1]) rfl ?_
              clear cX_0 cX_1 cV_0 cV_1 cV_2 cO_0 cO_1 cR_0 cR_1 fR_0 fR_1
              have SX := Lib.hid (show Str ((wy.setCell ⟨w.heap.size + 2, 0, none⟩ (.int .i64 f)).setCell ⟨w.heap.size + 2, 1, none⟩ (.slice al g.length cl)) (w.heap.size) 25 #[.int .i64 f, .slice (some ⟨b, off, none⟩) g.length vc] from ((((SX.out).other (by omega) _ _)).other (by omega) _ _))
              have SV := Lib.hid (show Str ((wy.setCell ⟨w.heap.size + 2, 0, none⟩ (.int .i64 f)).setCell ⟨w.heap.size + 2, 1, none⟩ (.slice al g.length cl)) (w.heap.size + 1) 27 #[.int .i64 ur, .int .i64 ua, .int .i64 ud] from ((((SV.out).other (by omega) _ _)).other (by omega) _ _))
              have SO := Lib.hid (show Str ((wy.setCell ⟨w.heap.size + 2, 0, none⟩ (.int .i64 f)).setCell ⟨w.heap.size + 2, 1, none⟩ (.slice al g.length cl)) (OB) 25 #[.int .i64 f, .slice al g.length cl] from ((((SO.out).other (by omega) _ _)).other (by omega) _ _))
              have SR := Lib.hid (show Str ((wy.setCell ⟨w.heap.size + 2, 0, none⟩ (.int .i64 f)).setCell ⟨w.heap.size + 2, 1, none⟩ (.slice al g.length cl)) (w.heap.size + 2) 25 #[.int .i64 f, .slice al g.length cl] from ((((SR.out).set 0 (.int .i64 f))).set 1 (.slice al g.length cl)))
              have C0 := Lib.hid (show ((wy.setCell ⟨w.heap.size + 2, 0, none⟩ (.int .i64 f)).setCell ⟨w.heap.size + 2, 1, none⟩ (.slice al g.length cl)).cell? ⟨b, off + k * 3, none⟩ = some (.int .i64 xr) from ((World.cell?_setCell_other _ _ _ _ (by simp only [ne_eq, Addr.mk.injEq]; omega)).trans (((World.cell?_setCell_other _ _ _ _ (by simp only [ne_eq, Addr.mk.injEq]; omega)).trans (C0.out)))))
              have C1 := Lib.hid (show ((wy.setCell ⟨w.heap.size + 2, 0, none⟩ (.int .i64 f)).setCell ⟨w.heap.size + 2, 1, none⟩ (.slice al g.length cl)).cell? ⟨b, off + k * 3 + 1, none⟩ = some (.int .i64 xa) from ((World.cell?_setCell_other _ _ _ _ (by simp only [ne_eq, Addr.mk.injEq]; omega)).trans (((World.cell?_setCell_other _ _ _ _ (by simp only [ne_eq, Addr.mk.injEq]; omega)).trans (C1.out)))))
              have C2 := Lib.hid (show ((wy.setCell ⟨w.heap.size + 2, 0, none⟩ (.int .i64 f)).setCell ⟨w.heap.size + 2, 1, none⟩ (.slice al g.length cl)).cell? ⟨b, off + k * 3 + 2, none⟩ = some (.int .i64 xd) from ((World.cell?_setCell_other _ _ _ _ (by simp only [ne_eq, Addr.mk.injEq]; omega)).trans (((World.cell?_setCell_other _ _ _ _ (by simp only [ne_eq, Addr.mk.injEq]; omega)).trans (C2.out)))))
              have OL := Lib.hid (show OwnV 27 ((wy.setCell ⟨w.heap.size + 2, 0, none⟩ (.int .i64 f)).setCell ⟨w.heap.size + 2, 1, none⟩ (.slice al g.length cl)) (LB) ((Value.slice al g.length cl)) (g) from OL.out.kept fun q e => by have h1 := OL.out.lt q e; have h2 := hne q e; exact set2 (by simpa using h1.2) (by omega))
              have Hb := Lib.hid (show Below w.heap.size w ((wy.setCell ⟨w.heap.size + 2, 0, none⟩ (.int .i64 f)).setCell ⟨w.heap.size + 2, 1, none⟩ (.slice al g.length cl)) from ((((Hb.out).setCell (p := ⟨w.heap.size + 2, 0, none⟩) (by simp only; omega) _)).setCell (p := ⟨w.heap.size + 2, 1, none⟩) (by simp only; omega) _))
              have hzw8 : ((wy.setCell ⟨w.heap.size + 2, 0, none⟩ (.int .i64 f)).setCell ⟨w.heap.size + 2, 1, none⟩ (.slice al g.length cl)).heap.size = wy.heap.size := by simp
              obtain ⟨s1, s2⟩ := hsg.out
              rw [if_pos (.inl HyA.out)] at s1
              exact ⟨.slice al g.length cl, by rw [s2]; simp [HyA.out], by rw [s1]; exact OwnR.from (OL.out.ownR (Nat.le_refl _)) (by omega), Hb.out⟩
            have HyA := Lib.hid hyA
            have hlo : decide (ur < f) = false := decide_eq_false hyA
            by_cases hyB : 40 ≤ g.length
            · skip
              have HyB := Lib.hid hyB
              have hge : decide ((40 : Int) ≤ (g.length : Int)) = true := decide_eq_true (by omega)
              have hge' : (40 : Int) ≤ (g.length : Int) := by omega
              have cX_0 := SX.out.cell 0 (v := .int .i64 f) rfl
              have cX_1 := SX.out.cell 1 (v := .slice (some ⟨b, off, none⟩) g.length vc) rfl
              have cV_0 := SV.out.cell 0 (v := .int .i64 ur) rfl
              have cV_1 := SV.out.cell 1 (v := .int .i64 ua) rfl
              have cV_2 := SV.out.cell 2 (v := .int .i64 ud) rfl
              have cO_0 := SO.out.cell 0 (v := .int .i64 f) rfl
              have cO_1 := SO.out.cell 1 (v := .slice al g.length cl) rfl
              have cR_0 := SR.out.cell 0 (v := .int .i64 0) rfl
              have cR_1 := SR.out.cell 1 (v := .slice none 0 0) rfl
              have fR_0 := SR.out.frozen 0
              have fR_1 := SR.out.frozen 1
              have sF := (SR.out.set 0 (.int .i64 f)).set 1 (.slice al g.length cl)
              have e0 := sF.cell 0 (v := .int .i64 f) rfl
              have e1 := sF.cell 1 (v := .slice al g.length cl) rfl
              clear sF
              go_wp2
              refine bodyPost_ret (v := .tuple #[.agg #[.int .i64 f, .slice al g.length cl], .bool false]) (by simp [results, Try.f38, go_sem, e0, e1]) rfl ?_
              clear cX_0 cX_1 cV_0 cV_1 cV_2 cO_0 cO_1 cR_0 cR_1 fR_0 fR_1
              have SX := Lib.hid (show Str ((wy.setCell ⟨w.heap.size + 2, 0, none⟩ (.int .i64 f)).setCell ⟨w.heap.size + 2, 1, none⟩ (.slice al g.length cl)) (w.heap.size) 25 #[.int .i64 f, .slice (some ⟨b, off, none⟩) g.length vc] from ((((SX.out).other (by omega) _ _)).other (by omega) _ _))
              have SV := Lib.hid (show Str ((wy.setCell ⟨w.heap.size + 2, 0, none⟩ (.int .i64 f)).setCell ⟨w.heap.size + 2, 1, none⟩ (.slice al g.length cl)) (w.heap.size + 1) 27 #[.int .i64 ur, .int .i64 ua, .int .i64 ud] from ((((SV.out).other (by omega) _ _)).other (by omega) _ _))
              have SO := Lib.hid (show Str ((wy.setCell ⟨w.heap.size + 2, 0, none⟩ (.int .i64 f)).setCell ⟨w.heap.size + 2, 1, none⟩ (.slice al g.length cl)) (OB) 25 #[.int .i64 f, .slice al g.length cl] from ((((SO.out).other (by omega) _ _)).other (by omega) _ _))
              have SR := Lib.hid (show Str ((wy.setCell ⟨w.heap.size + 2, 0, none⟩ (.int .i64 f)).setCell ⟨w.heap.size + 2, 1, none⟩ (.slice al g.length cl)) (w.heap.size + 2) 25 #[.int .i64 f, .slice al g.length cl] from ((((SR.out).set 0 (.int .i64 f))).set 1 (.slice al g.length cl)))
              have C0 := Lib.hid (show ((wy.setCell ⟨w.heap.size + 2, 0, none⟩ (.int .i64 f)).setCell ⟨w.heap.size + 2, 1, none⟩ (.slice al g.length cl)).cell? ⟨b, off + k * 3, none⟩ = some (.int .i64 xr) from ((World.cell?_setCell_other _ _ _ _ (by simp only [ne_eq, Addr.mk.injEq]; omega)).trans (((World.cell?_setCell_other _ _ _ _ (by simp only [ne_eq, Addr.mk.injEq]; omega)).trans (C0.out)))))
              have C1 := Lib.hid (show ((wy.setCell ⟨w.heap.size + 2, 0, none⟩ (.int .i64 f)).setCell ⟨w.heap.size + 2, 1, none⟩ (.slice al g.length cl)).cell? ⟨b, off + k * 3 + 1, none⟩ = some (.int .i64 xa) from ((World.cell?_setCell_other _ _ _ _ (by simp only [ne_eq, Addr.mk.injEq]; omega)).trans (((World.cell?_setCell_other _ _ _ _ (by simp only [ne_eq, Addr.mk.injEq]; omega)).trans (C1.out)))))
              have C2 := Lib.hid (show ((wy.setCell ⟨w.heap.size + 2, 0, none⟩ (.int .i64 f)).setCell ⟨w.heap.size + 2, 1, none⟩ (.slice al g.length cl)).cell? ⟨b, off + k * 3 + 2, none⟩ = some (.int .i64 xd) from ((World.cell?_setCell_other _ _ _ _ (by simp only [ne_eq, Addr.mk.injEq]; omega)).trans (((World.cell?_setCell_other _ _ _ _ (by simp only [ne_eq, Addr.mk.injEq]; omega)).trans (C2.out)))))
              have OL := Lib.hid (show OwnV 27 ((wy.setCell ⟨w.heap.size + 2, 0, none⟩ (.int .i64 f)).setCell ⟨w.heap.size + 2, 1, none⟩ (.slice al g.length cl)) (LB) ((Value.slice al g.length cl)) (g) from OL.out.kept fun q e => by have h1 := OL.out.lt q e; have h2 := hne q e; exact set2 (by simpa using h1.2) (by omega))
              have Hb := Lib.hid (show Below w.heap.size w ((wy.setCell ⟨w.heap.size + 2, 0, none⟩ (.int .i64 f)).setCell ⟨w.heap.size + 2, 1, none⟩ (.slice al g.length cl)) from ((((Hb.out).setCell (p := ⟨w.heap.size + 2, 0, none⟩) (by simp only; omega) _)).setCell (p := ⟨w.heap.size + 2, 1, none⟩) (by simp only; omega) _))
              have hzw8 : ((wy.setCell ⟨w.heap.size + 2, 0, none⟩ (.int .i64 f)).setCell ⟨w.heap.size + 2, 1, none⟩ (.slice al g.length cl)).heap.size = wy.heap.size := by simp
              obtain ⟨s1, s2⟩ := hsg.out
              rw [if_pos (.inr HyB.out)] at s1
              exact ⟨.slice al g.length cl, by rw [s2]; simp [HyB.out], by rw [s1]; exact OwnR.from (OL.out.ownR (Nat.le_refl _)) (by omega), Hb.out⟩
            have hge : decide ((40 : Int) ≤ (g.length : Int)) = false := decide_eq_false (by omega)
            have hge' : ¬ (40 : Int) ≤ (g.length : Int) := by omega
            obtain ⟨s1, s2⟩ := hsg.out
            rw [if_neg (by intro h; rcases h with h | h; exact HyA.out h; exact hyB h)] at s1
            have s3 : signB f g ⟨ur, ua, ud⟩ = true := by rw [s2]; simp [HyA.out, hyB]
            have S1 := Lib.hid s1; have S3 := Lib.hid s3
            clear s1 s2 s3 hsg
            clear HW
            have HP := Lib.hid (HV.out.parts hcap.out hk)
            obtain ⟨ht1, ht2, ad, ac, hd1, hd2⟩ := HP.out
            have T1 := Lib.hid ht1; have T2 := Lib.hid ht2; have D1 := Lib.hid hd1; have D2 := Lib.hid hd2
            clear ht1 ht2 hd1 hd2 HP
            have hl1 : (g.take k).length ≤ 40 := by rw [List.length_take]; omega
            have hl2 : (g.drop k).length ≤ 40 := by rw [List.length_drop]; omega
            clear Hup
            generalize g.take k = G1 at *
            generalize g.drop k = G2 at *
            have cX_0 := SX.out.cell 0 (v := .int .i64 f) rfl
            have cX_1 := SX.out.cell 1 (v := .slice (some ⟨b, off, none⟩) g.length vc) rfl
            have cV_0 := SV.out.cell 0 (v := .int .i64 ur) rfl
            have cV_1 := SV.out.cell 1 (v := .int .i64 ua) rfl
            have cV_2 := SV.out.cell 2 (v := .int .i64 ud) rfl
            go_wp2_with fail
            clear cX_0 cX_1 cV_0 cV_1 cV_2
            have hdr : Below wy.heap.size wy wy.drew := (Below.refl _ _).drew
            have SX := Lib.hid (show Str wy.drew (w.heap.size) 25 #[.int .i64 f, .slice (some ⟨b, off, none⟩) g.length vc] from SX.out)
            have SV := Lib.hid (show Str wy.drew (w.heap.size + 1) 27 #[.int .i64 ur, .int .i64 ua, .int .i64 ud] from SV.out)
            have SR := Lib.hid (show Str wy.drew (w.heap.size + 2) 25 #[.int .i64 0, .slice none 0 0] from SR.out)
            have SO := Lib.hid (show Str wy.drew (OB) 25 #[.int .i64 f, .slice al g.length cl] from SO.out)
            have Hb := Lib.hid Hb.out.drew
            have hzwd9 : wy.heap.size ≤ wy.drew.heap.size := Nat.le_refl _
            clear hdr
            refine wp_region_held_drew (S := fun w' => w'.cell? ⟨w.heap.size, 0, none⟩ = some (.int .i64 f) ∧ w'.cell? ⟨w.heap.size, 1, none⟩ = some (.slice (some ⟨b, off, none⟩) g.length vc) ∧ w'.cell? ⟨w.heap.size + 1, 0, none⟩ = some (.int .i64 ur) ∧ w'.cell? ⟨w.heap.size + 1, 1, none⟩ = some (.int .i64 ua) ∧ w'.cell? ⟨w.heap.size + 1, 2, none⟩ = some (.int .i64 ud)) (by kernel_rfl) ⟨SX.out.cell 0 (v := .int .i64 f) rfl, SX.out.cell 1 (v := .slice (some ⟨b, off, none⟩) g.length vc) rfl, SV.out.cell 0 (v := .int .i64 ur) rfl, SV.out.cell 1 (v := .int .i64 ua) rfl, SV.out.cell 2 (v := .int .i64 ud) rfl⟩ (fun hH => ?_)
            generalize wy.drew = wd9 at *
            have hob9 := SO.out.lt
            have hkn : 0 ≤ (k : Int) := by omega
            refine takeH 1 (v := ?vt73) rfl (by kernel_rfl) (by kernel_rfl) (by kernel_rfl) (fun _ _ _ h => h) hH rfl ?yt73 ?rt73
            case yt73 => intro W hSw; go_simp; try with_reducible rfl
            try simp only [Act.put, List.setIfInBounds_toArray, List.set_cons_zero, List.set_cons_succ]
            refine takeH 2 (v := ?vt74) rfl (by kernel_rfl) (by kernel_rfl) (by kernel_rfl) (fun _ _ _ h => h) hH rfl ?yt74 ?rt74
            case yt74 => intro W hSw; go_simp; try with_reducible rfl
            try simp only [Act.put, List.setIfInBounds_toArray, List.set_cons_zero, List.set_cons_succ]
            refine takeH 3 (v := ?vt75) rfl (by kernel_rfl) (by kernel_rfl) (by kernel_rfl) (fun _ _ _ h => h) hH rfl ?yt75 ?rt75
            case yt75 => intro W hSw; go_simp; try with_reducible rfl
            try simp only [Act.put, List.setIfInBounds_toArray, List.set_cons_zero, List.set_cons_succ]
            refine takeH 4 (v := .slice (some ⟨b, off, none⟩) G1.length vc) rfl (by kernel_rfl) (by kernel_rfl) (by kernel_rfl) (fun _ _ _ h => h) hH rfl ?yt76 ?rt76
            case yt76 => intro W hSw; have hr := T1.out W; go_simp
            try simp only [Act.put, List.setIfInBounds_toArray, List.set_cons_zero, List.set_cons_succ]
            refine takeH 6 (v := ?vt77) rfl (by kernel_rfl) (by kernel_rfl) (by kernel_rfl) (fun _ _ _ h => h) hH rfl ?yt77 ?rt77
            case yt77 => intro W hSw; go_simp; try with_reducible rfl
            try simp only [Act.put, List.setIfInBounds_toArray, List.set_cons_zero, List.set_cons_succ]
            refine takeH 9 (v := ?vt78) rfl (by kernel_rfl) (by kernel_rfl) (by kernel_rfl) (fun _ _ _ h => h) hH rfl ?yt78 ?rt78
            case yt78 => intro W hSw; go_simp; try with_reducible rfl
            try simp only [Act.put, List.setIfInBounds_toArray, List.set_cons_zero, List.set_cons_succ]
            refine takeH 10 (v := ?vt79) rfl (by kernel_rfl) (by kernel_rfl) (by kernel_rfl) (fun _ _ _ h => h) hH rfl ?yt79 ?rt79
            case yt79 => intro W hSw; go_simp; try with_reducible rfl
            try simp only [Act.put, List.setIfInBounds_toArray, List.set_cons_zero, List.set_cons_succ]
            refine takeH 11 (v := ?vt80) rfl (by kernel_rfl) (by kernel_rfl) (by kernel_rfl) (fun _ _ _ h => h) hH rfl ?yt80 ?rt80
            case yt80 => intro W hSw; go_simp; try with_reducible rfl
            try simp only [Act.put, List.setIfInBounds_toArray, List.set_cons_zero, List.set_cons_succ]
            refine takeH 12 (v := .slice ad G2.length ac) rfl (by kernel_rfl) (by kernel_rfl) (by kernel_rfl) (fun _ _ _ h => h) hH rfl ?yt81 ?rt81
            case yt81 => intro W hSw; have hr := D1.out W; go_simp
            try simp only [Act.put, List.setIfInBounds_toArray, List.set_cons_zero, List.set_cons_succ]
            refine twoH 0 7 rfl rfl (by kernel_rfl) rfl rfl (fun K hK => ?_) (fun K hK => ?_)
            · skip
              go_simp
              have hal : Below wd9.heap.size wd9 (wd9.alloc (.cells #[] 27)) := (Below.refl _ _).alloc (Nat.le_refl _) _
              have oN := OwnV.empty 27 wd9
              have hzn : wd9.heap.size < (wd9.alloc (.cells #[] 27)).heap.size := by simp
              have SX := Lib.hid (show Str (wd9.alloc (.cells #[] 27)) (w.heap.size) 25 #[.int .i64 f, .slice (some ⟨b, off, none⟩) g.length vc] from (hal.block _ SX.out.lt).trans SX.out)
              have SV := Lib.hid (show Str (wd9.alloc (.cells #[] 27)) (w.heap.size + 1) 27 #[.int .i64 ur, .int .i64 ua, .int .i64 ud] from (hal.block _ SV.out.lt).trans SV.out)
              have SR := Lib.hid (show Str (wd9.alloc (.cells #[] 27)) (w.heap.size + 2) 25 #[.int .i64 0, .slice none 0 0] from (hal.block _ SR.out.lt).trans SR.out)
              have SO := Lib.hid (show Str (wd9.alloc (.cells #[] 27)) (OB) 25 #[.int .i64 f, .slice al g.length cl] from (hal.block _ SO.out.lt).trans SO.out)
              have hsz9 := hal.size
              have Hb := Lib.hid (below_step Hb.out Hb.out.size hal)
              have OM := Lib.hid oN; clear oN hal
              refine hK.out _ _ ⟨SX.out.cell 0 (v := .int .i64 f) rfl, SX.out.cell 1 (v := .slice (some ⟨b, off, none⟩) g.length vc) rfl, SV.out.cell 0 (v := .int .i64 ur) rfl, SV.out.cell 1 (v := .int .i64 ua) rfl, SV.out.cell 2 (v := .int .i64 ud) rfl⟩ (fun hH => ?_)
              clear hK K
              try simp only [Act.put, List.setIfInBounds_toArray, List.set_cons_zero, List.set_cons_succ]
              generalize (wd9.alloc (.cells #[] 27)) = wb12 at *
              generalize hNB : wd9.heap.size = NB at *
              have hNB9 : OB < NB := by omega
              refine twoH 5 7 rfl rfl (by kernel_rfl) rfl rfl (fun K hK => ?_) (fun K hK => ?_)
              · skip
                refine op_app_V (.tmp 68) (.tmp 72) rfl NB _ ([]) (G1) ((some ⟨b, off, none⟩)) (vc) rfl OM.out rfl (T2.out.below Hb.out) (by simp only [List.length_nil]; omega) (by omega) (fun u1 wa13 ho9 hg9 hp9 => ?_)
                have hrow : ∀ q, ((Value.slice (some ⟨NB, 0, none⟩) 0 0)).ownBlock = some q → q = NB := fun q e => by have e' : some NB = some q := e; exact (Option.some.inj e').symm
                have SX := Lib.hid (show Str wa13 (w.heap.size) 25 #[.int .i64 f, .slice (some ⟨b, off, none⟩) g.length vc] from SX.out.kept hg9 (fun e => by have := hrow _ e.symm; omega))
                have SV := Lib.hid (show Str wa13 (w.heap.size + 1) 27 #[.int .i64 ur, .int .i64 ua, .int .i64 ud] from SV.out.kept hg9 (fun e => by have := hrow _ e.symm; omega))
                have SR := Lib.hid (show Str wa13 (w.heap.size + 2) 25 #[.int .i64 0, .slice none 0 0] from SR.out.kept hg9 (fun e => by have := hrow _ e.symm; omega))
                have SO := Lib.hid (show Str wa13 (OB) 25 #[.int .i64 f, .slice al g.length cl] from SO.out.kept hg9 (fun e => by have := hrow _ e.symm; omega))
                have hsz9 := hg9.size
                have Hb := Lib.hid (Hb.out.grown hg9 Hb.out.size (fun q e => by have := hrow q e; omega))
                clear hrow hg9 hp9
                have OM := Lib.hid (show OwnV 27 wa13 NB u1 (G1) from ho9)
                clear ho9
                obtain ⟨a1, c1, rfl⟩ := OM.out.slice
                refine hK.out _ _ ⟨SX.out.cell 0 (v := .int .i64 f) rfl, SX.out.cell 1 (v := .slice (some ⟨b, off, none⟩) g.length vc) rfl, SV.out.cell 0 (v := .int .i64 ur) rfl, SV.out.cell 1 (v := .int .i64 ua) rfl, SV.out.cell 2 (v := .int .i64 ud) rfl⟩ (fun hH => ?_)
                clear hK K
                try simp only [Act.put, List.setIfInBounds_toArray, List.set_cons_zero, List.set_cons_succ]
                refine callH 7 rfl (by kernel_rfl) rfl (fun K hK => ?_)
                go_simp
                have hal : Below wa13.heap.size wa13 (wa13.alloc (.cells #[.int .i64 ur, .int .i64 ua, .int .i64 ud] 27)) := (Below.refl _ _).alloc (Nat.le_refl _) _
                have oN := Str.new wa13 27 #[.int .i64 ur, .int .i64 ua, .int .i64 ud]
                have hzn : wa13.heap.size < (wa13.alloc (.cells #[.int .i64 ur, .int .i64 ua, .int .i64 ud] 27)).heap.size := by simp
                have SX := Lib.hid (show Str (wa13.alloc (.cells #[.int .i64 ur, .int .i64 ua, .int .i64 ud] 27)) (w.heap.size) 25 #[.int .i64 f, .slice (some ⟨b, off, none⟩) g.length vc] from (hal.block _ SX.out.lt).trans SX.out)
                have SV := Lib.hid (show Str (wa13.alloc (.cells #[.int .i64 ur, .int .i64 ua, .int .i64 ud] 27)) (w.heap.size + 1) 27 #[.int .i64 ur, .int .i64 ua, .int .i64 ud] from (hal.block _ SV.out.lt).trans SV.out)
                have SR := Lib.hid (show Str (wa13.alloc (.cells #[.int .i64 ur, .int .i64 ua, .int .i64 ud] 27)) (w.heap.size + 2) 25 #[.int .i64 0, .slice none 0 0] from (hal.block _ SR.out.lt).trans SR.out)
                have SO := Lib.hid (show Str (wa13.alloc (.cells #[.int .i64 ur, .int .i64 ua, .int .i64 ud] 27)) (OB) 25 #[.int .i64 f, .slice al g.length cl] from (hal.block _ SO.out.lt).trans SO.out)
                have OM := Lib.hid (show OwnV 27 (wa13.alloc (.cells #[.int .i64 ur, .int .i64 ua, .int .i64 ud] 27)) (NB) ((Value.slice a1 G1.length c1)) (G1) from OM.out.below hal)
                have hsz9 := hal.size
                have Hb := Lib.hid (below_step Hb.out Hb.out.size hal)
                have SP := Lib.hid oN; clear oN hal
                refine hK.out _ _ ⟨SX.out.cell 0 (v := .int .i64 f) rfl, SX.out.cell 1 (v := .slice (some ⟨b, off, none⟩) g.length vc) rfl, SV.out.cell 0 (v := .int .i64 ur) rfl, SV.out.cell 1 (v := .int .i64 ua) rfl, SV.out.cell 2 (v := .int .i64 ud) rfl⟩ (fun hH => ?_)
                clear hK K
                try simp only [Act.put, List.setIfInBounds_toArray, List.set_cons_zero, List.set_cons_succ]
                generalize (wa13.alloc (.cells #[.int .i64 ur, .int .i64 ua, .int .i64 ud] 27)) = wb14 at *
                generalize hPB : wa13.heap.size = PB at *
                have hPB9 : OB < PB := by omega
                refine callH 8 rfl (by kernel_rfl) rfl (fun K hK => ?_)
                refine op_app_V (.tmp 73) (.tmp 75) rfl NB _ (G1) ([(⟨ur, ua, ud⟩ : Vt)]) (some ⟨PB, 0, none⟩) (1) rfl OM.out rfl (.inr ⟨_, rfl, srcV_one SP.out⟩) (by simp only [List.length_singleton]; omega) (by omega) (fun u2 wa15 ho9 hg9 hp9 => ?_)
                have hrow : ∀ q, ((Value.slice a1 G1.length c1)).ownBlock = some q → NB ≤ q := fun q e => (OM.out.lt q e).1
                have SX := Lib.hid (show Str wa15 (w.heap.size) 25 #[.int .i64 f, .slice (some ⟨b, off, none⟩) g.length vc] from SX.out.kept hg9 (fun e => by have := hrow _ e.symm; omega))
                have SV := Lib.hid (show Str wa15 (w.heap.size + 1) 27 #[.int .i64 ur, .int .i64 ua, .int .i64 ud] from SV.out.kept hg9 (fun e => by have := hrow _ e.symm; omega))
                have SR := Lib.hid (show Str wa15 (w.heap.size + 2) 25 #[.int .i64 0, .slice none 0 0] from SR.out.kept hg9 (fun e => by have := hrow _ e.symm; omega))
                have SO := Lib.hid (show Str wa15 (OB) 25 #[.int .i64 f, .slice al g.length cl] from SO.out.kept hg9 (fun e => by have := hrow _ e.symm; omega))
                have hsz9 := hg9.size
                have Hb := Lib.hid (Hb.out.grown hg9 Hb.out.size (fun q e => by have := hrow q e; omega))
                clear hrow hg9 hp9
                have OM := Lib.hid (show OwnV 27 wa15 NB u2 (G1 ++ [(⟨ur, ua, ud⟩ : Vt)]) from ho9)
                clear ho9
                have hlG3 : (G1 ++ [(⟨ur, ua, ud⟩ : Vt)]).length ≤ 41 := by simp only [List.length_append, List.length_singleton]; omega
                generalize hG3 : G1 ++ [(⟨ur, ua, ud⟩ : Vt)] = G3 at *
                obtain ⟨a2, c2, rfl⟩ := OM.out.slice
                refine hK.out _ _ ⟨SX.out.cell 0 (v := .int .i64 f) rfl, SX.out.cell 1 (v := .slice (some ⟨b, off, none⟩) g.length vc) rfl, SV.out.cell 0 (v := .int .i64 ur) rfl, SV.out.cell 1 (v := .int .i64 ua) rfl, SV.out.cell 2 (v := .int .i64 ud) rfl⟩ (fun hH => ?_)
                clear hK K
                try simp only [Act.put, List.setIfInBounds_toArray, List.set_cons_zero, List.set_cons_succ]
                refine callH 13 rfl (by kernel_rfl) rfl (fun K hK => ?_)
                refine op_app_V (.tmp 76) (.tmp 80) rfl NB _ (G3) (G2) (ad) (ac) rfl OM.out rfl (D2.out.below Hb.out) (by omega) (by omega) (fun u3 wa16 ho9 hg9 hp9 => ?_)
                have hrow : ∀ q, ((Value.slice a2 G3.length c2)).ownBlock = some q → NB ≤ q := fun q e => (OM.out.lt q e).1
                have SX := Lib.hid (show Str wa16 (w.heap.size) 25 #[.int .i64 f, .slice (some ⟨b, off, none⟩) g.length vc] from SX.out.kept hg9 (fun e => by have := hrow _ e.symm; omega))
                have SV := Lib.hid (show Str wa16 (w.heap.size + 1) 27 #[.int .i64 ur, .int .i64 ua, .int .i64 ud] from SV.out.kept hg9 (fun e => by have := hrow _ e.symm; omega))
                have SR := Lib.hid (show Str wa16 (w.heap.size + 2) 25 #[.int .i64 0, .slice none 0 0] from SR.out.kept hg9 (fun e => by have := hrow _ e.symm; omega))
                have SO := Lib.hid (show Str wa16 (OB) 25 #[.int .i64 f, .slice al g.length cl] from SO.out.kept hg9 (fun e => by have := hrow _ e.symm; omega))
                have hsz9 := hg9.size
                have Hb := Lib.hid (Hb.out.grown hg9 Hb.out.size (fun q e => by have := hrow q e; omega))
                clear hrow hg9 hp9
                have OM := Lib.hid (show OwnV 27 wa16 NB u3 (G3 ++ G2) from ho9)
                clear ho9
                have hlG4 : (G3 ++ G2).length ≤ 81 := by simp only [List.length_append]; omega
                generalize hG4 : G3 ++ G2 = G4 at *
                obtain ⟨a3, c3, rfl⟩ := OM.out.slice
                refine hK.out _ _ ⟨SX.out.cell 0 (v := .int .i64 f) rfl, SX.out.cell 1 (v := .slice (some ⟨b, off, none⟩) g.length vc) rfl, SV.out.cell 0 (v := .int .i64 ur) rfl, SV.out.cell 1 (v := .int .i64 ua) rfl, SV.out.cell 2 (v := .int .i64 ud) rfl⟩ (fun hH => ?_)
                clear hK K
                try simp only [Act.put, List.setIfInBounds_toArray, List.set_cons_zero, List.set_cons_succ]
                refine takeH 14 (v := ?vt82) rfl (by kernel_rfl) (by kernel_rfl) (by kernel_rfl) (fun _ _ _ h => h) hH rfl ?yt82 ?rt82
                case yt82 => intro W hSw; go_simp; try with_reducible rfl
                try simp only [Act.put, List.setIfInBounds_toArray, List.set_cons_zero, List.set_cons_succ]
                have cO_0 := SO.out.cell 0 (v := .int .i64 f) rfl
                have cO_1 := SO.out.cell 1 (v := .slice al g.length cl) rfl
                have fO_0 := SO.out.frozen 0
                have fO_1 := SO.out.frozen 1
                refine callH 15 rfl (by kernel_rfl) rfl (fun K hK => ?_)
                go_simp
                clear cO_0 cO_1 fO_0 fO_1
                have SX := Lib.hid (show Str (wa16.setCell ⟨OB, 1, none⟩ (.slice a3 G4.length c3)) (w.heap.size) 25 #[.int .i64 f, .slice (some ⟨b, off, none⟩) g.length vc] from ((SX.out).other (by omega) _ _))
                have SV := Lib.hid (show Str (wa16.setCell ⟨OB, 1, none⟩ (.slice a3 G4.length c3)) (w.heap.size + 1) 27 #[.int .i64 ur, .int .i64 ua, .int .i64 ud] from ((SV.out).other (by omega) _ _))
                have SR := Lib.hid (show Str (wa16.setCell ⟨OB, 1, none⟩ (.slice a3 G4.length c3)) (w.heap.size + 2) 25 #[.int .i64 0, .slice none 0 0] from ((SR.out).other (by omega) _ _))
                have SO := Lib.hid (show Str (wa16.setCell ⟨OB, 1, none⟩ (.slice a3 G4.length c3)) (OB) 25 #[.int .i64 f, .slice a3 G4.length c3] from ((SO.out).set 1 (.slice a3 G4.length c3)))
                have OM := Lib.hid (show OwnV 27 (wa16.setCell ⟨OB, 1, none⟩ (.slice a3 G4.length c3)) (NB) ((Value.slice a3 G4.length c3)) (G4) from OM.out.kept fun q e => by have h1 := OM.out.lt q e; exact set1 (by simpa using h1.2) (by omega))
                have Hb := Lib.hid (show Below w.heap.size w (wa16.setCell ⟨OB, 1, none⟩ (.slice a3 G4.length c3)) from ((Hb.out).setCell (p := ⟨OB, 1, none⟩) (by simp only; omega) _))
                have hzw10 : (wa16.setCell ⟨OB, 1, none⟩ (.slice a3 G4.length c3)).heap.size = wa16.heap.size := by simp
                refine hK.out _ _ ⟨SX.out.cell 0 (v := .int .i64 f) rfl, SX.out.cell 1 (v := .slice (some ⟨b, off, none⟩) g.length vc) rfl, SV.out.cell 0 (v := .int .i64 ur) rfl, SV.out.cell 1 (v := .int .i64 ua) rfl, SV.out.cell 2 (v := .int .i64 ud) rfl⟩ (fun hH => ?_)
                clear hK K
                generalize (wa16.setCell ⟨OB, 1, none⟩ (.slice a3 G4.length c3)) = w10 at *
                refine wpAnyH_done (by kernel_rfl) ?_ _
                clear hH
                try simp only [Act.put]
                have cO_0 := SO.out.cell 0 (v := .int .i64 f) rfl
                have cO_1 := SO.out.cell 1 (v := .slice a3 G4.length c3) rfl
                have cR_0 := SR.out.cell 0 (v := .int .i64 0) rfl
                have cR_1 := SR.out.cell 1 (v := .slice none 0 0) rfl
                have fR_0 := SR.out.frozen 0
                have fR_1 := SR.out.frozen 1
                have sF := (SR.out.set 0 (.int .i64 f)).set 1 (.slice a3 G4.length c3)
                have e0 := sF.cell 0 (v := .int .i64 f) rfl
                have e1 := sF.cell 1 (v := .slice a3 G4.length c3) rfl
                clear sF
                go_wp2
                refine bodyPost_ret (v := .tuple #[.agg #[.int .i64 f, .slice a3 G4.length c3], .bool true]) (by simp [results, Try.f38, go_sem, e0, e1]) rfl ?_
                clear cO_0 cO_1 cR_0 cR_1 fR_0 fR_1
                have SX := Lib.hid (show Str ((w10.setCell ⟨w.heap.size + 2, 0, none⟩ (.int .i64 f)).setCell ⟨w.heap.size + 2, 1, none⟩ (.slice a3 G4.length c3)) (w.heap.size) 25 #[.int .i64 f, .slice (some ⟨b, off, none⟩) g.length vc] from ((((SX.out).other (by omega) _ _)).other (by omega) _ _))
                have SV := Lib.hid (show Str ((w10.setCell ⟨w.heap.size + 2, 0, none⟩ (.int .i64 f)).setCell ⟨w.heap.size + 2, 1, none⟩ (.slice a3 G4.length c3)) (w.heap.size + 1) 27 #[.int .i64 ur, .int .i64 ua, .int .i64 ud] from ((((SV.out).other (by omega) _ _)).other (by omega) _ _))
                have SO := Lib.hid (show Str ((w10.setCell ⟨w.heap.size + 2, 0, none⟩ (.int .i64 f)).setCell ⟨w.heap.size + 2, 1, none⟩ (.slice a3 G4.length c3)) (OB) 25 #[.int .i64 f, .slice a3 G4.length c3] from ((((SO.out).other (by omega) _ _)).other (by omega) _ _))
                have SR := Lib.hid (show Str ((w10.setCell ⟨w.heap.size + 2, 0, none⟩ (.int .i64 f)).setCell ⟨w.heap.size + 2, 1, none⟩ (.slice a3 G4.length c3)) (w.heap.size + 2) 25 #[.int .i64 f, .slice a3 G4.length c3] from ((((SR.out).set 0 (.int .i64 f))).set 1 (.slice a3 G4.length c3)))
                have OM := Lib.hid (show OwnV 27 ((w10.setCell ⟨w.heap.size + 2, 0, none⟩ (.int .i64 f)).setCell ⟨w.heap.size + 2, 1, none⟩ (.slice a3 G4.length c3)) (NB) ((Value.slice a3 G4.length c3)) (G4) from OM.out.kept fun q e => by have h1 := OM.out.lt q e; exact set2 (by simpa using h1.2) (by omega))
                have Hb := Lib.hid (show Below w.heap.size w ((w10.setCell ⟨w.heap.size + 2, 0, none⟩ (.int .i64 f)).setCell ⟨w.heap.size + 2, 1, none⟩ (.slice a3 G4.length c3)) from ((((Hb.out).setCell (p := ⟨w.heap.size + 2, 0, none⟩) (by simp only; omega) _)).setCell (p := ⟨w.heap.size + 2, 1, none⟩) (by simp only; omega) _))
                have hzw11 : ((w10.setCell ⟨w.heap.size + 2, 0, none⟩ (.int .i64 f)).setCell ⟨w.heap.size + 2, 1, none⟩ (.slice a3 G4.length c3)).heap.size = w10.heap.size := by simp
                have hE : G4 = signG f g ⟨ur, ua, ud⟩ := by rw [S1.out, ← hG4, ← hG3]; simp
                exact ⟨.slice a3 G4.length c3, by rw [S3.out], by rw [← hE]; exact OwnR.from (OM.out.ownR (Nat.le_refl _)) (by omega), Hb.out⟩
              · skip
                go_simp
                have hal : Below wb12.heap.size wb12 (wb12.alloc (.cells #[.int .i64 ur, .int .i64 ua, .int .i64 ud] 27)) := (Below.refl _ _).alloc (Nat.le_refl _) _
                have oN := Str.new wb12 27 #[.int .i64 ur, .int .i64 ua, .int .i64 ud]
                have hzn : wb12.heap.size < (wb12.alloc (.cells #[.int .i64 ur, .int .i64 ua, .int .i64 ud] 27)).heap.size := by simp
                have SX := Lib.hid (show Str (wb12.alloc (.cells #[.int .i64 ur, .int .i64 ua, .int .i64 ud] 27)) (w.heap.size) 25 #[.int .i64 f, .slice (some ⟨b, off, none⟩) g.length vc] from (hal.block _ SX.out.lt).trans SX.out)
                have SV := Lib.hid (show Str (wb12.alloc (.cells #[.int .i64 ur, .int .i64 ua, .int .i64 ud] 27)) (w.heap.size + 1) 27 #[.int .i64 ur, .int .i64 ua, .int .i64 ud] from (hal.block _ SV.out.lt).trans SV.out)
                have SR := Lib.hid (show Str (wb12.alloc (.cells #[.int .i64 ur, .int .i64 ua, .int .i64 ud] 27)) (w.heap.size + 2) 25 #[.int .i64 0, .slice none 0 0] from (hal.block _ SR.out.lt).trans SR.out)
                have SO := Lib.hid (show Str (wb12.alloc (.cells #[.int .i64 ur, .int .i64 ua, .int .i64 ud] 27)) (OB) 25 #[.int .i64 f, .slice al g.length cl] from (hal.block _ SO.out.lt).trans SO.out)
                have OM := Lib.hid (show OwnV 27 (wb12.alloc (.cells #[.int .i64 ur, .int .i64 ua, .int .i64 ud] 27)) (NB) ((Value.slice (some ⟨NB, 0, none⟩) 0 0)) ([]) from OM.out.below hal)
                have hsz9 := hal.size
                have Hb := Lib.hid (below_step Hb.out Hb.out.size hal)
                have SP := Lib.hid oN; clear oN hal
                refine hK.out _ _ ⟨SX.out.cell 0 (v := .int .i64 f) rfl, SX.out.cell 1 (v := .slice (some ⟨b, off, none⟩) g.length vc) rfl, SV.out.cell 0 (v := .int .i64 ur) rfl, SV.out.cell 1 (v := .int .i64 ua) rfl, SV.out.cell 2 (v := .int .i64 ud) rfl⟩ (fun hH => ?_)
                clear hK K
                try simp only [Act.put, List.setIfInBounds_toArray, List.set_cons_zero, List.set_cons_succ]
                generalize (wb12.alloc (.cells #[.int .i64 ur, .int .i64 ua, .int .i64 ud] 27)) = wb17 at *
                generalize hPB : wb12.heap.size = PB at *
                have hPB9 : OB < PB := by omega
                refine callH 5 rfl (by kernel_rfl) rfl (fun K hK => ?_)
                refine op_app_V (.tmp 68) (.tmp 72) rfl NB _ ([]) (G1) ((some ⟨b, off, none⟩)) (vc) rfl OM.out rfl (T2.out.below Hb.out) (by simp only [List.length_nil]; omega) (by omega) (fun u1 wa18 ho9 hg9 hp9 => ?_)
                have hrow : ∀ q, ((Value.slice (some ⟨NB, 0, none⟩) 0 0)).ownBlock = some q → q = NB := fun q e => by have e' : some NB = some q := e; exact (Option.some.inj e').symm
                have SX := Lib.hid (show Str wa18 (w.heap.size) 25 #[.int .i64 f, .slice (some ⟨b, off, none⟩) g.length vc] from SX.out.kept hg9 (fun e => by have := hrow _ e.symm; omega))
                have SV := Lib.hid (show Str wa18 (w.heap.size + 1) 27 #[.int .i64 ur, .int .i64 ua, .int .i64 ud] from SV.out.kept hg9 (fun e => by have := hrow _ e.symm; omega))
                have SR := Lib.hid (show Str wa18 (w.heap.size + 2) 25 #[.int .i64 0, .slice none 0 0] from SR.out.kept hg9 (fun e => by have := hrow _ e.symm; omega))
                have SO := Lib.hid (show Str wa18 (OB) 25 #[.int .i64 f, .slice al g.length cl] from SO.out.kept hg9 (fun e => by have := hrow _ e.symm; omega))
                have SP := Lib.hid (show Str wa18 (PB) 27 #[.int .i64 ur, .int .i64 ua, .int .i64 ud] from SP.out.kept hg9 (fun e => by have := hrow _ e.symm; omega))
                have hsz9 := hg9.size
                have Hb := Lib.hid (Hb.out.grown hg9 Hb.out.size (fun q e => by have := hrow q e; omega))
                clear hrow hg9 hp9
                have OM := Lib.hid (show OwnV 27 wa18 NB u1 (G1) from ho9)
                clear ho9
                obtain ⟨a1, c1, rfl⟩ := OM.out.slice
                refine hK.out _ _ ⟨SX.out.cell 0 (v := .int .i64 f) rfl, SX.out.cell 1 (v := .slice (some ⟨b, off, none⟩) g.length vc) rfl, SV.out.cell 0 (v := .int .i64 ur) rfl, SV.out.cell 1 (v := .int .i64 ua) rfl, SV.out.cell 2 (v := .int .i64 ud) rfl⟩ (fun hH => ?_)
                clear hK K
                try simp only [Act.put, List.setIfInBounds_toArray, List.set_cons_zero, List.set_cons_succ]
                refine callH 8 rfl (by kernel_rfl) rfl (fun K hK => ?_)
                refine op_app_V (.tmp 73) (.tmp 75) rfl NB _ (G1) ([(⟨ur, ua, ud⟩ : Vt)]) (some ⟨PB, 0, none⟩) (1) rfl OM.out rfl (.inr ⟨_, rfl, srcV_one SP.out⟩) (by simp only [List.length_singleton]; omega) (by omega) (fun u2 wa19 ho9 hg9 hp9 => ?_)
                have hrow : ∀ q, ((Value.slice a1 G1.length c1)).ownBlock = some q → NB ≤ q := fun q e => (OM.out.lt q e).1
                have SX := Lib.hid (show Str wa19 (w.heap.size) 25 #[.int .i64 f, .slice (some ⟨b, off, none⟩) g.length vc] from SX.out.kept hg9 (fun e => by have := hrow _ e.symm; omega))
                have SV := Lib.hid (show Str wa19 (w.heap.size + 1) 27 #[.int .i64 ur, .int .i64 ua, .int .i64 ud] from SV.out.kept hg9 (fun e => by have := hrow _ e.symm; omega))
                have SR := Lib.hid (show Str wa19 (w.heap.size + 2) 25 #[.int .i64 0, .slice none 0 0] from SR.out.kept hg9 (fun e => by have := hrow _ e.symm; omega))
                have SO := Lib.hid (show Str wa19 (OB) 25 #[.int .i64 f, .slice al g.length cl] from SO.out.kept hg9 (fun e => by have := hrow _ e.symm; omega))
                have hsz9 := hg9.size
                have Hb := Lib.hid (Hb.out.grown hg9 Hb.out.size (fun q e => by have := hrow q e; omega))
                clear hrow hg9 hp9
                have OM := Lib.hid (show OwnV 27 wa19 NB u2 (G1 ++ [(⟨ur, ua, ud⟩ : Vt)]) from ho9)
                clear ho9
                have hlG3 : (G1 ++ [(⟨ur, ua, ud⟩ : Vt)]).length ≤ 41 := by simp only [List.length_append, List.length_singleton]; omega
                generalize hG3 : G1 ++ [(⟨ur, ua, ud⟩ : Vt)] = G3 at *
                obtain ⟨a2, c2, rfl⟩ := OM.out.slice
                refine hK.out _ _ ⟨SX.out.cell 0 (v := .int .i64 f) rfl, SX.out.cell 1 (v := .slice (some ⟨b, off, none⟩) g.length vc) rfl, SV.out.cell 0 (v := .int .i64 ur) rfl, SV.out.cell 1 (v := .int .i64 ua) rfl, SV.out.cell 2 (v := .int .i64 ud) rfl⟩ (fun hH => ?_)
                clear hK K
                try simp only [Act.put, List.setIfInBounds_toArray, List.set_cons_zero, List.set_cons_succ]
                refine callH 13 rfl (by kernel_rfl) rfl (fun K hK => ?_)
                refine op_app_V (.tmp 76) (.tmp 80) rfl NB _ (G3) (G2) (ad) (ac) rfl OM.out rfl (D2.out.below Hb.out) (by omega) (by omega) (fun u3 wa20 ho9 hg9 hp9 => ?_)
                have hrow : ∀ q, ((Value.slice a2 G3.length c2)).ownBlock = some q → NB ≤ q := fun q e => (OM.out.lt q e).1
                have SX := Lib.hid (show Str wa20 (w.heap.size) 25 #[.int .i64 f, .slice (some ⟨b, off, none⟩) g.length vc] from SX.out.kept hg9 (fun e => by have := hrow _ e.symm; omega))
                have SV := Lib.hid (show Str wa20 (w.heap.size + 1) 27 #[.int .i64 ur, .int .i64 ua, .int .i64 ud] from SV.out.kept hg9 (fun e => by have := hrow _ e.symm; omega))
                have SR := Lib.hid (show Str wa20 (w.heap.size + 2) 25 #[.int .i64 0, .slice none 0 0] from SR.out.kept hg9 (fun e => by have := hrow _ e.symm; omega))
                have SO := Lib.hid (show Str wa20 (OB) 25 #[.int .i64 f, .slice al g.length cl] from SO.out.kept hg9 (fun e => by have := hrow _ e.symm; omega))
                have hsz9 := hg9.size
                have Hb := Lib.hid (Hb.out.grown hg9 Hb.out.size (fun q e => by have := hrow q e; omega))
                clear hrow hg9 hp9
                have OM := Lib.hid (show OwnV 27 wa20 NB u3 (G3 ++ G2) from ho9)
                clear ho9
                have hlG4 : (G3 ++ G2).length ≤ 81 := by simp only [List.length_append]; omega
                generalize hG4 : G3 ++ G2 = G4 at *
                obtain ⟨a3, c3, rfl⟩ := OM.out.slice
                refine hK.out _ _ ⟨SX.out.cell 0 (v := .int .i64 f) rfl, SX.out.cell 1 (v := .slice (some ⟨b, off, none⟩) g.length vc) rfl, SV.out.cell 0 (v := .int .i64 ur) rfl, SV.out.cell 1 (v := .int .i64 ua) rfl, SV.out.cell 2 (v := .int .i64 ud) rfl⟩ (fun hH => ?_)
                clear hK K
                try simp only [Act.put, List.setIfInBounds_toArray, List.set_cons_zero, List.set_cons_succ]
                refine takeH 14 (v := ?vt83) rfl (by kernel_rfl) (by kernel_rfl) (by kernel_rfl) (fun _ _ _ h => h) hH rfl ?yt83 ?rt83
                case yt83 => intro W hSw; go_simp; try with_reducible rfl
                try simp only [Act.put, List.setIfInBounds_toArray, List.set_cons_zero, List.set_cons_succ]
                have cO_0 := SO.out.cell 0 (v := .int .i64 f) rfl
                have cO_1 := SO.out.cell 1 (v := .slice al g.length cl) rfl
                have fO_0 := SO.out.frozen 0
                have fO_1 := SO.out.frozen 1
                refine callH 15 rfl (by kernel_rfl) rfl (fun K hK => ?_)
                go_simp
                clear cO_0 cO_1 fO_0 fO_1
                have SX := Lib.hid (show Str (wa20.setCell ⟨OB, 1, none⟩ (.slice a3 G4.length c3)) (w.heap.size) 25 #[.int .i64 f, .slice (some ⟨b, off, none⟩) g.length vc] from ((SX.out).other (by omega) _ _))
                have SV := Lib.hid (show Str (wa20.setCell ⟨OB, 1, none⟩ (.slice a3 G4.length c3)) (w.heap.size + 1) 27 #[.int .i64 ur, .int .i64 ua, .int .i64 ud] from ((SV.out).other (by omega) _ _))
                have SR := Lib.hid (show Str (wa20.setCell ⟨OB, 1, none⟩ (.slice a3 G4.length c3)) (w.heap.size + 2) 25 #[.int .i64 0, .slice none 0 0] from ((SR.out).other (by omega) _ _))
                have SO := Lib.hid (show Str (wa20.setCell ⟨OB, 1, none⟩ (.slice a3 G4.length c3)) (OB) 25 #[.int .i64 f, .slice a3 G4.length c3] from ((SO.out).set 1 (.slice a3 G4.length c3)))
                have OM := Lib.hid (show OwnV 27 (wa20.setCell ⟨OB, 1, none⟩ (.slice a3 G4.length c3)) (NB) ((Value.slice a3 G4.length c3)) (G4) from OM.out.kept fun q e => by have h1 := OM.out.lt q e; exact set1 (by simpa using h1.2) (by omega))
                have Hb := Lib.hid (show Below w.heap.size w (wa20.setCell ⟨OB, 1, none⟩ (.slice a3 G4.length c3)) from ((Hb.out).setCell (p := ⟨OB, 1, none⟩) (by simp only; omega) _))
                have hzw10 : (wa20.setCell ⟨OB, 1, none⟩ (.slice a3 G4.length c3)).heap.size = wa20.heap.size := by simp
                refine hK.out _ _ ⟨SX.out.cell 0 (v := .int .i64 f) rfl, SX.out.cell 1 (v := .slice (some ⟨b, off, none⟩) g.length vc) rfl, SV.out.cell 0 (v := .int .i64 ur) rfl, SV.out.cell 1 (v := .int .i64 ua) rfl, SV.out.cell 2 (v := .int .i64 ud) rfl⟩ (fun hH => ?_)
                clear hK K
                generalize (wa20.setCell ⟨OB, 1, none⟩ (.slice a3 G4.length c3)) = w10 at *
                refine wpAnyH_done (by kernel_rfl) ?_ _
                clear hH
                try simp only [Act.put]
                have cO_0 := SO.out.cell 0 (v := .int .i64 f) rfl
                have cO_1 := SO.out.cell 1 (v := .slice a3 G4.length c3) rfl
                have cR_0 := SR.out.cell 0 (v := .int .i64 0) rfl
                have cR_1 := SR.out.cell 1 (v := .slice none 0 0) rfl
                have fR_0 := SR.out.frozen 0
                have fR_1 := SR.out.frozen 1
                have sF := (SR.out.set 0 (.int .i64 f)).set 1 (.slice a3 G4.length c3)
                have e0 := sF.cell 0 (v := .int .i64 f) rfl
                have e1 := sF.cell 1 (v := .slice a3 G4.length c3) rfl
                clear sF
                go_wp2
                refine bodyPost_ret (v := .tuple #[.agg #[.int .i64 f, .slice a3 G4.length c3], .bool true]) (by simp [results, Try.f38, go_sem, e0, e1]) rfl ?_
                clear cO_0 cO_1 cR_0 cR_1 fR_0 fR_1
                have SX := Lib.hid (show Str ((w10.setCell ⟨w.heap.size + 2, 0, none⟩ (.int .i64 f)).setCell ⟨w.heap.size + 2, 1, none⟩ (.slice a3 G4.length c3)) (w.heap.size) 25 #[.int .i64 f, .slice (some ⟨b, off, none⟩) g.length vc] from ((((SX.out).other (by omega) _ _)).other (by omega) _ _))
                have SV := Lib.hid (show Str ((w10.setCell ⟨w.heap.size + 2, 0, none⟩ (.int .i64 f)).setCell ⟨w.heap.size + 2, 1, none⟩ (.slice a3 G4.length c3)) (w.heap.size + 1) 27 #[.int .i64 ur, .int .i64 ua, .int .i64 ud] from ((((SV.out).other (by omega) _ _)).other (by omega) _ _))
                have SO := Lib.hid (show Str ((w10.setCell ⟨w.heap.size + 2, 0, none⟩ (.int .i64 f)).setCell ⟨w.heap.size + 2, 1, none⟩ (.slice a3 G4.length c3)) (OB) 25 #[.int .i64 f, .slice a3 G4.length c3] from ((((SO.out).other (by omega) _ _)).other (by omega) _ _))
                have SR := Lib.hid (show Str ((w10.setCell ⟨w.heap.size + 2, 0, none⟩ (.int .i64 f)).setCell ⟨w.heap.size + 2, 1, none⟩ (.slice a3 G4.length c3)) (w.heap.size + 2) 25 #[.int .i64 f, .slice a3 G4.length c3] from ((((SR.out).set 0 (.int .i64 f))).set 1 (.slice a3 G4.length c3)))
                have OM := Lib.hid (show OwnV 27 ((w10.setCell ⟨w.heap.size + 2, 0, none⟩ (.int .i64 f)).setCell ⟨w.heap.size + 2, 1, none⟩ (.slice a3 G4.length c3)) (NB) ((Value.slice a3 G4.length c3)) (G4) from OM.out.kept fun q e => by have h1 := OM.out.lt q e; exact set2 (by simpa using h1.2) (by omega))
                have Hb := Lib.hid (show Below w.heap.size w ((w10.setCell ⟨w.heap.size + 2, 0, none⟩ (.int .i64 f)).setCell ⟨w.heap.size + 2, 1, none⟩ (.slice a3 G4.length c3)) from ((((Hb.out).setCell (p := ⟨w.heap.size + 2, 0, none⟩) (by simp only; omega) _)).setCell (p := ⟨w.heap.size + 2, 1, none⟩) (by simp only; omega) _))
                have hzw11 : ((w10.setCell ⟨w.heap.size + 2, 0, none⟩ (.int .i64 f)).setCell ⟨w.heap.size + 2, 1, none⟩ (.slice a3 G4.length c3)).heap.size = w10.heap.size := by simp
                have hE : G4 = signG f g ⟨ur, ua, ud⟩ := by rw [S1.out, ← hG4, ← hG3]; simp
                exact ⟨.slice a3 G4.length c3, by rw [S3.out], by rw [← hE]; exact OwnR.from (OM.out.ownR (Nat.le_refl _)) (by omega), Hb.out⟩
            · skip
              go_simp
              have hal : Below wd9.heap.size wd9 (wd9.alloc (.cells #[.int .i64 ur, .int .i64 ua, .int .i64 ud] 27)) := (Below.refl _ _).alloc (Nat.le_refl _) _
              have oN := Str.new wd9 27 #[.int .i64 ur, .int .i64 ua, .int .i64 ud]
              have hzn : wd9.heap.size < (wd9.alloc (.cells #[.int .i64 ur, .int .i64 ua, .int .i64 ud] 27)).heap.size := by simp
              have SX := Lib.hid (show Str (wd9.alloc (.cells #[.int .i64 ur, .int .i64 ua, .int .i64 ud] 27)) (w.heap.size) 25 #[.int .i64 f, .slice (some ⟨b, off, none⟩) g.length vc] from (hal.block _ SX.out.lt).trans SX.out)
              have SV := Lib.hid (show Str (wd9.alloc (.cells #[.int .i64 ur, .int .i64 ua, .int .i64 ud] 27)) (w.heap.size + 1) 27 #[.int .i64 ur, .int .i64 ua, .int .i64 ud] from (hal.block _ SV.out.lt).trans SV.out)
              have SR := Lib.hid (show Str (wd9.alloc (.cells #[.int .i64 ur, .int .i64 ua, .int .i64 ud] 27)) (w.heap.size + 2) 25 #[.int .i64 0, .slice none 0 0] from (hal.block _ SR.out.lt).trans SR.out)
              have SO := Lib.hid (show Str (wd9.alloc (.cells #[.int .i64 ur, .int .i64 ua, .int .i64 ud] 27)) (OB) 25 #[.int .i64 f, .slice al g.length cl] from (hal.block _ SO.out.lt).trans SO.out)
              have hsz9 := hal.size
              have Hb := Lib.hid (below_step Hb.out Hb.out.size hal)
              have SP := Lib.hid oN; clear oN hal
              refine hK.out _ _ ⟨SX.out.cell 0 (v := .int .i64 f) rfl, SX.out.cell 1 (v := .slice (some ⟨b, off, none⟩) g.length vc) rfl, SV.out.cell 0 (v := .int .i64 ur) rfl, SV.out.cell 1 (v := .int .i64 ua) rfl, SV.out.cell 2 (v := .int .i64 ud) rfl⟩ (fun hH => ?_)
              clear hK K
              try simp only [Act.put, List.setIfInBounds_toArray, List.set_cons_zero, List.set_cons_succ]
              generalize (wd9.alloc (.cells #[.int .i64 ur, .int .i64 ua, .int .i64 ud] 27)) = wb21 at *
              generalize hPB : wd9.heap.size = PB at *
              have hPB9 : OB < PB := by omega
              refine callH 0 rfl (by kernel_rfl) rfl (fun K hK => ?_)
              go_simp
              have hal : Below wb21.heap.size wb21 (wb21.alloc (.cells #[] 27)) := (Below.refl _ _).alloc (Nat.le_refl _) _
              have oN := OwnV.empty 27 wb21
              have hzn : wb21.heap.size < (wb21.alloc (.cells #[] 27)).heap.size := by simp
              have SX := Lib.hid (show Str (wb21.alloc (.cells #[] 27)) (w.heap.size) 25 #[.int .i64 f, .slice (some ⟨b, off, none⟩) g.length vc] from (hal.block _ SX.out.lt).trans SX.out)
              have SV := Lib.hid (show Str (wb21.alloc (.cells #[] 27)) (w.heap.size + 1) 27 #[.int .i64 ur, .int .i64 ua, .int .i64 ud] from (hal.block _ SV.out.lt).trans SV.out)
              have SR := Lib.hid (show Str (wb21.alloc (.cells #[] 27)) (w.heap.size + 2) 25 #[.int .i64 0, .slice none 0 0] from (hal.block _ SR.out.lt).trans SR.out)
              have SO := Lib.hid (show Str (wb21.alloc (.cells #[] 27)) (OB) 25 #[.int .i64 f, .slice al g.length cl] from (hal.block _ SO.out.lt).trans SO.out)
              have SP := Lib.hid (show Str (wb21.alloc (.cells #[] 27)) (PB) 27 #[.int .i64 ur, .int .i64 ua, .int .i64 ud] from (hal.block _ SP.out.lt).trans SP.out)
              have hsz9 := hal.size
              have Hb := Lib.hid (below_step Hb.out Hb.out.size hal)
              have OM := Lib.hid oN; clear oN hal
              refine hK.out _ _ ⟨SX.out.cell 0 (v := .int .i64 f) rfl, SX.out.cell 1 (v := .slice (some ⟨b, off, none⟩) g.length vc) rfl, SV.out.cell 0 (v := .int .i64 ur) rfl, SV.out.cell 1 (v := .int .i64 ua) rfl, SV.out.cell 2 (v := .int .i64 ud) rfl⟩ (fun hH => ?_)
              clear hK K
              try simp only [Act.put, List.setIfInBounds_toArray, List.set_cons_zero, List.set_cons_succ]
              generalize (wb21.alloc (.cells #[] 27)) = wb22 at *
              generalize hNB : wb21.heap.size = NB at *
              have hNB9 : OB < NB := by omega
              refine callH 5 rfl (by kernel_rfl) rfl (fun K hK => ?_)
              refine op_app_V (.tmp 68) (.tmp 72) rfl NB _ ([]) (G1) ((some ⟨b, off, none⟩)) (vc) rfl OM.out rfl (T2.out.below Hb.out) (by simp only [List.length_nil]; omega) (by omega) (fun u1 wa23 ho9 hg9 hp9 => ?_)
              have hrow : ∀ q, ((Value.slice (some ⟨NB, 0, none⟩) 0 0)).ownBlock = some q → q = NB := fun q e => by have e' : some NB = some q := e; exact (Option.some.inj e').symm
              have SX := Lib.hid (show Str wa23 (w.heap.size) 25 #[.int .i64 f, .slice (some ⟨b, off, none⟩) g.length vc] from SX.out.kept hg9 (fun e => by have := hrow _ e.symm; omega))
              have SV := Lib.hid (show Str wa23 (w.heap.size + 1) 27 #[.int .i64 ur, .int .i64 ua, .int .i64 ud] from SV.out.kept hg9 (fun e => by have := hrow _ e.symm; omega))
              have SR := Lib.hid (show Str wa23 (w.heap.size + 2) 25 #[.int .i64 0, .slice none 0 0] from SR.out.kept hg9 (fun e => by have := hrow _ e.symm; omega))
              have SO := Lib.hid (show Str wa23 (OB) 25 #[.int .i64 f, .slice al g.length cl] from SO.out.kept hg9 (fun e => by have := hrow _ e.symm; omega))
              have SP := Lib.hid (show Str wa23 (PB) 27 #[.int .i64 ur, .int .i64 ua, .int .i64 ud] from SP.out.kept hg9 (fun e => by have := hrow _ e.symm; omega))
              have hsz9 := hg9.size
              have Hb := Lib.hid (Hb.out.grown hg9 Hb.out.size (fun q e => by have := hrow q e; omega))
              clear hrow hg9 hp9
              have OM := Lib.hid (show OwnV 27 wa23 NB u1 (G1) from ho9)
              clear ho9
              obtain ⟨a1, c1, rfl⟩ := OM.out.slice
              refine hK.out _ _ ⟨SX.out.cell 0 (v := .int .i64 f) rfl, SX.out.cell 1 (v := .slice (some ⟨b, off, none⟩) g.length vc) rfl, SV.out.cell 0 (v := .int .i64 ur) rfl, SV.out.cell 1 (v := .int .i64 ua) rfl, SV.out.cell 2 (v := .int .i64 ud) rfl⟩ (fun hH => ?_)
              clear hK K
              try simp only [Act.put, List.setIfInBounds_toArray, List.set_cons_zero, List.set_cons_succ]
              refine callH 8 rfl (by kernel_rfl) rfl (fun K hK => ?_)
              refine op_app_V (.tmp 73) (.tmp 75) rfl NB _ (G1) ([(⟨ur, ua, ud⟩ : Vt)]) (some ⟨PB, 0, none⟩) (1) rfl OM.out rfl (.inr ⟨_, rfl, srcV_one SP.out⟩) (by simp only [List.length_singleton]; omega) (by omega) (fun u2 wa24 ho9 hg9 hp9 => ?_)
              have hrow : ∀ q, ((Value.slice a1 G1.length c1)).ownBlock = some q → NB ≤ q := fun q e => (OM.out.lt q e).1
              have SX := Lib.hid (show Str wa24 (w.heap.size) 25 #[.int .i64 f, .slice (some ⟨b, off, none⟩) g.length vc] from SX.out.kept hg9 (fun e => by have := hrow _ e.symm; omega))
              have SV := Lib.hid (show Str wa24 (w.heap.size + 1) 27 #[.int .i64 ur, .int .i64 ua, .int .i64 ud] from SV.out.kept hg9 (fun e => by have := hrow _ e.symm; omega))
              have SR := Lib.hid (show Str wa24 (w.heap.size + 2) 25 #[.int .i64 0, .slice none 0 0] from SR.out.kept hg9 (fun e => by have := hrow _ e.symm; omega))
              have SO := Lib.hid (show Str wa24 (OB) 25 #[.int .i64 f, .slice al g.length cl] from SO.out.kept hg9 (fun e => by have := hrow _ e.symm; omega))
              have hsz9 := hg9.size
              have Hb := Lib.hid (Hb.out.grown hg9 Hb.out.size (fun q e => by have := hrow q e; omega))
              clear hrow hg9 hp9
              have OM := Lib.hid (show OwnV 27 wa24 NB u2 (G1 ++ [(⟨ur, ua, ud⟩ : Vt)]) from ho9)
              clear ho9
              have hlG3 : (G1 ++ [(⟨ur, ua, ud⟩ : Vt)]).length ≤ 41 := by simp only [List.length_append, List.length_singleton]; omega
              generalize hG3 : G1 ++ [(⟨ur, ua, ud⟩ : Vt)] = G3 at *
              obtain ⟨a2, c2, rfl⟩ := OM.out.slice
              refine hK.out _ _ ⟨SX.out.cell 0 (v := .int .i64 f) rfl, SX.out.cell 1 (v := .slice (some ⟨b, off, none⟩) g.length vc) rfl, SV.out.cell 0 (v := .int .i64 ur) rfl, SV.out.cell 1 (v := .int .i64 ua) rfl, SV.out.cell 2 (v := .int .i64 ud) rfl⟩ (fun hH => ?_)
              clear hK K
              try simp only [Act.put, List.setIfInBounds_toArray, List.set_cons_zero, List.set_cons_succ]
              refine callH 13 rfl (by kernel_rfl) rfl (fun K hK => ?_)
              refine op_app_V (.tmp 76) (.tmp 80) rfl NB _ (G3) (G2) (ad) (ac) rfl OM.out rfl (D2.out.below Hb.out) (by omega) (by omega) (fun u3 wa25 ho9 hg9 hp9 => ?_)
              have hrow : ∀ q, ((Value.slice a2 G3.length c2)).ownBlock = some q → NB ≤ q := fun q e => (OM.out.lt q e).1
              have SX := Lib.hid (show Str wa25 (w.heap.size) 25 #[.int .i64 f, .slice (some ⟨b, off, none⟩) g.length vc] from SX.out.kept hg9 (fun e => by have := hrow _ e.symm; omega))
              have SV := Lib.hid (show Str wa25 (w.heap.size + 1) 27 #[.int .i64 ur, .int .i64 ua, .int .i64 ud] from SV.out.kept hg9 (fun e => by have := hrow _ e.symm; omega))
              have SR := Lib.hid (show Str wa25 (w.heap.size + 2) 25 #[.int .i64 0, .slice none 0 0] from SR.out.kept hg9 (fun e => by have := hrow _ e.symm; omega))
              have SO := Lib.hid (show Str wa25 (OB) 25 #[.int .i64 f, .slice al g.length cl] from SO.out.kept hg9 (fun e => by have := hrow _ e.symm; omega))
              have hsz9 := hg9.size
              have Hb := Lib.hid (Hb.out.grown hg9 Hb.out.size (fun q e => by have := hrow q e; omega))
              clear hrow hg9 hp9
              have OM := Lib.hid (show OwnV 27 wa25 NB u3 (G3 ++ G2) from ho9)
              clear ho9
              have hlG4 : (G3 ++ G2).length ≤ 81 := by simp only [List.length_append]; omega
              generalize hG4 : G3 ++ G2 = G4 at *
              obtain ⟨a3, c3, rfl⟩ := OM.out.slice
              refine hK.out _ _ ⟨SX.out.cell 0 (v := .int .i64 f) rfl, SX.out.cell 1 (v := .slice (some ⟨b, off, none⟩) g.length vc) rfl, SV.out.cell 0 (v := .int .i64 ur) rfl, SV.out.cell 1 (v := .int .i64 ua) rfl, SV.out.cell 2 (v := .int .i64 ud) rfl⟩ (fun hH => ?_)
              clear hK K
              try simp only [Act.put, List.setIfInBounds_toArray, List.set_cons_zero, List.set_cons_succ]
              refine takeH 14 (v := ?vt84) rfl (by kernel_rfl) (by kernel_rfl) (by kernel_rfl) (fun _ _ _ h => h) hH rfl ?yt84 ?rt84
              case yt84 => intro W hSw; go_simp; try with_reducible rfl
              try simp only [Act.put, List.setIfInBounds_toArray, List.set_cons_zero, List.set_cons_succ]
              have cO_0 := SO.out.cell 0 (v := .int .i64 f) rfl
              have cO_1 := SO.out.cell 1 (v := .slice al g.length cl) rfl
              have fO_0 := SO.out.frozen 0
              have fO_1 := SO.out.frozen 1
              refine callH 15 rfl (by kernel_rfl) rfl (fun K hK => ?_)
              go_simp
              clear cO_0 cO_1 fO_0 fO_1
              have SX := Lib.hid (show Str (wa25.setCell ⟨OB, 1, none⟩ (.slice a3 G4.length c3)) (w.heap.size) 25 #[.int .i64 f, .slice (some ⟨b, off, none⟩) g.length vc] from ((SX.out).other (by omega) _ _))
              have SV := Lib.hid (show Str (wa25.setCell ⟨OB, 1, none⟩ (.slice a3 G4.length c3)) (w.heap.size + 1) 27 #[.int .i64 ur, .int .i64 ua, .int .i64 ud] from ((SV.out).other (by omega) _ _))
              have SR := Lib.hid (show Str (wa25.setCell ⟨OB, 1, none⟩ (.slice a3 G4.length c3)) (w.heap.size + 2) 25 #[.int .i64 0, .slice none 0 0] from ((SR.out).other (by omega) _ _))
              have SO := Lib.hid (show Str (wa25.setCell ⟨OB, 1, none⟩ (.slice a3 G4.length c3)) (OB) 25 #[.int .i64 f, .slice a3 G4.length c3] from ((SO.out).set 1 (.slice a3 G4.length c3)))
              have OM := Lib.hid (show OwnV 27 (wa25.setCell ⟨OB, 1, none⟩ (.slice a3 G4.length c3)) (NB) ((Value.slice a3 G4.length c3)) (G4) from OM.out.kept fun q e => by have h1 := OM.out.lt q e; exact set1 (by simpa using h1.2) (by omega))
              have Hb := Lib.hid (show Below w.heap.size w (wa25.setCell ⟨OB, 1, none⟩ (.slice a3 G4.length c3)) from ((Hb.out).setCell (p := ⟨OB, 1, none⟩) (by simp only; omega) _))
              have hzw10 : (wa25.setCell ⟨OB, 1, none⟩ (.slice a3 G4.length c3)).heap.size = wa25.heap.size := by simp
              refine hK.out _ _ ⟨SX.out.cell 0 (v := .int .i64 f) rfl, SX.out.cell 1 (v := .slice (some ⟨b, off, none⟩) g.length vc) rfl, SV.out.cell 0 (v := .int .i64 ur) rfl, SV.out.cell 1 (v := .int .i64 ua) rfl, SV.out.cell 2 (v := .int .i64 ud) rfl⟩ (fun hH => ?_)
              clear hK K
              generalize (wa25.setCell ⟨OB, 1, none⟩ (.slice a3 G4.length c3)) = w10 at *
              refine wpAnyH_done (by kernel_rfl) ?_ _
              clear hH
              try simp only [Act.put]
              have cO_0 := SO.out.cell 0 (v := .int .i64 f) rfl
              have cO_1 := SO.out.cell 1 (v := .slice a3 G4.length c3) rfl
              have cR_0 := SR.out.cell 0 (v := .int .i64 0) rfl
              have cR_1 := SR.out.cell 1 (v := .slice none 0 0) rfl
              have fR_0 := SR.out.frozen 0
              have fR_1 := SR.out.frozen 1
              have sF := (SR.out.set 0 (.int .i64 f)).set 1 (.slice a3 G4.length c3)
              have e0 := sF.cell 0 (v := .int .i64 f) rfl
              have e1 := sF.cell 1 (v := .slice a3 G4.length c3) rfl
              clear sF
              go_wp2
              refine bodyPost_ret (v := .tuple #[.agg #[.int .i64 f, .slice a3 G4.length c3], .bool true]) (by simp [results, Try.f38, go_sem, e0, e1]) rfl ?_
              clear cO_0 cO_1 cR_0 cR_1 fR_0 fR_1
              have SX := Lib.hid (show Str ((w10.setCell ⟨w.heap.size + 2, 0, none⟩ (.int .i64 f)).setCell ⟨w.heap.size + 2, 1, none⟩ (.slice a3 G4.length c3)) (w.heap.size) 25 #[.int .i64 f, .slice (some ⟨b, off, none⟩) g.length vc] from ((((SX.out).other (by omega) _ _)).other (by omega) _ _))
              have SV := Lib.hid (show Str ((w10.setCell ⟨w.heap.size + 2, 0, none⟩ (.int .i64 f)).setCell ⟨w.heap.size + 2, 1, none⟩ (.slice a3 G4.length c3)) (w.heap.size + 1) 27 #[.int .i64 ur, .int .i64 ua, .int .i64 ud] from ((((SV.out).other (by omega) _ _)).other (by omega) _ _))
              have SO := Lib.hid (show Str ((w10.setCell ⟨w.heap.size + 2, 0, none⟩ (.int .i64 f)).setCell ⟨w.heap.size + 2, 1, none⟩ (.slice a3 G4.length c3)) (OB) 25 #[.int .i64 f, .slice a3 G4.length c3] from ((((SO.out).other (by omega) _ _)).other (by omega) _ _))
              have SR := Lib.hid (show Str ((w10.setCell ⟨w.heap.size + 2, 0, none⟩ (.int .i64 f)).setCell ⟨w.heap.size + 2, 1, none⟩ (.slice a3 G4.length c3)) (w.heap.size + 2) 25 #[.int .i64 f, .slice a3 G4.length c3] from ((((SR.out).set 0 (.int .i64 f))).set 1 (.slice a3 G4.length c3)))
              have OM := Lib.hid (show OwnV 27 ((w10.setCell ⟨w.heap.size + 2, 0, none⟩ (.int .i64 f)).setCell ⟨w.heap.size + 2, 1, none⟩ (.slice a3 G4.length c3)) (NB) ((Value.slice a3 G4.length c3)) (G4) from OM.out.kept fun q e => by have h1 := OM.out.lt q e; exact set2 (by simpa using h1.2) (by omega))
              have Hb := Lib.hid (show Below w.heap.size w ((w10.setCell ⟨w.heap.size + 2, 0, none⟩ (.int .i64 f)).setCell ⟨w.heap.size + 2, 1, none⟩ (.slice a3 G4.length c3)) from ((((Hb.out).setCell (p := ⟨w.heap.size + 2, 0, none⟩) (by simp only; omega) _)).setCell (p := ⟨w.heap.size + 2, 1, none⟩) (by simp only; omega) _))
              have hzw11 : ((w10.setCell ⟨w.heap.size + 2, 0, none⟩ (.int .i64 f)).setCell ⟨w.heap.size + 2, 1, none⟩ (.slice a3 G4.length c3)).heap.size = w10.heap.size := by simp
              have hE : G4 = signG f g ⟨ur, ua, ud⟩ := by rw [S1.out, ← hG4, ← hG3]; simp
              exact ⟨.slice a3 G4.length c3, by rw [S3.out], by rw [← hE]; exact OwnR.from (OM.out.ownR (Nat.le_refl _)) (by omega), Hb.out⟩
      · skip
        have hd : decide ((k : Int) < (g.length : Int)) = false := decide_eq_false (by omega)
        have hd' : ¬ (k : Int) < (g.length : Int) := by omega
        have cX_0 := SX.out.cell 0 (v := .int .i64 f) rfl
        have cX_1 := SX.out.cell 1 (v := .slice va g.length vc) rfl
        have cV_0 := SV.out.cell 0 (v := .int .i64 ur) rfl
        have cV_1 := SV.out.cell 1 (v := .int .i64 ua) rfl
        have cV_2 := SV.out.cell 2 (v := .int .i64 ud) rfl
        go_wp2_with fail
        clear cX_0 cX_1 cV_0 cV_1 cV_2
        have hdr : Below wr.heap.size wr wr.drew := (Below.refl _ _).drew
        have SX := Lib.hid (show Str wr.drew (w.heap.size) 25 #[.int .i64 f, .slice va g.length vc] from SX.out)
        have SV := Lib.hid (show Str wr.drew (w.heap.size + 1) 27 #[.int .i64 ur, .int .i64 ua, .int .i64 ud] from SV.out)
        have SR := Lib.hid (show Str wr.drew (w.heap.size + 2) 25 #[.int .i64 0, .slice none 0 0] from SR.out)
        have SO := Lib.hid (show Str wr.drew (OB) 25 #[.int .i64 f, .slice al g.length cl] from SO.out)
        have OL := Lib.hid (show OwnV 27 wr.drew (LB) ((Value.slice al g.length cl)) (g) from OL.out)
        have HW := Lib.hid HW.out.drew
        have Hb := Lib.hid Hb.out.drew
        have hzwd : wr.heap.size ≤ wr.drew.heap.size := Nat.le_refl _
        clear hdr
        refine wp_region_held_drew (S := fun w' => w'.cell? ⟨w.heap.size, 0, none⟩ = some (.int .i64 f) ∧ w'.cell? ⟨w.heap.size, 1, none⟩ = some (.slice va g.length vc) ∧ w'.cell? ⟨w.heap.size + 1, 0, none⟩ = some (.int .i64 ur) ∧ w'.cell? ⟨w.heap.size + 1, 1, none⟩ = some (.int .i64 ua) ∧ w'.cell? ⟨w.heap.size + 1, 2, none⟩ = some (.int .i64 ud)) (by kernel_rfl) ⟨SX.out.cell 0 (v := .int .i64 f) rfl, SX.out.cell 1 (v := .slice va g.length vc) rfl, SV.out.cell 0 (v := .int .i64 ur) rfl, SV.out.cell 1 (v := .int .i64 ua) rfl, SV.out.cell 2 (v := .int .i64 ud) rfl⟩ (fun hH => ?_)
        generalize wr.drew = wd at *
        refine takeH 0 (v := ?vt85) rfl (by kernel_rfl) (by kernel_rfl) (by kernel_rfl) (fun _ _ _ h => h) hH rfl ?yt85 ?rt85
        case yt85 => intro W hSw; go_simp; try with_reducible rfl
        try simp only [Act.put, List.setIfInBounds_toArray, List.set_cons_zero, List.set_cons_succ]
        refine takeH 1 (v := ?vt86) rfl (by kernel_rfl) (by kernel_rfl) (by kernel_rfl) (fun _ _ _ h => h) hH rfl ?yt86 ?rt86
        case yt86 => intro W hSw; go_simp; try with_reducible rfl
        try simp only [Act.put, List.setIfInBounds_toArray, List.set_cons_zero, List.set_cons_succ]
        refine takeH 2 (v := ?vt87) rfl (by kernel_rfl) (by kernel_rfl) (by kernel_rfl) (fun _ _ _ h => h) hH rfl ?yt87 ?rt87
        case yt87 => intro W hSw; go_simp; try with_reducible rfl
        try simp only [Act.put, List.setIfInBounds_toArray, List.set_cons_zero, List.set_cons_succ]
        refine takeH 3 (v := ?vt88) rfl (by kernel_rfl) (by kernel_rfl) (by kernel_rfl) (fun _ _ _ h => h) hH rfl ?yt88 ?rt88
        case yt88 => intro W hSw; go_simp; try with_reducible rfl
        try simp only [Act.put, List.setIfInBounds_toArray, List.set_cons_zero, List.set_cons_succ]
        refine takeH 4 (v := ?vt89) rfl (by kernel_rfl) (by kernel_rfl) (by kernel_rfl) (fun _ _ _ h => h) hH rfl ?yt89 ?rt89
        case yt89 => intro W hSw; go_simp; try with_reducible rfl
        try simp only [Act.put, List.setIfInBounds_toArray, List.set_cons_zero, List.set_cons_succ]
        refine takeH 5 (v := ?vt90) rfl (by kernel_rfl) (by kernel_rfl) (by kernel_rfl) (fun _ _ _ h => h) hH rfl ?yt90 ?rt90
        case yt90 => intro W hSw; go_simp; try with_reducible rfl
        try simp only [Act.put, List.setIfInBounds_toArray, List.set_cons_zero, List.set_cons_succ]
        refine skipH 6 rfl (by kernel_rfl) (by kernel_rfl) (by kernel_rfl) (fun _ _ _ h => h) hH rfl ?_
        try simp only [Act.put, List.setIfInBounds_toArray, List.set_cons_zero, List.set_cons_succ]
        refine skipH 7 rfl (by kernel_rfl) (by kernel_rfl) (by kernel_rfl) (fun _ _ _ h => h) hH rfl ?_
        try simp only [Act.put, List.setIfInBounds_toArray, List.set_cons_zero, List.set_cons_succ]
        refine skipH 8 rfl (by kernel_rfl) (by kernel_rfl) (by kernel_rfl) (fun _ _ _ h => h) hH rfl ?_
        try simp only [Act.put, List.setIfInBounds_toArray, List.set_cons_zero, List.set_cons_succ]
        refine skipH 9 rfl (by kernel_rfl) (by kernel_rfl) (by kernel_rfl) (fun _ _ _ h => h) hH rfl ?_
        try simp only [Act.put, List.setIfInBounds_toArray, List.set_cons_zero, List.set_cons_succ]
        refine skipH 10 rfl (by kernel_rfl) (by kernel_rfl) (by kernel_rfl) (fun _ _ _ h => h) hH rfl ?_
        try simp only [Act.put, List.setIfInBounds_toArray, List.set_cons_zero, List.set_cons_succ]
        refine skipH 11 rfl (by kernel_rfl) (by kernel_rfl) (by kernel_rfl) (fun _ _ _ h => h) hH rfl ?_
        try simp only [Act.put, List.setIfInBounds_toArray, List.set_cons_zero, List.set_cons_succ]
        refine skipH 12 rfl (by kernel_rfl) (by kernel_rfl) (by kernel_rfl) (fun _ _ _ h => h) hH rfl ?_
        try simp only [Act.put, List.setIfInBounds_toArray, List.set_cons_zero, List.set_cons_succ]
        refine takeH 13 (v := ?vt91) rfl (by kernel_rfl) (by kernel_rfl) (by kernel_rfl) (fun _ _ _ h => h) hH rfl ?yt91 ?rt91
        case yt91 => intro W hSw; go_simp; try with_reducible rfl
        try simp only [Act.put, List.setIfInBounds_toArray, List.set_cons_zero, List.set_cons_succ]
        refine wpAnyH_done (by kernel_rfl) ?_ _
        clear hH
        try simp only [Act.put]
        have cX_0 := SX.out.cell 0 (v := .int .i64 f) rfl
        have cX_1 := SX.out.cell 1 (v := .slice va g.length vc) rfl
        have cV_0 := SV.out.cell 0 (v := .int .i64 ur) rfl
        have cV_1 := SV.out.cell 1 (v := .int .i64 ua) rfl
        have cV_2 := SV.out.cell 2 (v := .int .i64 ud) rfl
        go_wp2_with fail
        clear cX_0 cX_1 cV_0 cV_1 cV_2
        have hdr : Below wd.heap.size wd wd.drew := (Below.refl _ _).drew
        have SX := Lib.hid (show Str wd.drew (w.heap.size) 25 #[.int .i64 f, .slice va g.length vc] from SX.out)
        have SV := Lib.hid (show Str wd.drew (w.heap.size + 1) 27 #[.int .i64 ur, .int .i64 ua, .int .i64 ud] from SV.out)
        have SR := Lib.hid (show Str wd.drew (w.heap.size + 2) 25 #[.int .i64 0, .slice none 0 0] from SR.out)
        have SO := Lib.hid (show Str wd.drew (OB) 25 #[.int .i64 f, .slice al g.length cl] from SO.out)
        have OL := Lib.hid (show OwnV 27 wd.drew (LB) ((Value.slice al g.length cl)) (g) from OL.out)
        have HW := Lib.hid HW.out.drew
        have Hb := Lib.hid Hb.out.drew
        have hzwd5 : wd.heap.size ≤ wd.drew.heap.size := Nat.le_refl _
        clear hdr
        refine wp_region_held_drew (S := fun w' => w'.cell? ⟨w.heap.size, 0, none⟩ = some (.int .i64 f) ∧ w'.cell? ⟨w.heap.size, 1, none⟩ = some (.slice va g.length vc) ∧ w'.cell? ⟨w.heap.size + 1, 0, none⟩ = some (.int .i64 ur) ∧ w'.cell? ⟨w.heap.size + 1, 1, none⟩ = some (.int .i64 ua) ∧ w'.cell? ⟨w.heap.size + 1, 2, none⟩ = some (.int .i64 ud)) (by kernel_rfl) ⟨SX.out.cell 0 (v := .int .i64 f) rfl, SX.out.cell 1 (v := .slice va g.length vc) rfl, SV.out.cell 0 (v := .int .i64 ur) rfl, SV.out.cell 1 (v := .int .i64 ua) rfl, SV.out.cell 2 (v := .int .i64 ud) rfl⟩ (fun hH => ?_)
        generalize wd.drew = wd5 at *
        refine takeH 0 (v := ?vt92) rfl (by kernel_rfl) (by kernel_rfl) (by kernel_rfl) (fun _ _ _ h => h) hH rfl ?yt92 ?rt92
        case yt92 => intro W hSw; go_simp; try with_reducible rfl
        try simp only [Act.put, List.setIfInBounds_toArray, List.set_cons_zero, List.set_cons_succ]
        refine takeH 1 (v := ?vt93) rfl (by kernel_rfl) (by kernel_rfl) (by kernel_rfl) (fun _ _ _ h => h) hH rfl ?yt93 ?rt93
        case yt93 => intro W hSw; go_simp; try with_reducible rfl
        try simp only [Act.put, List.setIfInBounds_toArray, List.set_cons_zero, List.set_cons_succ]
        refine takeH 2 (v := ?vt94) rfl (by kernel_rfl) (by kernel_rfl) (by kernel_rfl) (fun _ _ _ h => h) hH rfl ?yt94 ?rt94
        case yt94 => intro W hSw; go_simp; try with_reducible rfl
        try simp only [Act.put, List.setIfInBounds_toArray, List.set_cons_zero, List.set_cons_succ]
        refine takeH 3 (v := ?vt95) rfl (by kernel_rfl) (by kernel_rfl) (by kernel_rfl) (fun _ _ _ h => h) hH rfl ?yt95 ?rt95
        case yt95 => intro W hSw; go_simp; try with_reducible rfl
        try simp only [Act.put, List.setIfInBounds_toArray, List.set_cons_zero, List.set_cons_succ]
        refine takeH 4 (v := ?vt96) rfl (by kernel_rfl) (by kernel_rfl) (by kernel_rfl) (fun _ _ _ h => h) hH rfl ?yt96 ?rt96
        case yt96 => intro W hSw; go_simp; try with_reducible rfl
        try simp only [Act.put, List.setIfInBounds_toArray, List.set_cons_zero, List.set_cons_succ]
        refine takeH 5 (v := ?vt97) rfl (by kernel_rfl) (by kernel_rfl) (by kernel_rfl) (fun _ _ _ h => h) hH rfl ?yt97 ?rt97
        case yt97 => intro W hSw; go_simp; try with_reducible rfl
        try simp only [Act.put, List.setIfInBounds_toArray, List.set_cons_zero, List.set_cons_succ]
        refine skipH 6 rfl (by kernel_rfl) (by kernel_rfl) (by kernel_rfl) (fun _ _ _ h => h) hH rfl ?_
        try simp only [Act.put, List.setIfInBounds_toArray, List.set_cons_zero, List.set_cons_succ]
        refine skipH 7 rfl (by kernel_rfl) (by kernel_rfl) (by kernel_rfl) (fun _ _ _ h => h) hH rfl ?_
        try simp only [Act.put, List.setIfInBounds_toArray, List.set_cons_zero, List.set_cons_succ]
        refine skipH 8 rfl (by kernel_rfl) (by kernel_rfl) (by kernel_rfl) (fun _ _ _ h => h) hH rfl ?_
        try simp only [Act.put, List.setIfInBounds_toArray, List.set_cons_zero, List.set_cons_succ]
        refine skipH 9 rfl (by kernel_rfl) (by kernel_rfl) (by kernel_rfl) (fun _ _ _ h => h) hH rfl ?_
        try simp only [Act.put, List.setIfInBounds_toArray, List.set_cons_zero, List.set_cons_succ]
        refine skipH 10 rfl (by kernel_rfl) (by kernel_rfl) (by kernel_rfl) (fun _ _ _ h => h) hH rfl ?_
        try simp only [Act.put, List.setIfInBounds_toArray, List.set_cons_zero, List.set_cons_succ]
        refine skipH 11 rfl (by kernel_rfl) (by kernel_rfl) (by kernel_rfl) (fun _ _ _ h => h) hH rfl ?_
        try simp only [Act.put, List.setIfInBounds_toArray, List.set_cons_zero, List.set_cons_succ]
        refine skipH 12 rfl (by kernel_rfl) (by kernel_rfl) (by kernel_rfl) (fun _ _ _ h => h) hH rfl ?_
        try simp only [Act.put, List.setIfInBounds_toArray, List.set_cons_zero, List.set_cons_succ]
        refine skipH 13 rfl (by kernel_rfl) (by kernel_rfl) (by kernel_rfl) (fun _ _ _ h => h) hH rfl ?_
        try simp only [Act.put, List.setIfInBounds_toArray, List.set_cons_zero, List.set_cons_succ]
        refine takeH 14 (v := ?vt98) rfl (by kernel_rfl) (by kernel_rfl) (by kernel_rfl) (fun _ _ _ h => h) hH rfl ?yt98 ?rt98
        case yt98 => intro W hSw; go_simp; try with_reducible rfl
        try simp only [Act.put, List.setIfInBounds_toArray, List.set_cons_zero, List.set_cons_succ]
        refine wpAnyH_done (by kernel_rfl) ?_ _
        clear hH
        try simp only [Act.put]
        have hsg := Lib.hid (sign_at_no f (v := ⟨ur, ua, ud⟩) hk Hup.out (fun h => absurd h (by omega)))
        by_cases hyA : ur < f
        · skip
          have HyA := Lib.hid hyA
          have hlo : decide (ur < f) = true := decide_eq_true hyA
          have cX_0 := SX.out.cell 0 (v := .int .i64 f) rfl
          have cX_1 := SX.out.cell 1 (v := .slice va g.length vc) rfl
          have cV_0 := SV.out.cell 0 (v := .int .i64 ur) rfl
          have cV_1 := SV.out.cell 1 (v := .int .i64 ua) rfl
          have cV_2 := SV.out.cell 2 (v := .int .i64 ud) rfl
          have cO_0 := SO.out.cell 0 (v := .int .i64 f) rfl
          have cO_1 := SO.out.cell 1 (v := .slice al g.length cl) rfl
          have cR_0 := SR.out.cell 0 (v := .int .i64 0) rfl
          have cR_1 := SR.out.cell 1 (v := .slice none 0 0) rfl
          have fR_0 := SR.out.frozen 0
          have fR_1 := SR.out.frozen 1
          have sF := (SR.out.set 0 (.int .i64 f)).set 1 (.slice al g.length cl)
          have e0 := sF.cell 0 (v := .int .i64 f) rfl
          have e1 := sF.cell 1 (v := .slice al g.length cl) rfl
          clear sF
          go_wp2
          refine bodyPost_ret (v := .tuple #[.agg #[.int .i64 f, .slice al g.length cl], .bool false]) (by simp [results, Try.f38, go_sem, e0, e1]) rfl ?_
          clear cX_0 cX_1 cV_0 cV_1 cV_2 cO_0 cO_1 cR_0 cR_1 fR_0 fR_1
          have SX := Lib.hid (show Str ((wd5.setCell ⟨w.heap.size + 2, 0, none⟩ (.int .i64 f)).setCell ⟨w.heap.size + 2, 1, none⟩ (.slice al g.length cl)) (w.heap.size) 25 #[.int .i64 f, .slice va g.length vc] from ((((SX.out).other (by omega) _ _)).other (by omega) _ _))
          have SV := Lib.hid (show Str ((wd5.setCell ⟨w.heap.size + 2, 0, none⟩ (.int .i64 f)).setCell ⟨w.heap.size + 2, 1, none⟩ (.slice al g.length cl)) (w.heap.size + 1) 27 #[.int .i64 ur, .int .i64 ua, .int .i64 ud] from ((((SV.out).other (by omega) _ _)).other (by omega) _ _))
          have SO := Lib.hid (show Str ((wd5.setCell ⟨w.heap.size + 2, 0, none⟩ (.int .i64 f)).setCell ⟨w.heap.size + 2, 1, none⟩ (.slice al g.length cl)) (OB) 25 #[.int .i64 f, .slice al g.length cl] from ((((SO.out).other (by omega) _ _)).other (by omega) _ _))
          have SR := Lib.hid (show Str ((wd5.setCell ⟨w.heap.size + 2, 0, none⟩ (.int .i64 f)).setCell ⟨w.heap.size + 2, 1, none⟩ (.slice al g.length cl)) (w.heap.size + 2) 25 #[.int .i64 f, .slice al g.length cl] from ((((SR.out).set 0 (.int .i64 f))).set 1 (.slice al g.length cl)))
          have OL := Lib.hid (show OwnV 27 ((wd5.setCell ⟨w.heap.size + 2, 0, none⟩ (.int .i64 f)).setCell ⟨w.heap.size + 2, 1, none⟩ (.slice al g.length cl)) (LB) ((Value.slice al g.length cl)) (g) from OL.out.kept fun q e => by have h1 := OL.out.lt q e; have h2 := hne q e; exact set2 (by simpa using h1.2) (by omega))
          have Hb := Lib.hid (show Below w.heap.size w ((wd5.setCell ⟨w.heap.size + 2, 0, none⟩ (.int .i64 f)).setCell ⟨w.heap.size + 2, 1, none⟩ (.slice al g.length cl)) from ((((Hb.out).setCell (p := ⟨w.heap.size + 2, 0, none⟩) (by simp only; omega) _)).setCell (p := ⟨w.heap.size + 2, 1, none⟩) (by simp only; omega) _))
          have hzw8 : ((wd5.setCell ⟨w.heap.size + 2, 0, none⟩ (.int .i64 f)).setCell ⟨w.heap.size + 2, 1, none⟩ (.slice al g.length cl)).heap.size = wd5.heap.size := by simp
          obtain ⟨s1, s2⟩ := hsg.out
          rw [if_pos (.inl HyA.out)] at s1
          exact ⟨.slice al g.length cl, by rw [s2]; simp [HyA.out], by rw [s1]; exact OwnR.from (OL.out.ownR (Nat.le_refl _)) (by omega), Hb.out⟩
        have HyA := Lib.hid hyA
        have hlo : decide (ur < f) = false := decide_eq_false hyA
        by_cases hyB : 40 ≤ g.length
        · skip
          have HyB := Lib.hid hyB
          have hge : decide ((40 : Int) ≤ (g.length : Int)) = true := decide_eq_true (by omega)
          have hge' : (40 : Int) ≤ (g.length : Int) := by omega
          have cX_0 := SX.out.cell 0 (v := .int .i64 f) rfl
          have cX_1 := SX.out.cell 1 (v := .slice va g.length vc) rfl
          have cV_0 := SV.out.cell 0 (v := .int .i64 ur) rfl
          have cV_1 := SV.out.cell 1 (v := .int .i64 ua) rfl
          have cV_2 := SV.out.cell 2 (v := .int .i64 ud) rfl
          have cO_0 := SO.out.cell 0 (v := .int .i64 f) rfl
          have cO_1 := SO.out.cell 1 (v := .slice al g.length cl) rfl
          have cR_0 := SR.out.cell 0 (v := .int .i64 0) rfl
          have cR_1 := SR.out.cell 1 (v := .slice none 0 0) rfl
          have fR_0 := SR.out.frozen 0
          have fR_1 := SR.out.frozen 1
          have sF := (SR.out.set 0 (.int .i64 f)).set 1 (.slice al g.length cl)
          have e0 := sF.cell 0 (v := .int .i64 f) rfl
          have e1 := sF.cell 1 (v := .slice al g.length cl) rfl
          clear sF
          go_wp2
          refine bodyPost_ret (v := .tuple #[.agg #[.int .i64 f, .slice al g.length cl], .bool false]) (by simp [results, Try.f38, go_sem, e0, e1]) rfl ?_
          clear cX_0 cX_1 cV_0 cV_1 cV_2 cO_0 cO_1 cR_0 cR_1 fR_0 fR_1
          have SX := Lib.hid (show Str ((wd5.setCell ⟨w.heap.size + 2, 0, none⟩ (.int .i64 f)).setCell ⟨w.heap.size + 2, 1, none⟩ (.slice al g.length cl)) (w.heap.size) 25 #[.int .i64 f, .slice va g.length vc] from ((((SX.out).other (by omega) _ _)).other (by omega) _ _))
          have SV := Lib.hid (show Str ((wd5.setCell ⟨w.heap.size + 2, 0, none⟩ (.int .i64 f)).setCell ⟨w.heap.size + 2, 1, none⟩ (.slice al g.length cl)) (w.heap.size + 1) 27 #[.int .i64 ur, .int .i64 ua, .int .i64 ud] from ((((SV.out).other (by omega) _ _)).other (by omega) _ _))
          have SO := Lib.hid (show Str ((wd5.setCell ⟨w.heap.size + 2, 0, none⟩ (.int .i64 f)).setCell ⟨w.heap.size + 2, 1, none⟩ (.slice al g.length cl)) (OB) 25 #[.int .i64 f, .slice al g.length cl] from ((((SO.out).other (by omega) _ _)).other (by omega) _ _))
          have SR := Lib.hid (show Str ((wd5.setCell ⟨w.heap.size + 2, 0, none⟩ (.int .i64 f)).setCell ⟨w.heap.size + 2, 1, none⟩ (.slice al g.length cl)) (w.heap.size + 2) 25 #[.int .i64 f, .slice al g.length cl] from ((((SR.out).set 0 (.int .i64 f))).set 1 (.slice al g.length cl)))
          have OL := Lib.hid (show OwnV 27 ((wd5.setCell ⟨w.heap.size + 2, 0, none⟩ (.int .i64 f)).setCell ⟨w.heap.size + 2, 1, none⟩ (.slice al g.length cl)) (LB) ((Value.slice al g.length cl)) (g) from OL.out.kept fun q e => by have h1 := OL.out.lt q e; have h2 := hne q e; exact set2 (by simpa using h1.2) (by omega))
          have Hb := Lib.hid (show Below w.heap.size w ((wd5.setCell ⟨w.heap.size + 2, 0, none⟩ (.int .i64 f)).setCell ⟨w.heap.size + 2, 1, none⟩ (.slice al g.length cl)) from ((((Hb.out).setCell (p := ⟨w.heap.size + 2, 0, none⟩) (by simp only; omega) _)).setCell (p := ⟨w.heap.size + 2, 1, none⟩) (by simp only; omega) _))
          have hzw8 : ((wd5.setCell ⟨w.heap.size + 2, 0, none⟩ (.int .i64 f)).setCell ⟨w.heap.size + 2, 1, none⟩ (.slice al g.length cl)).heap.size = wd5.heap.size := by simp
          obtain ⟨s1, s2⟩ := hsg.out
          rw [if_pos (.inr HyB.out)] at s1
          exact ⟨.slice al g.length cl, by rw [s2]; simp [HyB.out], by rw [s1]; exact OwnR.from (OL.out.ownR (Nat.le_refl _)) (by omega), Hb.out⟩
        have hge : decide ((40 : Int) ≤ (g.length : Int)) = false := decide_eq_false (by omega)
        have hge' : ¬ (40 : Int) ≤ (g.length : Int) := by omega
        obtain ⟨s1, s2⟩ := hsg.out
        rw [if_neg (by intro h; rcases h with h | h; exact HyA.out h; exact hyB h)] at s1
        have s3 : signB f g ⟨ur, ua, ud⟩ = true := by rw [s2]; simp [HyA.out, hyB]
        have S1 := Lib.hid s1; have S3 := Lib.hid s3
        clear s1 s2 s3 hsg
        clear HW
        have HP := Lib.hid (HV.out.parts hcap.out hk)
        obtain ⟨ht1, ht2, ad, ac, hd1, hd2⟩ := HP.out
        have T1 := Lib.hid ht1; have T2 := Lib.hid ht2; have D1 := Lib.hid hd1; have D2 := Lib.hid hd2
        clear ht1 ht2 hd1 hd2 HP
        have hl1 : (g.take k).length ≤ 40 := by rw [List.length_take]; omega
        have hl2 : (g.drop k).length ≤ 40 := by rw [List.length_drop]; omega
        clear Hup
        generalize g.take k = G1 at *
        generalize g.drop k = G2 at *
        have cX_0 := SX.out.cell 0 (v := .int .i64 f) rfl
        have cX_1 := SX.out.cell 1 (v := .slice va g.length vc) rfl
        have cV_0 := SV.out.cell 0 (v := .int .i64 ur) rfl
        have cV_1 := SV.out.cell 1 (v := .int .i64 ua) rfl
        have cV_2 := SV.out.cell 2 (v := .int .i64 ud) rfl
        go_wp2_with fail
        clear cX_0 cX_1 cV_0 cV_1 cV_2
        have hdr : Below wd5.heap.size wd5 wd5.drew := (Below.refl _ _).drew
        have SX := Lib.hid (show Str wd5.drew (w.heap.size) 25 #[.int .i64 f, .slice va g.length vc] from SX.out)
        have SV := Lib.hid (show Str wd5.drew (w.heap.size + 1) 27 #[.int .i64 ur, .int .i64 ua, .int .i64 ud] from SV.out)
        have SR := Lib.hid (show Str wd5.drew (w.heap.size + 2) 25 #[.int .i64 0, .slice none 0 0] from SR.out)
        have SO := Lib.hid (show Str wd5.drew (OB) 25 #[.int .i64 f, .slice al g.length cl] from SO.out)
        have Hb := Lib.hid Hb.out.drew
        have hzwd9 : wd5.heap.size ≤ wd5.drew.heap.size := Nat.le_refl _
        clear hdr
        refine wp_region_held_drew (S := fun w' => w'.cell? ⟨w.heap.size, 0, none⟩ = some (.int .i64 f) ∧ w'.cell? ⟨w.heap.size, 1, none⟩ = some (.slice va g.length vc) ∧ w'.cell? ⟨w.heap.size + 1, 0, none⟩ = some (.int .i64 ur) ∧ w'.cell? ⟨w.heap.size + 1, 1, none⟩ = some (.int .i64 ua) ∧ w'.cell? ⟨w.heap.size + 1, 2, none⟩ = some (.int .i64 ud)) (by kernel_rfl) ⟨SX.out.cell 0 (v := .int .i64 f) rfl, SX.out.cell 1 (v := .slice va g.length vc) rfl, SV.out.cell 0 (v := .int .i64 ur) rfl, SV.out.cell 1 (v := .int .i64 ua) rfl, SV.out.cell 2 (v := .int .i64 ud) rfl⟩ (fun hH => ?_)
        generalize wd5.drew = wd9 at *
        have hob9 := SO.out.lt
        have hkn : 0 ≤ (k : Int) := by omega
        refine takeH 1 (v := ?vt99) rfl (by kernel_rfl) (by kernel_rfl) (by kernel_rfl) (fun _ _ _ h => h) hH rfl ?yt99 ?rt99
        case yt99 => intro W hSw; go_simp; try with_reducible rfl
        try simp only [Act.put, List.setIfInBounds_toArray, List.set_cons_zero, List.set_cons_succ]
        refine takeH 2 (v := ?vt100) rfl (by kernel_rfl) (by kernel_rfl) (by kernel_rfl) (fun _ _ _ h => h) hH rfl ?yt100 ?rt100
        case yt100 => intro W hSw; go_simp; try with_reducible rfl
        try simp only [Act.put, List.setIfInBounds_toArray, List.set_cons_zero, List.set_cons_succ]
        refine takeH 3 (v := ?vt101) rfl (by kernel_rfl) (by kernel_rfl) (by kernel_rfl) (fun _ _ _ h => h) hH rfl ?yt101 ?rt101
        case yt101 => intro W hSw; go_simp; try with_reducible rfl
        try simp only [Act.put, List.setIfInBounds_toArray, List.set_cons_zero, List.set_cons_succ]
        refine takeH 4 (v := .slice va G1.length vc) rfl (by kernel_rfl) (by kernel_rfl) (by kernel_rfl) (fun _ _ _ h => h) hH rfl ?yt102 ?rt102
        case yt102 => intro W hSw; have hr := T1.out W; go_simp
        try simp only [Act.put, List.setIfInBounds_toArray, List.set_cons_zero, List.set_cons_succ]
        refine takeH 6 (v := ?vt103) rfl (by kernel_rfl) (by kernel_rfl) (by kernel_rfl) (fun _ _ _ h => h) hH rfl ?yt103 ?rt103
        case yt103 => intro W hSw; go_simp; try with_reducible rfl
        try simp only [Act.put, List.setIfInBounds_toArray, List.set_cons_zero, List.set_cons_succ]
        refine takeH 9 (v := ?vt104) rfl (by kernel_rfl) (by kernel_rfl) (by kernel_rfl) (fun _ _ _ h => h) hH rfl ?yt104 ?rt104
        case yt104 => intro W hSw; go_simp; try with_reducible rfl
        try simp only [Act.put, List.setIfInBounds_toArray, List.set_cons_zero, List.set_cons_succ]
        refine takeH 10 (v := ?vt105) rfl (by kernel_rfl) (by kernel_rfl) (by kernel_rfl) (fun _ _ _ h => h) hH rfl ?yt105 ?rt105
        case yt105 => intro W hSw; go_simp; try with_reducible rfl
        try simp only [Act.put, List.setIfInBounds_toArray, List.set_cons_zero, List.set_cons_succ]
        refine takeH 11 (v := ?vt106) rfl (by kernel_rfl) (by kernel_rfl) (by kernel_rfl) (fun _ _ _ h => h) hH rfl ?yt106 ?rt106
        case yt106 => intro W hSw; go_simp; try with_reducible rfl
        try simp only [Act.put, List.setIfInBounds_toArray, List.set_cons_zero, List.set_cons_succ]
        refine takeH 12 (v := .slice ad G2.length ac) rfl (by kernel_rfl) (by kernel_rfl) (by kernel_rfl) (fun _ _ _ h => h) hH rfl ?yt107 ?rt107
        case yt107 => intro W hSw; have hr := D1.out W; go_simp
        try simp only [Act.put, List.setIfInBounds_toArray, List.set_cons_zero, List.set_cons_succ]
        refine twoH 0 7 rfl rfl (by kernel_rfl) rfl rfl (fun K hK => ?_) (fun K hK => ?_)
        · skip
          go_simp
          have hal : Below wd9.heap.size wd9 (wd9.alloc (.cells #[] 27)) := (Below.refl _ _).alloc (Nat.le_refl _) _
          have oN := OwnV.empty 27 wd9
          have hzn : wd9.heap.size < (wd9.alloc (.cells #[] 27)).heap.size := by simp
          have SX := Lib.hid (show Str (wd9.alloc (.cells #[] 27)) (w.heap.size) 25 #[.int .i64 f, .slice va g.length vc] from (hal.block _ SX.out.lt).trans SX.out)
          have SV := Lib.hid (show Str (wd9.alloc (.cells #[] 27)) (w.heap.size + 1) 27 #[.int .i64 ur, .int .i64 ua, .int .i64 ud] from (hal.block _ SV.out.lt).trans SV.out)
          have SR := Lib.hid (show Str (wd9.alloc (.cells #[] 27)) (w.heap.size + 2) 25 #[.int .i64 0, .slice none 0 0] from (hal.block _ SR.out.lt).trans SR.out)
          have SO := Lib.hid (show Str (wd9.alloc (.cells #[] 27)) (OB) 25 #[.int .i64 f, .slice al g.length cl] from (hal.block _ SO.out.lt).trans SO.out)
          have hsz9 := hal.size
          have Hb := Lib.hid (below_step Hb.out Hb.out.size hal)
          have OM := Lib.hid oN; clear oN hal
          refine hK.out _ _ ⟨SX.out.cell 0 (v := .int .i64 f) rfl, SX.out.cell 1 (v := .slice va g.length vc) rfl, SV.out.cell 0 (v := .int .i64 ur) rfl, SV.out.cell 1 (v := .int .i64 ua) rfl, SV.out.cell 2 (v := .int .i64 ud) rfl⟩ (fun hH => ?_)
          clear hK K
          try simp only [Act.put, List.setIfInBounds_toArray, List.set_cons_zero, List.set_cons_succ]
          generalize (wd9.alloc (.cells #[] 27)) = wb26 at *
          generalize hNB : wd9.heap.size = NB at *
          have hNB9 : OB < NB := by omega
          refine twoH 5 7 rfl rfl (by kernel_rfl) rfl rfl (fun K hK => ?_) (fun K hK => ?_)
          · skip
            refine op_app_V (.tmp 68) (.tmp 72) rfl NB _ ([]) (G1) (va) (vc) rfl OM.out rfl (T2.out.below Hb.out) (by simp only [List.length_nil]; omega) (by omega) (fun u1 wa27 ho9 hg9 hp9 => ?_)
            have hrow : ∀ q, ((Value.slice (some ⟨NB, 0, none⟩) 0 0)).ownBlock = some q → q = NB := fun q e => by have e' : some NB = some q := e; exact (Option.some.inj e').symm
            have SX := Lib.hid (show Str wa27 (w.heap.size) 25 #[.int .i64 f, .slice va g.length vc] from SX.out.kept hg9 (fun e => by have := hrow _ e.symm; omega))
            have SV := Lib.hid (show Str wa27 (w.heap.size + 1) 27 #[.int .i64 ur, .int .i64 ua, .int .i64 ud] from SV.out.kept hg9 (fun e => by have := hrow _ e.symm; omega))
            have SR := Lib.hid (show Str wa27 (w.heap.size + 2) 25 #[.int .i64 0, .slice none 0 0] from SR.out.kept hg9 (fun e => by have := hrow _ e.symm; omega))
            have SO := Lib.hid (show Str wa27 (OB) 25 #[.int .i64 f, .slice al g.length cl] from SO.out.kept hg9 (fun e => by have := hrow _ e.symm; omega))
            have hsz9 := hg9.size
            have Hb := Lib.hid (Hb.out.grown hg9 Hb.out.size (fun q e => by have := hrow q e; omega))
            clear hrow hg9 hp9
            have OM := Lib.hid (show OwnV 27 wa27 NB u1 (G1) from ho9)
            clear ho9
            obtain ⟨a1, c1, rfl⟩ := OM.out.slice
            refine hK.out _ _ ⟨SX.out.cell 0 (v := .int .i64 f) rfl, SX.out.cell 1 (v := .slice va g.length vc) rfl, SV.out.cell 0 (v := .int .i64 ur) rfl, SV.out.cell 1 (v := .int .i64 ua) rfl, SV.out.cell 2 (v := .int .i64 ud) rfl⟩ (fun hH => ?_)
            clear hK K
            try simp only [Act.put, List.setIfInBounds_toArray, List.set_cons_zero, List.set_cons_succ]
            refine callH 7 rfl (by kernel_rfl) rfl (fun K hK => ?_)
            go_simp
            have hal : Below wa27.heap.size wa27 (wa27.alloc (.cells #[.int .i64 ur, .int .i64 ua, .int .i64 ud] 27)) := (Below.refl _ _).alloc (Nat.le_refl _) _
            have oN := Str.new wa27 27 #[.int .i64 ur, .int .i64 ua, .int .i64 ud]
            have hzn : wa27.heap.size < (wa27.alloc (.cells #[.int .i64 ur, .int .i64 ua, .int .i64 ud] 27)).heap.size := by simp
            have SX := Lib.hid (show Str (wa27.alloc (.cells #[.int .i64 ur, .int .i64 ua, .int .i64 ud] 27)) (w.heap.size) 25 #[.int .i64 f, .slice va g.length vc] from (hal.block _ SX.out.lt).trans SX.out)
            have SV := Lib.hid (show Str (wa27.alloc (.cells #[.int .i64 ur, .int .i64 ua, .int .i64 ud] 27)) (w.heap.size + 1) 27 #[.int .i64 ur, .int .i64 ua, .int .i64 ud] from (hal.block _ SV.out.lt).trans SV.out)
            have SR := Lib.hid (show Str (wa27.alloc (.cells #[.int .i64 ur, .int .i64 ua, .int .i64 ud] 27)) (w.heap.size + 2) 25 #[.int .i64 0, .slice none 0 0] from (hal.block _ SR.out.lt).trans SR.out)
            have SO := Lib.hid (show Str (wa27.alloc (.cells #[.int .i64 ur, .int .i64 ua, .int .i64 ud] 27)) (OB) 25 #[.int .i64 f, .slice al g.length cl] from (hal.block _ SO.out.lt).trans SO.out)
            have OM := Lib.hid (show OwnV 27 (wa27.alloc (.cells #[.int .i64 ur, .int .i64 ua, .int .i64 ud] 27)) (NB) ((Value.slice a1 G1.length c1)) (G1) from OM.out.below hal)
            have hsz9 := hal.size
            have Hb := Lib.hid (below_step Hb.out Hb.out.size hal)
            have SP := Lib.hid oN; clear oN hal
            refine hK.out _ _ ⟨SX.out.cell 0 (v := .int .i64 f) rfl, SX.out.cell 1 (v := .slice va g.length vc) rfl, SV.out.cell 0 (v := .int .i64 ur) rfl, SV.out.cell 1 (v := .int .i64 ua) rfl, SV.out.cell 2 (v := .int .i64 ud) rfl⟩ (fun hH => ?_)
            clear hK K
            try simp only [Act.put, List.setIfInBounds_toArray, List.set_cons_zero, List.set_cons_succ]
            generalize (wa27.alloc (.cells #[.int .i64 ur, .int .i64 ua, .int .i64 ud] 27)) = wb28 at *
            generalize hPB : wa27.heap.size = PB at *
            have hPB9 : OB < PB := by omega
            refine callH 8 rfl (by kernel_rfl) rfl (fun K hK => ?_)
            refine op_app_V (.tmp 73) (.tmp 75) rfl NB _ (G1) ([(⟨ur, ua, ud⟩ : Vt)]) (some ⟨PB, 0, none⟩) (1) rfl OM.out rfl (.inr ⟨_, rfl, srcV_one SP.out⟩) (by simp only [List.length_singleton]; omega) (by omega) (fun u2 wa29 ho9 hg9 hp9 => ?_)
            have hrow : ∀ q, ((Value.slice a1 G1.length c1)).ownBlock = some q → NB ≤ q := fun q e => (OM.out.lt q e).1
            have SX := Lib.hid (show Str wa29 (w.heap.size) 25 #[.int .i64 f, .slice va g.length vc] from SX.out.kept hg9 (fun e => by have := hrow _ e.symm; omega))
            have SV := Lib.hid (show Str wa29 (w.heap.size + 1) 27 #[.int .i64 ur, .int .i64 ua, .int .i64 ud] from SV.out.kept hg9 (fun e => by have := hrow _ e.symm; omega))
            have SR := Lib.hid (show Str wa29 (w.heap.size + 2) 25 #[.int .i64 0, .slice none 0 0] from SR.out.kept hg9 (fun e => by have := hrow _ e.symm; omega))
            have SO := Lib.hid (show Str wa29 (OB) 25 #[.int .i64 f, .slice al g.length cl] from SO.out.kept hg9 (fun e => by have := hrow _ e.symm; omega))
            have hsz9 := hg9.size
            have Hb := Lib.hid (Hb.out.grown hg9 Hb.out.size (fun q e => by have := hrow q e; omega))
            clear hrow hg9 hp9
            have OM := Lib.hid (show OwnV 27 wa29 NB u2 (G1 ++ [(⟨ur, ua, ud⟩ : Vt)]) from ho9)
            clear ho9
            have hlG3 : (G1 ++ [(⟨ur, ua, ud⟩ : Vt)]).length ≤ 41 := by simp only [List.length_append, List.length_singleton]; omega
            generalize hG3 : G1 ++ [(⟨ur, ua, ud⟩ : Vt)] = G3 at *
            obtain ⟨a2, c2, rfl⟩ := OM.out.slice
            refine hK.out _ _ ⟨SX.out.cell 0 (v := .int .i64 f) rfl, SX.out.cell 1 (v := .slice va g.length vc) rfl, SV.out.cell 0 (v := .int .i64 ur) rfl, SV.out.cell 1 (v := .int .i64 ua) rfl, SV.out.cell 2 (v := .int .i64 ud) rfl⟩ (fun hH => ?_)
            clear hK K
            try simp only [Act.put, List.setIfInBounds_toArray, List.set_cons_zero, List.set_cons_succ]
            refine callH 13 rfl (by kernel_rfl) rfl (fun K hK => ?_)
            refine op_app_V (.tmp 76) (.tmp 80) rfl NB _ (G3) (G2) (ad) (ac) rfl OM.out rfl (D2.out.below Hb.out) (by omega) (by omega) (fun u3 wa30 ho9 hg9 hp9 => ?_)
            have hrow : ∀ q, ((Value.slice a2 G3.length c2)).ownBlock = some q → NB ≤ q := fun q e => (OM.out.lt q e).1
            have SX := Lib.hid (show Str wa30 (w.heap.size) 25 #[.int .i64 f, .slice va g.length vc] from SX.out.kept hg9 (fun e => by have := hrow _ e.symm; omega))
            have SV := Lib.hid (show Str wa30 (w.heap.size + 1) 27 #[.int .i64 ur, .int .i64 ua, .int .i64 ud] from SV.out.kept hg9 (fun e => by have := hrow _ e.symm; omega))
            have SR := Lib.hid (show Str wa30 (w.heap.size + 2) 25 #[.int .i64 0, .slice none 0 0] from SR.out.kept hg9 (fun e => by have := hrow _ e.symm; omega))
            have SO := Lib.hid (show Str wa30 (OB) 25 #[.int .i64 f, .slice al g.length cl] from SO.out.kept hg9 (fun e => by have := hrow _ e.symm; omega))
            have hsz9 := hg9.size
            have Hb := Lib.hid (Hb.out.grown hg9 Hb.out.size (fun q e => by have := hrow q e; omega))
            clear hrow hg9 hp9
            have OM := Lib.hid (show OwnV 27 wa30 NB u3 (G3 ++ G2) from ho9)
            clear ho9
            have hlG4 : (G3 ++ G2).length ≤ 81 := by simp only [List.length_append]; omega
            generalize hG4 : G3 ++ G2 = G4 at *
            obtain ⟨a3, c3, rfl⟩ := OM.out.slice
            refine hK.out _ _ ⟨SX.out.cell 0 (v := .int .i64 f) rfl, SX.out.cell 1 (v := .slice va g.length vc) rfl, SV.out.cell 0 (v := .int .i64 ur) rfl, SV.out.cell 1 (v := .int .i64 ua) rfl, SV.out.cell 2 (v := .int .i64 ud) rfl⟩ (fun hH => ?_)
            clear hK K
            try simp only [Act.put, List.setIfInBounds_toArray, List.set_cons_zero, List.set_cons_succ]
            refine takeH 14 (v := ?vt108) rfl (by kernel_rfl) (by kernel_rfl) (by kernel_rfl) (fun _ _ _ h => h) hH rfl ?yt108 ?rt108
            case yt108 => intro W hSw; go_simp; try with_reducible rfl
            try simp only [Act.put, List.setIfInBounds_toArray, List.set_cons_zero, List.set_cons_succ]
            have cO_0 := SO.out.cell 0 (v := .int .i64 f) rfl
            have cO_1 := SO.out.cell 1 (v := .slice al g.length cl) rfl
            have fO_0 := SO.out.frozen 0
            have fO_1 := SO.out.frozen 1
            refine callH 15 rfl (by kernel_rfl) rfl (fun K hK => ?_)
            go_simp
            clear cO_0 cO_1 fO_0 fO_1
            have SX := Lib.hid (show Str (wa30.setCell ⟨OB, 1, none⟩ (.slice a3 G4.length c3)) (w.heap.size) 25 #[.int .i64 f, .slice va g.length vc] from ((SX.out).other (by omega) _ _))
            have SV := Lib.hid (show Str (wa30.setCell ⟨OB, 1, none⟩ (.slice a3 G4.length c3)) (w.heap.size + 1) 27 #[.int .i64 ur, .int .i64 ua, .int .i64 ud] from ((SV.out).other (by omega) _ _))
            have SR := Lib.hid (show Str (wa30.setCell ⟨OB, 1, none⟩ (.slice a3 G4.length c3)) (w.heap.size + 2) 25 #[.int .i64 0, .slice none 0 0] from ((SR.out).other (by omega) _ _))
            have SO := Lib.hid (show Str (wa30.setCell ⟨OB, 1, none⟩ (.slice a3 G4.length c3)) (OB) 25 #[.int .i64 f, .slice a3 G4.length c3] from ((SO.out).set 1 (.slice a3 G4.length c3)))
            have OM := Lib.hid (show OwnV 27 (wa30.setCell ⟨OB, 1, none⟩ (.slice a3 G4.length c3)) (NB) ((Value.slice a3 G4.length c3)) (G4) from OM.out.kept fun q e => by have h1 := OM.out.lt q e; exact set1 (by simpa using h1.2) (by omega))
            have Hb := Lib.hid (show Below w.heap.size w (wa30.setCell ⟨OB, 1, none⟩ (.slice a3 G4.length c3)) from ((Hb.out).setCell (p := ⟨OB, 1, none⟩) (by simp only; omega) _))
            have hzw10 : (wa30.setCell ⟨OB, 1, none⟩ (.slice a3 G4.length c3)).heap.size = wa30.heap.size := by simp
            refine hK.out _ _ ⟨SX.out.cell 0 (v := .int .i64 f) rfl, SX.out.cell 1 (v := .slice va g.length vc) rfl, SV.out.cell 0 (v := .int .i64 ur) rfl, SV.out.cell 1 (v := .int .i64 ua) rfl, SV.out.cell 2 (v := .int .i64 ud) rfl⟩ (fun hH => ?_)
            clear hK K
            generalize (wa30.setCell ⟨OB, 1, none⟩ (.slice a3 G4.length c3)) = w10 at *
            refine wpAnyH_done (by kernel_rfl) ?_ _
            clear hH
            try simp only [Act.put]
            have cO_0 := SO.out.cell 0 (v := .int .i64 f) rfl
            have cO_1 := SO.out.cell 1 (v := .slice a3 G4.length c3) rfl
            have cR_0 := SR.out.cell 0 (v := .int .i64 0) rfl
            have cR_1 := SR.out.cell 1 (v := .slice none 0 0) rfl
            have fR_0 := SR.out.frozen 0
            have fR_1 := SR.out.frozen 1
            have sF := (SR.out.set 0 (.int .i64 f)).set 1 (.slice a3 G4.length c3)
            have e0 := sF.cell 0 (v := .int .i64 f) rfl
            have e1 := sF.cell 1 (v := .slice a3 G4.length c3) rfl
            clear sF
            go_wp2
            refine bodyPost_ret (v := .tuple #[.agg #[.int .i64 f, .slice a3 G4.length c3], .bool true]) (by simp [results, Try.f38, go_sem, e0, e1]) rfl ?_
            clear cO_0 cO_1 cR_0 cR_1 fR_0 fR_1
            have SX := Lib.hid (show Str ((w10.setCell ⟨w.heap.size + 2, 0, none⟩ (.int .i64 f)).setCell ⟨w.heap.size + 2, 1, none⟩ (.slice a3 G4.length c3)) (w.heap.size) 25 #[.int .i64 f, .slice va g.length vc] from ((((SX.out).other (by omega) _ _)).other (by omega) _ _))
            have SV := Lib.hid (show Str ((w10.setCell ⟨w.heap.size + 2, 0, none⟩ (.int .i64 f)).setCell ⟨w.heap.size + 2, 1, none⟩ (.slice a3 G4.length c3)) (w.heap.size + 1) 27 #[.int .i64 ur, .int .i64 ua, .int .i64 ud] from ((((SV.out).other (by omega) _ _)).other (by omega) _ _))
            have SO := Lib.hid (show Str ((w10.setCell ⟨w.heap.size + 2, 0, none⟩ (.int .i64 f)).setCell ⟨w.heap.size + 2, 1, none⟩ (.slice a3 G4.length c3)) (OB) 25 #[.int .i64 f, .slice a3 G4.length c3] from ((((SO.out).other (by omega) _ _)).other (by omega) _ _))
            have SR := Lib.hid (show Str ((w10.setCell ⟨w.heap.size + 2, 0, none⟩ (.int .i64 f)).setCell ⟨w.heap.size + 2, 1, none⟩ (.slice a3 G4.length c3)) (w.heap.size + 2) 25 #[.int .i64 f, .slice a3 G4.length c3] from ((((SR.out).set 0 (.int .i64 f))).set 1 (.slice a3 G4.length c3)))
            have OM := Lib.hid (show OwnV 27 ((w10.setCell ⟨w.heap.size + 2, 0, none⟩ (.int .i64 f)).setCell ⟨w.heap.size + 2, 1, none⟩ (.slice a3 G4.length c3)) (NB) ((Value.slice a3 G4.length c3)) (G4) from OM.out.kept fun q e => by have h1 := OM.out.lt q e; exact set2 (by simpa using h1.2) (by omega))
            have Hb := Lib.hid (show Below w.heap.size w ((w10.setCell ⟨w.heap.size + 2, 0, none⟩ (.int .i64 f)).setCell ⟨w.heap.size + 2, 1, none⟩ (.slice a3 G4.length c3)) from ((((Hb.out).setCell (p := ⟨w.heap.size + 2, 0, none⟩) (by simp only; omega) _)).setCell (p := ⟨w.heap.size + 2, 1, none⟩) (by simp only; omega) _))
            have hzw11 : ((w10.setCell ⟨w.heap.size + 2, 0, none⟩ (.int .i64 f)).setCell ⟨w.heap.size + 2, 1, none⟩ (.slice a3 G4.length c3)).heap.size = w10.heap.size := by simp
            have hE : G4 = signG f g ⟨ur, ua, ud⟩ := by rw [S1.out, ← hG4, ← hG3]; simp
            exact ⟨.slice a3 G4.length c3, by rw [S3.out], by rw [← hE]; exact OwnR.from (OM.out.ownR (Nat.le_refl _)) (by omega), Hb.out⟩
          · skip
            go_simp
            have hal : Below wb26.heap.size wb26 (wb26.alloc (.cells #[.int .i64 ur, .int .i64 ua, .int .i64 ud] 27)) := (Below.refl _ _).alloc (Nat.le_refl _) _
            have oN := Str.new wb26 27 #[.int .i64 ur, .int .i64 ua, .int .i64 ud]
            have hzn : wb26.heap.size < (wb26.alloc (.cells #[.int .i64 ur, .int .i64 ua, .int .i64 ud] 27)).heap.size := by simp
            have SX := Lib.hid (show Str (wb26.alloc (.cells #[.int .i64 ur, .int .i64 ua, .int .i64 ud] 27)) (w.heap.size) 25 #[.int .i64 f, .slice va g.length vc] from (hal.block _ SX.out.lt).trans SX.out)
            have SV := Lib.hid (show Str (wb26.alloc (.cells #[.int .i64 ur, .int .i64 ua, .int .i64 ud] 27)) (w.heap.size + 1) 27 #[.int .i64 ur, .int .i64 ua, .int .i64 ud] from (hal.block _ SV.out.lt).trans SV.out)
            have SR := Lib.hid (show Str (wb26.alloc (.cells #[.int .i64 ur, .int .i64 ua, .int .i64 ud] 27)) (w.heap.size + 2) 25 #[.int .i64 0, .slice none 0 0] from (hal.block _ SR.out.lt).trans SR.out)
            have SO := Lib.hid (show Str (wb26.alloc (.cells #[.int .i64 ur, .int .i64 ua, .int .i64 ud] 27)) (OB) 25 #[.int .i64 f, .slice al g.length cl] from (hal.block _ SO.out.lt).trans SO.out)
            have OM := Lib.hid (show OwnV 27 (wb26.alloc (.cells #[.int .i64 ur, .int .i64 ua, .int .i64 ud] 27)) (NB) ((Value.slice (some ⟨NB, 0, none⟩) 0 0)) ([]) from OM.out.below hal)
            have hsz9 := hal.size
            have Hb := Lib.hid (below_step Hb.out Hb.out.size hal)
            have SP := Lib.hid oN; clear oN hal
            refine hK.out _ _ ⟨SX.out.cell 0 (v := .int .i64 f) rfl, SX.out.cell 1 (v := .slice va g.length vc) rfl, SV.out.cell 0 (v := .int .i64 ur) rfl, SV.out.cell 1 (v := .int .i64 ua) rfl, SV.out.cell 2 (v := .int .i64 ud) rfl⟩ (fun hH => ?_)
            clear hK K
            try simp only [Act.put, List.setIfInBounds_toArray, List.set_cons_zero, List.set_cons_succ]
            generalize (wb26.alloc (.cells #[.int .i64 ur, .int .i64 ua, .int .i64 ud] 27)) = wb31 at *
            generalize hPB : wb26.heap.size = PB at *
            have hPB9 : OB < PB := by omega
            refine callH 5 rfl (by kernel_rfl) rfl (fun K hK => ?_)
            refine op_app_V (.tmp 68) (.tmp 72) rfl NB _ ([]) (G1) (va) (vc) rfl OM.out rfl (T2.out.below Hb.out) (by simp only [List.length_nil]; omega) (by omega) (fun u1 wa32 ho9 hg9 hp9 => ?_)
            have hrow : ∀ q, ((Value.slice (some ⟨NB, 0, none⟩) 0 0)).ownBlock = some q → q = NB := fun q e => by have e' : some NB = some q := e; exact (Option.some.inj e').symm
            have SX := Lib.hid (show Str wa32 (w.heap.size) 25 #[.int .i64 f, .slice va g.length vc] from SX.out.kept hg9 (fun e => by have := hrow _ e.symm; omega))
            have SV := Lib.hid (show Str wa32 (w.heap.size + 1) 27 #[.int .i64 ur, .int .i64 ua, .int .i64 ud] from SV.out.kept hg9 (fun e => by have := hrow _ e.symm; omega))
            have SR := Lib.hid (show Str wa32 (w.heap.size + 2) 25 #[.int .i64 0, .slice none 0 0] from SR.out.kept hg9 (fun e => by have := hrow _ e.symm; omega))
            have SO := Lib.hid (show Str wa32 (OB) 25 #[.int .i64 f, .slice al g.length cl] from SO.out.kept hg9 (fun e => by have := hrow _ e.symm; omega))
            have SP := Lib.hid (show Str wa32 (PB) 27 #[.int .i64 ur, .int .i64 ua, .int .i64 ud] from SP.out.kept hg9 (fun e => by have := hrow _ e.symm; omega))
            have hsz9 := hg9.size
            have Hb := Lib.hid (Hb.out.grown hg9 Hb.out.size (fun q e => by have := hrow q e; omega))
            clear hrow hg9 hp9
            have OM := Lib.hid (show OwnV 27 wa32 NB u1 (G1) from ho9)
            clear ho9
            obtain ⟨a1, c1, rfl⟩ := OM.out.slice
            refine hK.out _ _ ⟨SX.out.cell 0 (v := .int .i64 f) rfl, SX.out.cell 1 (v := .slice va g.length vc) rfl, SV.out.cell 0 (v := .int .i64 ur) rfl, SV.out.cell 1 (v := .int .i64 ua) rfl, SV.out.cell 2 (v := .int .i64 ud) rfl⟩ (fun hH => ?_)
            clear hK K
            try simp only [Act.put, List.setIfInBounds_toArray, List.set_cons_zero, List.set_cons_succ]
            refine callH 8 rfl (by kernel_rfl) rfl (fun K hK => ?_)
            refine op_app_V (.tmp 73) (.tmp 75) rfl NB _ (G1) ([(⟨ur, ua, ud⟩ : Vt)]) (some ⟨PB, 0, none⟩) (1) rfl OM.out rfl (.inr ⟨_, rfl, srcV_one SP.out⟩) (by simp only [List.length_singleton]; omega) (by omega) (fun u2 wa33 ho9 hg9 hp9 => ?_)
            have hrow : ∀ q, ((Value.slice a1 G1.length c1)).ownBlock = some q → NB ≤ q := fun q e => (OM.out.lt q e).1
            have SX := Lib.hid (show Str wa33 (w.heap.size) 25 #[.int .i64 f, .slice va g.length vc] from SX.out.kept hg9 (fun e => by have := hrow _ e.symm; omega))
            have SV := Lib.hid (show Str wa33 (w.heap.size + 1) 27 #[.int .i64 ur, .int .i64 ua, .int .i64 ud] from SV.out.kept hg9 (fun e => by have := hrow _ e.symm; omega))
            have SR := Lib.hid (show Str wa33 (w.heap.size + 2) 25 #[.int .i64 0, .slice none 0 0] from SR.out.kept hg9 (fun e => by have := hrow _ e.symm; omega))
            have SO := Lib.hid (show Str wa33 (OB) 25 #[.int .i64 f, .slice al g.length cl] from SO.out.kept hg9 (fun e => by have := hrow _ e.symm; omega))
            have hsz9 := hg9.size
            have Hb := Lib.hid (Hb.out.grown hg9 Hb.out.size (fun q e => by have := hrow q e; omega))
            clear hrow hg9 hp9
            have OM := Lib.hid (show OwnV 27 wa33 NB u2 (G1 ++ [(⟨ur, ua, ud⟩ : Vt)]) from ho9)
            clear ho9
            have hlG3 : (G1 ++ [(⟨ur, ua, ud⟩ : Vt)]).length ≤ 41 := by simp only [List.length_append, List.length_singleton]; omega
            generalize hG3 : G1 ++ [(⟨ur, ua, ud⟩ : Vt)] = G3 at *
            obtain ⟨a2, c2, rfl⟩ := OM.out.slice
            refine hK.out _ _ ⟨SX.out.cell 0 (v := .int .i64 f) rfl, SX.out.cell 1 (v := .slice va g.length vc) rfl, SV.out.cell 0 (v := .int .i64 ur) rfl, SV.out.cell 1 (v := .int .i64 ua) rfl, SV.out.cell 2 (v := .int .i64 ud) rfl⟩ (fun hH => ?_)
            clear hK K
            try simp only [Act.put, List.setIfInBounds_toArray, List.set_cons_zero, List.set_cons_succ]
            refine callH 13 rfl (by kernel_rfl) rfl (fun K hK => ?_)
            refine op_app_V (.tmp 76) (.tmp 80) rfl NB _ (G3) (G2) (ad) (ac) rfl OM.out rfl (D2.out.below Hb.out) (by omega) (by omega) (fun u3 wa34 ho9 hg9 hp9 => ?_)
            have hrow : ∀ q, ((Value.slice a2 G3.length c2)).ownBlock = some q → NB ≤ q := fun q e => (OM.out.lt q e).1
            have SX := Lib.hid (show Str wa34 (w.heap.size) 25 #[.int .i64 f, .slice va g.length vc] from SX.out.kept hg9 (fun e => by have := hrow _ e.symm; omega))
            have SV := Lib.hid (show Str wa34 (w.heap.size + 1) 27 #[.int .i64 ur, .int .i64 ua, .int .i64 ud] from SV.out.kept hg9 (fun e => by have := hrow _ e.symm; omega))
            have SR := Lib.hid (show Str wa34 (w.heap.size + 2) 25 #[.int .i64 0, .slice none 0 0] from SR.out.kept hg9 (fun e => by have := hrow _ e.symm; omega))
            have SO := Lib.hid (show Str wa34 (OB) 25 #[.int .i64 f, .slice al g.length cl] from SO.out.kept hg9 (fun e => by have := hrow _ e.symm; omega))
            have hsz9 := hg9.size
            have Hb := Lib.hid (Hb.out.grown hg9 Hb.out.size (fun q e => by have := hrow q e; omega))
            clear hrow hg9 hp9
            have OM := Lib.hid (show OwnV 27 wa34 NB u3 (G3 ++ G2) from ho9)
            clear ho9
            have hlG4 : (G3 ++ G2).length ≤ 81 := by simp only [List.length_append]; omega
            generalize hG4 : G3 ++ G2 = G4 at *
            obtain ⟨a3, c3, rfl⟩ := OM.out.slice
            refine hK.out _ _ ⟨SX.out.cell 0 (v := .int .i64 f) rfl, SX.out.cell 1 (v := .slice va g.length vc) rfl, SV.out.cell 0 (v := .int .i64 ur) rfl, SV.out.cell 1 (v := .int .i64 ua) rfl, SV.out.cell 2 (v := .int .i64 ud) rfl⟩ (fun hH => ?_)
            clear hK K
            try simp only [Act.put, List.setIfInBounds_toArray, List.set_cons_zero, List.set_cons_succ]
            refine takeH 14 (v := ?vt109) rfl (by kernel_rfl) (by kernel_rfl) (by kernel_rfl) (fun _ _ _ h => h) hH rfl ?yt109 ?rt109
            case yt109 => intro W hSw; go_simp; try with_reducible rfl
            try simp only [Act.put, List.setIfInBounds_toArray, List.set_cons_zero, List.set_cons_succ]
            have cO_0 := SO.out.cell 0 (v := .int .i64 f) rfl
            have cO_1 := SO.out.cell 1 (v := .slice al g.length cl) rfl
            have fO_0 := SO.out.frozen 0
            have fO_1 := SO.out.frozen 1
            refine callH 15 rfl (by kernel_rfl) rfl (fun K hK => ?_)
            go_simp
            clear cO_0 cO_1 fO_0 fO_1
            have SX := Lib.hid (show Str (wa34.setCell ⟨OB, 1, none⟩ (.slice a3 G4.length c3)) (w.heap.size) 25 #[.int .i64 f, .slice va g.length vc] from ((SX.out).other (by omega) _ _))
            have SV := Lib.hid (show Str (wa34.setCell ⟨OB, 1, none⟩ (.slice a3 G4.length c3)) (w.heap.size + 1) 27 #[.int .i64 ur, .int .i64 ua, .int .i64 ud] from ((SV.out).other (by omega) _ _))
            have SR := Lib.hid (show Str (wa34.setCell ⟨OB, 1, none⟩ (.slice a3 G4.length c3)) (w.heap.size + 2) 25 #[.int .i64 0, .slice none 0 0] from ((SR.out).other (by omega) _ _))
            have SO := Lib.hid (show Str (wa34.setCell ⟨OB, 1, none⟩ (.slice a3 G4.length c3)) (OB) 25 #[.int .i64 f, .slice a3 G4.length c3] from ((SO.out).set 1 (.slice a3 G4.length c3)))
            have OM := Lib.hid (show OwnV 27 (wa34.setCell ⟨OB, 1, none⟩ (.slice a3 G4.length c3)) (NB) ((Value.slice a3 G4.length c3)) (G4) from OM.out.kept fun q e => by have h1 := OM.out.lt q e; exact set1 (by simpa using h1.2) (by omega))
            have Hb := Lib.hid (show Below w.heap.size w (wa34.setCell ⟨OB, 1, none⟩ (.slice a3 G4.length c3)) from ((Hb.out).setCell (p := ⟨OB, 1, none⟩) (by simp only; omega) _))
            have hzw10 : (wa34.setCell ⟨OB, 1, none⟩ (.slice a3 G4.length c3)).heap.size = wa34.heap.size := by simp
            refine hK.out _ _ ⟨SX.out.cell 0 (v := .int .i64 f) rfl, SX.out.cell 1 (v := .slice va g.length vc) rfl, SV.out.cell 0 (v := .int .i64 ur) rfl, SV.out.cell 1 (v := .int .i64 ua) rfl, SV.out.cell 2 (v := .int .i64 ud) rfl⟩ (fun hH => ?_)
            clear hK K
            generalize (wa34.setCell ⟨OB, 1, none⟩ (.slice a3 G4.length c3)) = w10 at *
            refine wpAnyH_done (by kernel_rfl) ?_ _
            clear hH
            try simp only [Act.put]
            have cO_0 := SO.out.cell 0 (v := .int .i64 f) rfl
            have cO_1 := SO.out.cell 1 (v := .slice a3 G4.length c3) rfl
            have cR_0 := SR.out.cell 0 (v := .int .i64 0) rfl
            have cR_1 := SR.out.cell 1 (v := .slice none 0 0) rfl
            have fR_0 := SR.out.frozen 0
            have fR_1 := SR.out.frozen 1
            have sF := (SR.out.set 0 (.int .i64 f)).set 1 (.slice a3 G4.length c3)
            have e0 := sF.cell 0 (v := .int .i64 f) rfl
            have e1 := sF.cell 1 (v := .slice a3 G4.length c3) rfl
            clear sF
            go_wp2
            refine bodyPost_ret (v := .tuple #[.agg #[.int .i64 f, .slice a3 G4.length c3], .bool true]) (by simp [results, Try.f38, go_sem, e0, e1]) rfl ?_
            clear cO_0 cO_1 cR_0 cR_1 fR_0 fR_1
            have SX := Lib.hid (show Str ((w10.setCell ⟨w.heap.size + 2, 0, none⟩ (.int .i64 f)).setCell ⟨w.heap.size + 2, 1, none⟩ (.slice a3 G4.length c3)) (w.heap.size) 25 #[.int .i64 f, .slice va g.length vc] from ((((SX.out).other (by omega) _ _)).other (by omega) _ _))
            have SV := Lib.hid (show Str ((w10.setCell ⟨w.heap.size + 2, 0, none⟩ (.int .i64 f)).setCell ⟨w.heap.size + 2, 1, none⟩ (.slice a3 G4.length c3)) (w.heap.size + 1) 27 #[.int .i64 ur, .int .i64 ua, .int .i64 ud] from ((((SV.out).other (by omega) _ _)).other (by omega) _ _))
            have SO := Lib.hid (show Str ((w10.setCell ⟨w.heap.size + 2, 0, none⟩ (.int .i64 f)).setCell ⟨w.heap.size + 2, 1, none⟩ (.slice a3 G4.length c3)) (OB) 25 #[.int .i64 f, .slice a3 G4.length c3] from ((((SO.out).other (by omega) _ _)).other (by omega) _ _))
            have SR := Lib.hid (show Str ((w10.setCell ⟨w.heap.size + 2, 0, none⟩ (.int .i64 f)).setCell ⟨w.heap.size + 2, 1, none⟩ (.slice a3 G4.length c3)) (w.heap.size + 2) 25 #[.int .i64 f, .slice a3 G4.length c3] from ((((SR.out).set 0 (.int .i64 f))).set 1 (.slice a3 G4.length c3)))
            have OM := Lib.hid (show OwnV 27 ((w10.setCell ⟨w.heap.size + 2, 0, none⟩ (.int .i64 f)).setCell ⟨w.heap.size + 2, 1, none⟩ (.slice a3 G4.length c3)) (NB) ((Value.slice a3 G4.length c3)) (G4) from OM.out.kept fun q e => by have h1 := OM.out.lt q e; exact set2 (by simpa using h1.2) (by omega))
            have Hb := Lib.hid (show Below w.heap.size w ((w10.setCell ⟨w.heap.size + 2, 0, none⟩ (.int .i64 f)).setCell ⟨w.heap.size + 2, 1, none⟩ (.slice a3 G4.length c3)) from ((((Hb.out).setCell (p := ⟨w.heap.size + 2, 0, none⟩) (by simp only; omega) _)).setCell (p := ⟨w.heap.size + 2, 1, none⟩) (by simp only; omega) _))
            have hzw11 : ((w10.setCell ⟨w.heap.size + 2, 0, none⟩ (.int .i64 f)).setCell ⟨w.heap.size + 2, 1, none⟩ (.slice a3 G4.length c3)).heap.size = w10.heap.size := by simp
            have hE : G4 = signG f g ⟨ur, ua, ud⟩ := by rw [S1.out, ← hG4, ← hG3]; simp
            exact ⟨.slice a3 G4.length c3, by rw [S3.out], by rw [← hE]; exact OwnR.from (OM.out.ownR (Nat.le_refl _)) (by omega), Hb.out⟩
        · skip
          go_simp
          have hal : Below wd9.heap.size wd9 (wd9.alloc (.cells #[.int .i64 ur, .int .i64 ua, .int .i64 ud] 27)) := (Below.refl _ _).alloc (Nat.le_refl _) _
          have oN := Str.new wd9 27 #[.int .i64 ur, .int .i64 ua, .int .i64 ud]
          have hzn : wd9.heap.size < (wd9.alloc (.cells #[.int .i64 ur, .int .i64 ua, .int .i64 ud] 27)).heap.size := by simp
          have SX := Lib.hid (show Str (wd9.alloc (.cells #[.int .i64 ur, .int .i64 ua, .int .i64 ud] 27)) (w.heap.size) 25 #[.int .i64 f, .slice va g.length vc] from (hal.block _ SX.out.lt).trans SX.out)
          have SV := Lib.hid (show Str (wd9.alloc (.cells #[.int .i64 ur, .int .i64 ua, .int .i64 ud] 27)) (w.heap.size + 1) 27 #[.int .i64 ur, .int .i64 ua, .int .i64 ud] from (hal.block _ SV.out.lt).trans SV.out)
          have SR := Lib.hid (show Str (wd9.alloc (.cells #[.int .i64 ur, .int .i64 ua, .int .i64 ud] 27)) (w.heap.size + 2) 25 #[.int .i64 0, .slice none 0 0] from (hal.block _ SR.out.lt).trans SR.out)
          have SO := Lib.hid (show Str (wd9.alloc (.cells #[.int .i64 ur, .int .i64 ua, .int .i64 ud] 27)) (OB) 25 #[.int .i64 f, .slice al g.length cl] from (hal.block _ SO.out.lt).trans SO.out)
          have hsz9 := hal.size
          have Hb := Lib.hid (below_step Hb.out Hb.out.size hal)
          have SP := Lib.hid oN; clear oN hal
          refine hK.out _ _ ⟨SX.out.cell 0 (v := .int .i64 f) rfl, SX.out.cell 1 (v := .slice va g.length vc) rfl, SV.out.cell 0 (v := .int .i64 ur) rfl, SV.out.cell 1 (v := .int .i64 ua) rfl, SV.out.cell 2 (v := .int .i64 ud) rfl⟩ (fun hH => ?_)
          clear hK K
          try simp only [Act.put, List.setIfInBounds_toArray, List.set_cons_zero, List.set_cons_succ]
          generalize (wd9.alloc (.cells #[.int .i64 ur, .int .i64 ua, .int .i64 ud] 27)) = wb35 at *
          generalize hPB : wd9.heap.size = PB at *
          have hPB9 : OB < PB := by omega
          refine callH 0 rfl (by kernel_rfl) rfl (fun K hK => ?_)
          go_simp
          have hal : Below wb35.heap.size wb35 (wb35.alloc (.cells #[] 27)) := (Below.refl _ _).alloc (Nat.le_refl _) _
          have oN := OwnV.empty 27 wb35
          have hzn : wb35.heap.size < (wb35.alloc (.cells #[] 27)).heap.size := by simp
          have SX := Lib.hid (show Str (wb35.alloc (.cells #[] 27)) (w.heap.size) 25 #[.int .i64 f, .slice va g.length vc] from (hal.block _ SX.out.lt).trans SX.out)
          have SV := Lib.hid (show Str (wb35.alloc (.cells #[] 27)) (w.heap.size + 1) 27 #[.int .i64 ur, .int .i64 ua, .int .i64 ud] from (hal.block _ SV.out.lt).trans SV.out)
          have SR := Lib.hid (show Str (wb35.alloc (.cells #[] 27)) (w.heap.size + 2) 25 #[.int .i64 0, .slice none 0 0] from (hal.block _ SR.out.lt).trans SR.out)
          have SO := Lib.hid (show Str (wb35.alloc (.cells #[] 27)) (OB) 25 #[.int .i64 f, .slice al g.length cl] from (hal.block _ SO.out.lt).trans SO.out)
          have SP := Lib.hid (show Str (wb35.alloc (.cells #[] 27)) (PB) 27 #[.int .i64 ur, .int .i64 ua, .int .i64 ud] from (hal.block _ SP.out.lt).trans SP.out)
          have hsz9 := hal.size
          have Hb := Lib.hid (below_step Hb.out Hb.out.size hal)
          have OM := Lib.hid oN; clear oN hal
          refine hK.out _ _ ⟨SX.out.cell 0 (v := .int .i64 f) rfl, SX.out.cell 1 (v := .slice va g.length vc) rfl, SV.out.cell 0 (v := .int .i64 ur) rfl, SV.out.cell 1 (v := .int .i64 ua) rfl, SV.out.cell 2 (v := .int .i64 ud) rfl⟩ (fun hH => ?_)
          clear hK K
          try simp only [Act.put, List.setIfInBounds_toArray, List.set_cons_zero, List.set_cons_succ]
          generalize (wb35.alloc (.cells #[] 27)) = wb36 at *
          generalize hNB : wb35.heap.size = NB at *
          have hNB9 : OB < NB := by omega
          refine callH 5 rfl (by kernel_rfl) rfl (fun K hK => ?_)
          refine op_app_V (.tmp 68) (.tmp 72) rfl NB _ ([]) (G1) (va) (vc) rfl OM.out rfl (T2.out.below Hb.out) (by simp only [List.length_nil]; omega) (by omega) (fun u1 wa37 ho9 hg9 hp9 => ?_)
          have hrow : ∀ q, ((Value.slice (some ⟨NB, 0, none⟩) 0 0)).ownBlock = some q → q = NB := fun q e => by have e' : some NB = some q := e; exact (Option.some.inj e').symm
          have SX := Lib.hid (show Str wa37 (w.heap.size) 25 #[.int .i64 f, .slice va g.length vc] from SX.out.kept hg9 (fun e => by have := hrow _ e.symm; omega))
          have SV := Lib.hid (show Str wa37 (w.heap.size + 1) 27 #[.int .i64 ur, .int .i64 ua, .int .i64 ud] from SV.out.kept hg9 (fun e => by have := hrow _ e.symm; omega))
          have SR := Lib.hid (show Str wa37 (w.heap.size + 2) 25 #[.int .i64 0, .slice none 0 0] from SR.out.kept hg9 (fun e => by have := hrow _ e.symm; omega))
          have SO := Lib.hid (show Str wa37 (OB) 25 #[.int .i64 f, .slice al g.length cl] from SO.out.kept hg9 (fun e => by have := hrow _ e.symm; omega))
          have SP := Lib.hid (show Str wa37 (PB) 27 #[.int .i64 ur, .int .i64 ua, .int .i64 ud] from SP.out.kept hg9 (fun e => by have := hrow _ e.symm; omega))
          have hsz9 := hg9.size
          have Hb := Lib.hid (Hb.out.grown hg9 Hb.out.size (fun q e => by have := hrow q e; omega))
          clear hrow hg9 hp9
          have OM := Lib.hid (show OwnV 27 wa37 NB u1 (G1) from ho9)
          clear ho9
          obtain ⟨a1, c1, rfl⟩ := OM.out.slice
          refine hK.out _ _ ⟨SX.out.cell 0 (v := .int .i64 f) rfl, SX.out.cell 1 (v := .slice va g.length vc) rfl, SV.out.cell 0 (v := .int .i64 ur) rfl, SV.out.cell 1 (v := .int .i64 ua) rfl, SV.out.cell 2 (v := .int .i64 ud) rfl⟩ (fun hH => ?_)
          clear hK K
          try simp only [Act.put, List.setIfInBounds_toArray, List.set_cons_zero, List.set_cons_succ]
          refine callH 8 rfl (by kernel_rfl) rfl (fun K hK => ?_)
          refine op_app_V (.tmp 73) (.tmp 75) rfl NB _ (G1) ([(⟨ur, ua, ud⟩ : Vt)]) (some ⟨PB, 0, none⟩) (1) rfl OM.out rfl (.inr ⟨_, rfl, srcV_one SP.out⟩) (by simp only [List.length_singleton]; omega) (by omega) (fun u2 wa38 ho9 hg9 hp9 => ?_)
          have hrow : ∀ q, ((Value.slice a1 G1.length c1)).ownBlock = some q → NB ≤ q := fun q e => (OM.out.lt q e).1
          have SX := Lib.hid (show Str wa38 (w.heap.size) 25 #[.int .i64 f, .slice va g.length vc] from SX.out.kept hg9 (fun e => by have := hrow _ e.symm; omega))
          have SV := Lib.hid (show Str wa38 (w.heap.size + 1) 27 #[.int .i64 ur, .int .i64 ua, .int .i64 ud] from SV.out.kept hg9 (fun e => by have := hrow _ e.symm; omega))
          have SR := Lib.hid (show Str wa38 (w.heap.size + 2) 25 #[.int .i64 0, .slice none 0 0] from SR.out.kept hg9 (fun e => by have := hrow _ e.symm; omega))
          have SO := Lib.hid (show Str wa38 (OB) 25 #[.int .i64 f, .slice al g.length cl] from SO.out.kept hg9 (fun e => by have := hrow _ e.symm; omega))
          have hsz9 := hg9.size
          have Hb := Lib.hid (Hb.out.grown hg9 Hb.out.size (fun q e => by have := hrow q e; omega))
          clear hrow hg9 hp9
          have OM := Lib.hid (show OwnV 27 wa38 NB u2 (G1 ++ [(⟨ur, ua, ud⟩ : Vt)]) from ho9)
          clear ho9
          have hlG3 : (G1 ++ [(⟨ur, ua, ud⟩ : Vt)]).length ≤ 41 := by simp only [List.length_append, List.length_singleton]; omega
          generalize hG3 : G1 ++ [(⟨ur, ua, ud⟩ : Vt)] = G3 at *
          obtain ⟨a2, c2, rfl⟩ := OM.out.slice
          refine hK.out _ _ ⟨SX.out.cell 0 (v := .int .i64 f) rfl, SX.out.cell 1 (v := .slice va g.length vc) rfl, SV.out.cell 0 (v := .int .i64 ur) rfl, SV.out.cell 1 (v := .int .i64 ua) rfl, SV.out.cell 2 (v := .int .i64 ud) rfl⟩ (fun hH => ?_)
          clear hK K
          try simp only [Act.put, List.setIfInBounds_toArray, List.set_cons_zero, List.set_cons_succ]
          refine callH 13 rfl (by kernel_rfl) rfl (fun K hK => ?_)
          refine op_app_V (.tmp 76) (.tmp 80) rfl NB _ (G3) (G2) (ad) (ac) rfl OM.out rfl (D2.out.below Hb.out) (by omega) (by omega) (fun u3 wa39 ho9 hg9 hp9 => ?_)
          have hrow : ∀ q, ((Value.slice a2 G3.length c2)).ownBlock = some q → NB ≤ q := fun q e => (OM.out.lt q e).1
          have SX := Lib.hid (show Str wa39 (w.heap.size) 25 #[.int .i64 f, .slice va g.length vc] from SX.out.kept hg9 (fun e => by have := hrow _ e.symm; omega))
          have SV := Lib.hid (show Str wa39 (w.heap.size + 1) 27 #[.int .i64 ur, .int .i64 ua, .int .i64 ud] from SV.out.kept hg9 (fun e => by have := hrow _ e.symm; omega))
          have SR := Lib.hid (show Str wa39 (w.heap.size + 2) 25 #[.int .i64 0, .slice none 0 0] from SR.out.kept hg9 (fun e => by have := hrow _ e.symm; omega))
          have SO := Lib.hid (show Str wa39 (OB) 25 #[.int .i64 f, .slice al g.length cl] from SO.out.kept hg9 (fun e => by have := hrow _ e.symm; omega))
          have hsz9 := hg9.size
          have Hb := Lib.hid (Hb.out.grown hg9 Hb.out.size (fun q e => by have := hrow q e; omega))
          clear hrow hg9 hp9
          have OM := Lib.hid (show OwnV 27 wa39 NB u3 (G3 ++ G2) from ho9)
          clear ho9
          have hlG4 : (G3 ++ G2).length ≤ 81 := by simp only [List.length_append]; omega
          generalize hG4 : G3 ++ G2 = G4 at *
          obtain ⟨a3, c3, rfl⟩ := OM.out.slice
          refine hK.out _ _ ⟨SX.out.cell 0 (v := .int .i64 f) rfl, SX.out.cell 1 (v := .slice va g.length vc) rfl, SV.out.cell 0 (v := .int .i64 ur) rfl, SV.out.cell 1 (v := .int .i64 ua) rfl, SV.out.cell 2 (v := .int .i64 ud) rfl⟩ (fun hH => ?_)
          clear hK K
          try simp only [Act.put, List.setIfInBounds_toArray, List.set_cons_zero, List.set_cons_succ]
          refine takeH 14 (v := ?vt110) rfl (by kernel_rfl) (by kernel_rfl) (by kernel_rfl) (fun _ _ _ h => h) hH rfl ?yt110 ?rt110
          case yt110 => intro W hSw; go_simp; try with_reducible rfl
          try simp only [Act.put, List.setIfInBounds_toArray, List.set_cons_zero, List.set_cons_succ]
          have cO_0 := SO.out.cell 0 (v := .int .i64 f) rfl
          have cO_1 := SO.out.cell 1 (v := .slice al g.length cl) rfl
          have fO_0 := SO.out.frozen 0
          have fO_1 := SO.out.frozen 1
          refine callH 15 rfl (by kernel_rfl) rfl (fun K hK => ?_)
          go_simp
          clear cO_0 cO_1 fO_0 fO_1
          have SX := Lib.hid (show Str (wa39.setCell ⟨OB, 1, none⟩ (.slice a3 G4.length c3)) (w.heap.size) 25 #[.int .i64 f, .slice va g.length vc] from ((SX.out).other (by omega) _ _))
          have SV := Lib.hid (show Str (wa39.setCell ⟨OB, 1, none⟩ (.slice a3 G4.length c3)) (w.heap.size + 1) 27 #[.int .i64 ur, .int .i64 ua, .int .i64 ud] from ((SV.out).other (by omega) _ _))
          have SR := Lib.hid (show Str (wa39.setCell ⟨OB, 1, none⟩ (.slice a3 G4.length c3)) (w.heap.size + 2) 25 #[.int .i64 0, .slice none 0 0] from ((SR.out).other (by omega) _ _))
          have SO := Lib.hid (show Str (wa39.setCell ⟨OB, 1, none⟩ (.slice a3 G4.length c3)) (OB) 25 #[.int .i64 f, .slice a3 G4.length c3] from ((SO.out).set 1 (.slice a3 G4.length c3)))
          have OM := Lib.hid (show OwnV 27 (wa39.setCell ⟨OB, 1, none⟩ (.slice a3 G4.length c3)) (NB) ((Value.slice a3 G4.length c3)) (G4) from OM.out.kept fun q e => by have h1 := OM.out.lt q e; exact set1 (by simpa using h1.2) (by omega))
          have Hb := Lib.hid (show Below w.heap.size w (wa39.setCell ⟨OB, 1, none⟩ (.slice a3 G4.length c3)) from ((Hb.out).setCell (p := ⟨OB, 1, none⟩) (by simp only; omega) _))
          have hzw10 : (wa39.setCell ⟨OB, 1, none⟩ (.slice a3 G4.length c3)).heap.size = wa39.heap.size := by simp
          refine hK.out _ _ ⟨SX.out.cell 0 (v := .int .i64 f) rfl, SX.out.cell 1 (v := .slice va g.length vc) rfl, SV.out.cell 0 (v := .int .i64 ur) rfl, SV.out.cell 1 (v := .int .i64 ua) rfl, SV.out.cell 2 (v := .int .i64 ud) rfl⟩ (fun hH => ?_)
          clear hK K
          generalize (wa39.setCell ⟨OB, 1, none⟩ (.slice a3 G4.length c3)) = w10 at *
          refine wpAnyH_done (by kernel_rfl) ?_ _
          clear hH
          try simp only [Act.put]
          have cO_0 := SO.out.cell 0 (v := .int .i64 f) rfl
          have cO_1 := SO.out.cell 1 (v := .slice a3 G4.length c3) rfl
          have cR_0 := SR.out.cell 0 (v := .int .i64 0) rfl
          have cR_1 := SR.out.cell 1 (v := .slice none 0 0) rfl
          have fR_0 := SR.out.frozen 0
          have fR_1 := SR.out.frozen 1
          have sF := (SR.out.set 0 (.int .i64 f)).set 1 (.slice a3 G4.length c3)
          have e0 := sF.cell 0 (v := .int .i64 f) rfl
          have e1 := sF.cell 1 (v := .slice a3 G4.length c3) rfl
          clear sF
          go_wp2
          refine bodyPost_ret (v := .tuple #[.agg #[.int .i64 f, .slice a3 G4.length c3], .bool true]) (by simp [results, Try.f38, go_sem, e0, e1]) rfl ?_
          clear cO_0 cO_1 cR_0 cR_1 fR_0 fR_1
          have SX := Lib.hid (show Str ((w10.setCell ⟨w.heap.size + 2, 0, none⟩ (.int .i64 f)).setCell ⟨w.heap.size + 2, 1, none⟩ (.slice a3 G4.length c3)) (w.heap.size) 25 #[.int .i64 f, .slice va g.length vc] from ((((SX.out).other (by omega) _ _)).other (by omega) _ _))
          have SV := Lib.hid (show Str ((w10.setCell ⟨w.heap.size + 2, 0, none⟩ (.int .i64 f)).setCell ⟨w.heap.size + 2, 1, none⟩ (.slice a3 G4.length c3)) (w.heap.size + 1) 27 #[.int .i64 ur, .int .i64 ua, .int .i64 ud] from ((((SV.out).other (by omega) _ _)).other (by omega) _ _))
          have SO := Lib.hid (show Str ((w10.setCell ⟨w.heap.size + 2, 0, none⟩ (.int .i64 f)).setCell ⟨w.heap.size + 2, 1, none⟩ (.slice a3 G4.length c3)) (OB) 25 #[.int .i64 f, .slice a3 G4.length c3] from ((((SO.out).other (by omega) _ _)).other (by omega) _ _))
          have SR := Lib.hid (show Str ((w10.setCell ⟨w.heap.size + 2, 0, none⟩ (.int .i64 f)).setCell ⟨w.heap.size + 2, 1, none⟩ (.slice a3 G4.length c3)) (w.heap.size + 2) 25 #[.int .i64 f, .slice a3 G4.length c3] from ((((SR.out).set 0 (.int .i64 f))).set 1 (.slice a3 G4.length c3)))
          have OM := Lib.hid (show OwnV 27 ((w10.setCell ⟨w.heap.size + 2, 0, none⟩ (.int .i64 f)).setCell ⟨w.heap.size + 2, 1, none⟩ (.slice a3 G4.length c3)) (NB) ((Value.slice a3 G4.length c3)) (G4) from OM.out.kept fun q e => by have h1 := OM.out.lt q e; exact set2 (by simpa using h1.2) (by omega))
          have Hb := Lib.hid (show Below w.heap.size w ((w10.setCell ⟨w.heap.size + 2, 0, none⟩ (.int .i64 f)).setCell ⟨w.heap.size + 2, 1, none⟩ (.slice a3 G4.length c3)) from ((((Hb.out).setCell (p := ⟨w.heap.size + 2, 0, none⟩) (by simp only; omega) _)).setCell (p := ⟨w.heap.size + 2, 1, none⟩) (by simp only; omega) _))
          have hzw11 : ((w10.setCell ⟨w.heap.size + 2, 0, none⟩ (.int .i64 f)).setCell ⟨w.heap.size + 2, 1, none⟩ (.slice a3 G4.length c3)).heap.size = w10.heap.size := by simp
          have hE : G4 = signG f g ⟨ur, ua, ud⟩ := by rw [S1.out, ← hG4, ← hG3]; simp
          exact ⟨.slice a3 G4.length c3, by rw [S3.out], by rw [← hE]; exact OwnR.from (OM.out.ownR (Nat.le_refl _)) (by omega), Hb.out⟩

end Go.Proofs.Ytgpbogalknmcmaa
