/- The exact law of SlotsPrefix holds at every argument; no conditions of our own. -/
import Derived.Test.YtjaacdapibokiabRows
import Derived.Test.YtjaacdapibokiabBu0
import Derived.Test.YtjaacdapibokiabBu1
namespace Go.Proofs.Ytjaacdapibokiab
open Go.ChangeShapes Go.WideShapes Go.ChangeAt Go.RowKit

set_option maxHeartbeats 2000000 in
theorem fnExactSlotsPrefix_walk (va : Value) (esa : List (List Fd)) (fpa : List Nat) (vb : Value) (esb : List (List Fd)) (fpb : List Nat) (w : World) (hra : Rd w (rowsD esa) va fpa) (hma : esa.length ≤ maxLen) (hpa : ∀ e ∈ esa, slotP e ∧ fitE e) (hrb : Rd w (rowsD esb) vb fpb) (hmb : esb.length ≤ maxLen) (hpb : ∀ e ∈ esb, slotP e ∧ fitE e) :
    Calls Try.prog 4 #[va, vb] w fun e w' => e = .returned (.bool true) ∧ Below w.heap.size w w' := by
  unfold maxLen at hma
  unfold maxLen at hmb
  have Hra := Lib.hid hra; clear hra
  have hpa1 : ∀ e ∈ esa, slotP e := fun e he => (hpa e he).1
  have Hfa := Lib.hid (fun e he => (hpa e he).2); clear hpa
  have Hrb := Lib.hid hrb; clear hrb
  have hpb1 : ∀ e ∈ esb, slotP e := fun e he => (hpb e he).1
  have Hfb := Lib.hid (fun e he => (hpb e he).2); clear hpb
  have Hb0 := Lib.hid (Below.refl w.heap.size w)
  have Hsza := Lib.hid (fun w (hr : Rd w (rowsD esa) va fpa) => laws_szSlotSR esa va fpa (1048576) w (by omega) (by omega) hpa1 hr)
  go_enter Try.func4, Try.ntmps4
  go_wp2_with fail
  refine (Hsza.out _ (Hra.out.under Hb0.out)).mono ?_
  rintro e w1 ⟨rfl, hb1⟩
  have Hb1 := Lib.hid (below_step Hb0.out Hb0.out.size hb1)
  have hz1 := (hb1).size
  have hkla := kTo_bd (slotP_len hpa1) 1 esa.length (Nat.le_refl _)
  clear hkla
  by_cases hla : esa.length + lnTo esa esa.length ≤ 1048576
  case neg =>
    rw [if_neg hla]
    go_wp2
    go_ret
    exact ⟨rfl, Hb1.out⟩
  rw [if_pos hla]
  have hnega : decide ((((1048576 - esa.length - lnTo esa esa.length : Nat)) : Int) < 0) = false := decide_eq_false (by omega)
  have hngea : ¬ (((1048576 - esa.length - lnTo esa esa.length : Nat) : Int) < 0) := by omega
  have hina := lnTo_in (es := esa) (m := 1048576) (by omega)
  have hkba := fun k => kTo_bd (slotP_len hpa1) k esa.length (Nat.le_refl _)
  have Hlna := Lib.hid (show ∀ e ∈ esa, lnE e ≤ 1099511627776 from fun e he => Nat.le_trans (hina e he) (by omega))
  have Hszb := Lib.hid (fun w (hr : Rd w (rowsD esb) vb fpb) => laws_szSlotSR esb vb fpb (1048576 - esa.length - lnTo esa esa.length) w (by omega) (by omega) hpb1 hr)
  go_wp2_with fail
  refine (Hszb.out _ (Hrb.out.under Hb1.out)).mono ?_
  rintro e w2 ⟨rfl, hb2⟩
  have Hb2 := Lib.hid (below_step Hb1.out Hb1.out.size hb2)
  have hz2 := (hb2).size
  have hklb := kTo_bd (slotP_len hpb1) 1 esb.length (Nat.le_refl _)
  clear hklb
  by_cases hlb : esb.length + lnTo esb esb.length ≤ 1048576 - esa.length - lnTo esa esa.length
  case neg =>
    rw [if_neg hlb]
    go_wp2
    go_ret
    exact ⟨rfl, Hb2.out⟩
  rw [if_pos hlb]
  have hnegb : decide ((((1048576 - esa.length - lnTo esa esa.length - esb.length - lnTo esb esb.length : Nat)) : Int) < 0) = false := decide_eq_false (by omega)
  have hngeb : ¬ (((1048576 - esa.length - lnTo esa esa.length - esb.length - lnTo esb esb.length : Nat) : Int) < 0) := by omega
  have hinb := lnTo_in (es := esb) (m := 1048576) (by omega)
  have hkbb := fun k => kTo_bd (slotP_len hpb1) k esb.length (Nat.le_refl _)
  have Hlnb := Lib.hid (show ∀ e ∈ esb, lnE e ≤ 1099511627776 from fun e he => Nat.le_trans (hinb e he) (by omega))
  obtain ⟨a, rfl⟩ := rows_sl hpa1
  have hLa : (a.map slF).length = a.length := by simp
  obtain ⟨b, rfl⟩ := rows_sl hpb1
  have hLb : (b.map slF).length = b.length := by simp
  have Hspec := Lib.hid (fun va fa vb fb w (h : Rd w (rowsD (a.map slF)) va fa) (h' : Rd w (rowsD (b.map slF)) vb fb) => sp_spec (by omega) (by omega) h h')
  have Himpl := Lib.hid (fun va fa vb fb w (h : Rd w (rowsD (a.map slF)) va fa) (h' : Rd w (rowsD (b.map slF)) vb fb) => sp_impl (by omega) (by omega) h h')
  generalize decide (a <+: b) = ok at *
  clear hLa hLb
  generalize a.map slF = esa at *
  generalize b.map slF = esb at *
  have Hina := Lib.hid hina; clear hina
  have Hkba := Lib.hid hkba; clear hkba
  have Hpa := Lib.hid hpa1; clear hpa1
  have Hinb := Lib.hid hinb; clear hinb
  have Hkbb := Lib.hid hkbb; clear hkbb
  have Hpb := Lib.hid hpb1; clear hpb1
  go_wp2_with fail
  refine (laws_toSlotSR esa va fpa _ (by omega) Hpa.out Hina.out (Hra.out.under Hb2.out)).mono ?_
  rintro e w3 ⟨vas, rfl, hoas, hb3⟩
  have Hb3 := Lib.hid (below_step Hb2.out Hb2.out.size hb3)
  have hz3 := (hb3).size
  have Has := Lib.hid hoas; clear hoas
  have hhas : w2.heap.size ≤ w2.heap.size := Nat.le_refl _
  have hjas : w3.heap.size ≤ w3.heap.size := Nat.le_refl _
  go_wp2_with fail
  refine (laws_toSlotSR esb vb fpb _ (by omega) Hpb.out Hinb.out (Hrb.out.under Hb3.out)).mono ?_
  rintro e w4 ⟨vbs, rfl, hobs, hb4⟩
  have Hb4 := Lib.hid (below_step Hb3.out Hb3.out.size hb4)
  have Has := Lib.hid (Has.out.below hb4 (by omega))
  have hz4 := (hb4).size
  have Hbs := Lib.hid hobs; clear hobs
  have hhbs : w3.heap.size ≤ w3.heap.size := Nat.le_refl _
  have hjbs : w4.heap.size ≤ w4.heap.size := Nat.le_refl _
  obtain ⟨fas, hras⟩ := Has.out.reads
  obtain ⟨fbs, hrbs⟩ := Hbs.out.reads
  go_wp2_with fail
  refine (Hspec.out vas fas vbs fbs _ hras hrbs).mono ?_
  rintro e w5 ⟨rfl, hb5⟩
  have Hb5 := Lib.hid (below_step Hb4.out Hb4.out.size hb5)
  have Has := Lib.hid (Has.out.below hb5 (by omega))
  have Hbs := Lib.hid (Hbs.out.below hb5 (by omega))
  have hz5 := (hb5).size
  clear hras hrbs
  clear Has
  clear Hbs
  go_wp2_with fail
  refine (laws_toSlotSR esa va fpa _ (by omega) Hpa.out Hina.out (Hra.out.under Hb5.out)).mono ?_
  rintro e w6 ⟨vax, rfl, hoax, hb6⟩
  have Hb6 := Lib.hid (below_step Hb5.out Hb5.out.size hb6)
  have hz6 := (hb6).size
  have Hax := Lib.hid hoax; clear hoax
  have hhax : w5.heap.size ≤ w5.heap.size := Nat.le_refl _
  have hjax : w6.heap.size ≤ w6.heap.size := Nat.le_refl _
  go_wp2_with fail
  refine (laws_toSlotSR esb vb fpb _ (by omega) Hpb.out Hinb.out (Hrb.out.under Hb6.out)).mono ?_
  rintro e w7 ⟨vbx, rfl, hobx, hb7⟩
  have Hb7 := Lib.hid (below_step Hb6.out Hb6.out.size hb7)
  have Hax := Lib.hid (Hax.out.below hb7 (by omega))
  have hz7 := (hb7).size
  have Hbx := Lib.hid hobx; clear hobx
  have hhbx : w6.heap.size ≤ w6.heap.size := Nat.le_refl _
  have hjbx : w7.heap.size ≤ w7.heap.size := Nat.le_refl _
  obtain ⟨fax, hrax⟩ := Hax.out.reads
  obtain ⟨fbx, hrbx⟩ := Hbx.out.reads
  go_wp2_with fail
  refine (Himpl.out vax fax vbx fbx _ hrax hrbx).mono ?_
  rintro e w8 ⟨rfl, hb8⟩
  have Hb8 := Lib.hid (below_step Hb7.out Hb7.out.size hb8)
  have Hax := Lib.hid (Hax.out.below hb8 (by omega))
  have Hbx := Lib.hid (Hbx.out.below hb8 (by omega))
  have hz8 := (hb8).size
  clear hrax hrbx
  go_wp2_with fail
  refine (laws_toSlotSR esa va fpa _ (by omega) Hpa.out Hina.out (Hra.out.under Hb8.out)).mono ?_
  rintro e w9 ⟨vay, rfl, hoay, hb9⟩
  have Hb9 := Lib.hid (below_step Hb8.out Hb8.out.size hb9)
  have Hax := Lib.hid (Hax.out.below hb9 (by omega))
  have Hbx := Lib.hid (Hbx.out.below hb9 (by omega))
  have hz9 := (hb9).size
  have Hay := Lib.hid hoay; clear hoay
  have hhay : w8.heap.size ≤ w8.heap.size := Nat.le_refl _
  have hjay : w9.heap.size ≤ w9.heap.size := Nat.le_refl _
  obtain ⟨fax, hrax⟩ := Hax.out.reads
  obtain ⟨fay, hray⟩ := Hay.out.reads
  go_wp2_with fail
  refine (laws_eqSlotSR esa _ _ fax fay w9 (by omega) Hpa.out Hlna.out hrax hray).mono ?_
  rintro e w10 ⟨rfl, hb10⟩
  have Hb10 := Lib.hid (below_step Hb9.out Hb9.out.size hb10)
  have Hax := Lib.hid (Hax.out.below hb10 (by omega))
  have Hbx := Lib.hid (Hbx.out.below hb10 (by omega))
  have Hay := Lib.hid (Hay.out.below hb10 (by omega))
  have hz10 := (hb10).size
  clear hrax hray
  clear Hay
  go_wp2_with fail
  refine (laws_toSlotSR esb vb fpb _ (by omega) Hpb.out Hinb.out (Hrb.out.under Hb10.out)).mono ?_
  rintro e w11 ⟨vby, rfl, hoby, hb11⟩
  have Hb11 := Lib.hid (below_step Hb10.out Hb10.out.size hb11)
  have Hax := Lib.hid (Hax.out.below hb11 (by omega))
  have Hbx := Lib.hid (Hbx.out.below hb11 (by omega))
  have hz11 := (hb11).size
  have Hby := Lib.hid hoby; clear hoby
  have hhby : w10.heap.size ≤ w10.heap.size := Nat.le_refl _
  have hjby : w11.heap.size ≤ w11.heap.size := Nat.le_refl _
  obtain ⟨fbx, hrbx⟩ := Hbx.out.reads
  obtain ⟨fby, hrby⟩ := Hby.out.reads
  go_wp2_with fail
  refine (laws_eqSlotSR esb _ _ fbx fby w11 (by omega) Hpb.out Hlnb.out hrbx hrby).mono ?_
  rintro e w12 ⟨rfl, hb12⟩
  have Hb12 := Lib.hid (below_step Hb11.out Hb11.out.size hb12)
  have Hax := Lib.hid (Hax.out.below hb12 (by omega))
  have Hbx := Lib.hid (Hbx.out.below hb12 (by omega))
  have Hby := Lib.hid (Hby.out.below hb12 (by omega))
  have hz12 := (hb12).size
  clear hrbx hrby
  clear Hby
  go_wp2
  go_ret
  exact ⟨by first | rfl | exact ret_bool (by simp), Hb12.out⟩

theorem fnExactSlotsPrefix_own : ownKnob Try.prog.godebug = none := by kernel_rfl
theorem fnExactSlotsPrefix_laidOut : laidOutB Try.prog = true := by kernel_rfl

set_option maxRecDepth 8000 in
theorem fnExactSlotsPrefix_lifted (os : Os) (started : os.Started) (H : Type) (enc : TypeId × Value → H) :
    ReturnsInHanded {} Try.checked os 4 .any (Rows.fnExactSlotsPrefixSpec.pre6 enc Try.prog Try.f4 Rows.fnExactSlotsPrefixRow.domain false) (Rows.fnExactSlotsPrefixSpec.post enc Try.prog Try.f4 false true false false) := by
  refine law_lifted (C := Try.checked) (tb := 4) fnExactSlotsPrefix_own fnExactSlotsPrefix_laidOut started (by kernel_rfl) Try.func4 rfl Try.underlying4 rfl (by rw [Try.params4]; exact of_decide_eq_true (by kernel_rfl)) ?_
    (ChangeSpec.witness6 (enc := enc) (C := Try.checked) false ⟨#[], #[.slice none 0 0, .slice none 0 0], []⟩ 8 (by kernel_rfl) (by kernel_rfl) (by kernel_rfl) (by kernel_rfl)) ?_
  · intro ds hds
    rw [Try.params4] at hds
    match ds, hds with
    | [d0, d1], _ => rfl
  · intro W base args ds p hval0 hA0
    have hval : ∀ (j : Nat) t v, Try.f4.params[j]? = some t → args[j]? = some v → Value.okWide Try.prog W .any base t v := hval0
    have hA : DataW.TrodAll enc Try.prog W 0 (fun _ => true) true Try.f4.params.toList args.toList ds p := hA0
    rw [Try.params4] at hA hval
    obtain ⟨v0, vs0, d0, ds0, p0, q0, hargs0, rfl, rfl, h0, r0⟩ := trodAll_cons hA
    obtain ⟨v1, vs1, d1, ds1, p1, q1, hargs1, rfl, rfl, h1, r1⟩ := trodAll_cons r0
    obtain ⟨hnil, rfl, rfl⟩ := trodAll_nil r1
    subst hnil
    subst hargs1
    obtain rfl : args = #[v0, v1] := by cases args; simp_all
    obtain ⟨es0, fp0, hr0, hm0, hp0⟩ := open_SlotS (hval 0 28 v0 rfl rfl) h0
    obtain ⟨es1, fp1, hr1, hm1, hp1⟩ := open_SlotS (hval 1 28 v1 rfl rfl) h1
    exact fnExactSlotsPrefix_walk v0 es0 fp0 v1 es1 fp1 W hr0 hm0 hp0 hr1 hm1 hp1

set_option maxRecDepth 8000 in
theorem fnExactSlotsPrefix_holds : Rows.FnExactSlotsPrefixSaid :=
  OpenClaim.holds_of_wide 4 Try.f4 rfl rfl rfl rfl rfl rfl rfl ⟨rfl, rfl, rfl, rfl, rfl⟩ rfl rfl rfl rfl rfl (by kernel_rfl) Try.func4 (by kernel_rfl)
    (of_decide_eq_true (by kernel_rfl)) (by unfold Func.isWrapper; first | (rw [if_pos (by decide +kernel)]; kernel_rfl) | (rw [if_neg (by decide +kernel)]; exact ⟨rfl, rfl⟩))
    (fun os started H enc _ => fnExactSlotsPrefix_lifted os started H enc)

end Go.Proofs.Ytjaacdapibokiab
