/- Law FnStoreForget holds for every input; no conditions of our own. -/
import Derived.Test.YthojbcecbeapgaaRows
import Derived.Test.YthojbcecbeapgaaBu0
import Derived.Test.YthojbcecbeapgaaBu1
import Derived.Test.YthojbcecbeapgaaBu2
import Derived.Test.YthojbcecbeapgaaBu3
import Derived.Test.YthojbcecbeapgaaBu4
import Derived.Deep.QuietTactic
import Derived.BigQuiet
namespace Go.Proofs.Ythojbcecbeapgaa
open Go.ChangeShapes Go.WideShapes Go.ChangeAt Go.RowKit

set_option maxHeartbeats 4000000 in
theorem fnStoreForget_walk (a : Option Addr) (cap : Nat) (zs : List Int) (w : World) (hk : zs.length ≤ cap) (_hm : zs.length ≤ maxLen) (hi : zs = [] ∨ ∃ b off, a = some ⟨b, off, none⟩ ∧ b < w.heap.size ∧ ∀ j (h : j < zs.length), w.cell? ⟨b, off + j, none⟩ = some (.int .u8 zs[j])) (hw : ∀ z ∈ zs, (Lit.int .u8 z).wf = true) :
    Calls Try.prog 7 #[.slice a zs.length cap] w fun e w' => e = .returned (.bool true) ∧ Below w.heap.size w w' := by
  by_cases hl : 1048576 < zs.length
  · go_enter Try.func7, Try.ntmps7
    go_wp2
    go_ret
    exact ⟨rfl, Below.refl _ _⟩
  have hcode := codeAt_of hk (by omega) hi hw
  have Hcode := Lib.hid hcode; clear hcode hi hw
  go_enter Try.func7, Try.ntmps7
  go_wp2_with fail
  refine (spec_DrawStoreForget a cap zs _ Hcode.out).mono ?_
  rintro e w1 ⟨f, l, ux, x, rfl, ho, hl13, hb1⟩
  obtain ⟨ax, cx, rfl, _⟩ := OwnB.sl (l := l) ho
  obtain ⟨fx, hx⟩ := OwnB.bts (l := l) ho
  have Tx := Lib.hid hx
  have Hb := Lib.hid hb1
  clear ho hx hb1
  have hal : Below w1.heap.size w1 (w1.alloc (.cells #[.int .i64 f, .slice ax l.length cx] 25)) := (Below.refl _ _).alloc (Nat.le_refl _) _
  have Tx := Lib.hid (show Bts (w1.alloc (.cells #[.int .i64 f, .slice ax l.length cx] 25)) l (.slice ax l.length cx) fx from Tx.out.under hal)
  have Sx := Lib.hid (Str.new w1 25 #[.int .i64 f, .slice ax l.length cx])
  have Hb := Lib.hid (below_step Hb.out Hb.out.size hal)
  clear hal
  obtain ⟨C, hC⟩ : ∃ C, C = foB f l x := ⟨_, rfl⟩
  obtain ⟨G, hG⟩ : ∃ G, G = foL f l x := ⟨_, rfl⟩
  obtain ⟨F, hF⟩ : ∃ F, F = foF f l x := ⟨_, rfl⟩
  have hGl := foL_len f l x
  rw [← hG] at hGl
  have HI := Lib.hid (fun W (h : Bts W l (.slice ax l.length cx) fx) => impl_StoreForget f l _ fx x W (by omega) h)
  have HS := Lib.hid (fun W (h : Bts W l (.slice ax l.length cx) fx) => spec_StoreForget f l _ fx x W (by omega) h)
  unfold FoP at HI
  unfold SfP at HS
  rw [← hC, ← hG, ← hF] at HI HS
  have HC := Lib.hid hC; have HG := Lib.hid hG; have HF := Lib.hid hF
  clear hC hG hF
  have cx_0 := Sx.out.cell 0 (v := .int .i64 f) rfl
  have cx_1 := Sx.out.cell 1 (v := .slice ax l.length cx) rfl
  go_wp2_with fail
  generalize (w1.alloc (.cells #[.int .i64 f, .slice ax l.length cx] 25)) = W2 at *
  clear cx_0 cx_1
  refine (HI.out _ Tx.out).mono ?_
  rintro e w3 ⟨vo, rfl, ho, hb⟩
  obtain ⟨ao, co, rfl, _⟩ := OwnB.sl (l := G) ho
  obtain ⟨fo, hT⟩ := OwnB.bts (l := G) ho
  clear ho
  have Tx := Lib.hid (show Bts w3 l (.slice ax l.length cx) fx from Tx.out.under hb)
  have Sx := Lib.hid (show Str w3 (w1.heap.size) 25 #[.int .i64 f, .slice ax l.length cx] from (hb.block _ Sx.out.lt).trans Sx.out)
  have hsw3 := hb.size
  have Hb := Lib.hid (below_step Hb.out Hb.out.size hb)
  have To := Lib.hid hT
  clear hT hb
  have hal : Below w3.heap.size w3 (w3.alloc (.cells #[.int .i64 F, .slice ao G.length co] 25)) := (Below.refl _ _).alloc (Nat.le_refl _) _
  have Tx := Lib.hid (show Bts (w3.alloc (.cells #[.int .i64 F, .slice ao G.length co] 25)) l (.slice ax l.length cx) fx from Tx.out.under hal)
  have To := Lib.hid (show Bts (w3.alloc (.cells #[.int .i64 F, .slice ao G.length co] 25)) G (.slice ao G.length co) fo from To.out.under hal)
  have Sx := Lib.hid (show Str (w3.alloc (.cells #[.int .i64 F, .slice ao G.length co] 25)) (w1.heap.size) 25 #[.int .i64 f, .slice ax l.length cx] from Sx.out.alloc _)
  have So := Lib.hid (Str.new w3 25 #[.int .i64 F, .slice ao G.length co])
  have Hb := Lib.hid (below_step Hb.out Hb.out.size hal)
  clear hal
  have cx_0 := Sx.out.cell 0 (v := .int .i64 f) rfl
  have cx_1 := Sx.out.cell 1 (v := .slice ax l.length cx) rfl
  have co_0 := So.out.cell 0 (v := .int .i64 F) rfl
  have co_1 := So.out.cell 1 (v := .slice ao G.length co) rfl
  go_wp2_with fail
  generalize (w3.alloc (.cells #[.int .i64 F, .slice ao G.length co] 25)) = W4 at *
  clear cx_0 cx_1 co_0 co_1
  refine (HS.out _ Tx.out).mono ?_
  rintro e w5 ⟨vk, rfl, ho, hb⟩
  obtain ⟨ak, ck, rfl, _⟩ := OwnB.sl (l := G) ho
  obtain ⟨fk, hT⟩ := OwnB.bts (l := G) ho
  clear ho
  have Tx := Lib.hid (show Bts w5 l (.slice ax l.length cx) fx from Tx.out.under hb)
  have To := Lib.hid (show Bts w5 G (.slice ao G.length co) fo from To.out.under hb)
  have Sx := Lib.hid (show Str w5 (w1.heap.size) 25 #[.int .i64 f, .slice ax l.length cx] from (hb.block _ Sx.out.lt).trans Sx.out)
  have So := Lib.hid (show Str w5 (w3.heap.size) 25 #[.int .i64 F, .slice ao G.length co] from (hb.block _ So.out.lt).trans So.out)
  have hsw5 := hb.size
  have Hb := Lib.hid (below_step Hb.out Hb.out.size hb)
  have Tk := Lib.hid hT
  clear hT hb
  have hal : Below w5.heap.size w5 (w5.alloc (.cells #[.int .i64 F, .slice ak G.length ck] 25)) := (Below.refl _ _).alloc (Nat.le_refl _) _
  have Tx := Lib.hid (show Bts (w5.alloc (.cells #[.int .i64 F, .slice ak G.length ck] 25)) l (.slice ax l.length cx) fx from Tx.out.under hal)
  have To := Lib.hid (show Bts (w5.alloc (.cells #[.int .i64 F, .slice ak G.length ck] 25)) G (.slice ao G.length co) fo from To.out.under hal)
  have Tk := Lib.hid (show Bts (w5.alloc (.cells #[.int .i64 F, .slice ak G.length ck] 25)) G (.slice ak G.length ck) fk from Tk.out.under hal)
  have Sx := Lib.hid (show Str (w5.alloc (.cells #[.int .i64 F, .slice ak G.length ck] 25)) (w1.heap.size) 25 #[.int .i64 f, .slice ax l.length cx] from Sx.out.alloc _)
  have So := Lib.hid (show Str (w5.alloc (.cells #[.int .i64 F, .slice ak G.length ck] 25)) (w3.heap.size) 25 #[.int .i64 F, .slice ao G.length co] from So.out.alloc _)
  have Sk := Lib.hid (Str.new w5 25 #[.int .i64 F, .slice ak G.length ck])
  have Hb := Lib.hid (below_step Hb.out Hb.out.size hal)
  clear hal
  clear HI HS
  have hcc : (C != C) = false := by simp
  have hce : (C == C) = true := by simp
  have cx_0 := Sx.out.cell 0 (v := .int .i64 f) rfl
  have cx_1 := Sx.out.cell 1 (v := .slice ax l.length cx) rfl
  have co_0 := So.out.cell 0 (v := .int .i64 F) rfl
  have co_1 := So.out.cell 1 (v := .slice ao G.length co) rfl
  have ck_0 := Sk.out.cell 0 (v := .int .i64 F) rfl
  have ck_1 := Sk.out.cell 1 (v := .slice ak G.length ck) rfl
  go_wp2_with fail
  generalize (w5.alloc (.cells #[.int .i64 F, .slice ak G.length ck] 25)) = W6 at *
  clear cx_0 cx_1 co_0 co_1 ck_0 ck_1
  refine (laws_sameStore F F G G _ _ fo fk _ (by omega) (by omega) To.out Tk.out).mono ?_
  rintro e w7 ⟨rfl, hb⟩
  rw [decide_eq_true (show F = F ∧ G = G from ⟨rfl, rfl⟩)]
  have Tx := Lib.hid (show Bts w7 l (.slice ax l.length cx) fx from Tx.out.under hb)
  have To := Lib.hid (show Bts w7 G (.slice ao G.length co) fo from To.out.under hb)
  have Tk := Lib.hid (show Bts w7 G (.slice ak G.length ck) fk from Tk.out.under hb)
  have Sx := Lib.hid (show Str w7 (w1.heap.size) 25 #[.int .i64 f, .slice ax l.length cx] from (hb.block _ Sx.out.lt).trans Sx.out)
  have So := Lib.hid (show Str w7 (w3.heap.size) 25 #[.int .i64 F, .slice ao G.length co] from (hb.block _ So.out.lt).trans So.out)
  have Sk := Lib.hid (show Str w7 (w5.heap.size) 25 #[.int .i64 F, .slice ak G.length ck] from (hb.block _ Sk.out.lt).trans Sk.out)
  have hsw7 := hb.size
  have Hb := Lib.hid (below_step Hb.out Hb.out.size hb)
  clear hb
  cases hCb : C with
  | false =>
    rw [hCb] at hcc hce
    have cx_0 := Sx.out.cell 0 (v := .int .i64 f) rfl
    have cx_1 := Sx.out.cell 1 (v := .slice ax l.length cx) rfl
    have co_0 := So.out.cell 0 (v := .int .i64 F) rfl
    have co_1 := So.out.cell 1 (v := .slice ao G.length co) rfl
    have ck_0 := Sk.out.cell 0 (v := .int .i64 F) rfl
    have ck_1 := Sk.out.cell 1 (v := .slice ak G.length ck) rfl
    go_wp2_with fail
    clear cx_0 cx_1 co_0 co_1 ck_0 ck_1
    refine (laws_sameStore F F G G _ _ fo fk _ (by omega) (by omega) To.out Tk.out).mono ?_
    rintro e w8 ⟨rfl, hb⟩
    rw [decide_eq_true (show F = F ∧ G = G from ⟨rfl, rfl⟩)]
    have Tx := Lib.hid (show Bts w8 l (.slice ax l.length cx) fx from Tx.out.under hb)
    have To := Lib.hid (show Bts w8 G (.slice ao G.length co) fo from To.out.under hb)
    have Tk := Lib.hid (show Bts w8 G (.slice ak G.length ck) fk from Tk.out.under hb)
    have Sx := Lib.hid (show Str w8 (w1.heap.size) 25 #[.int .i64 f, .slice ax l.length cx] from (hb.block _ Sx.out.lt).trans Sx.out)
    have So := Lib.hid (show Str w8 (w3.heap.size) 25 #[.int .i64 F, .slice ao G.length co] from (hb.block _ So.out.lt).trans So.out)
    have Sk := Lib.hid (show Str w8 (w5.heap.size) 25 #[.int .i64 F, .slice ak G.length ck] from (hb.block _ Sk.out.lt).trans Sk.out)
    have hsw8 := hb.size
    have Hb := Lib.hid (below_step Hb.out Hb.out.size hb)
    clear hb
    go_wp2
    go_ret
    exact ⟨by first | rfl | exact ret_bool (by simp) | exact ret_bool (by simp; omega), Hb.out⟩
  | true =>
  have Hfo := Lib.hid (show foB f l x = true by rw [← HC.out]; exact hCb)
  have Hgf := Lib.hid (show G = fgL l x ∧ F = x by rw [HG.out, HF.out]; exact fo_yes Hfo.out)
  have hFx : F = x := Hgf.out.2
  subst hFx
  clear hcc hce hCb
  clear Tk
  clear Sk
  obtain ⟨hv, hkep⟩ := p99 Hfo.out
  rw [← Hgf.out.1] at hv hkep
  have Hkep := Lib.hid hkep
  have hGll : G.length ≤ l.length := by rw [Hgf.out.1]; exact fg_len _ _
  have HGt := Lib.hid (fun W d (h : Bts W G (.slice ao G.length co) fo) => impl_StoreGet F G _ fo d W (by omega) h)
  have HVd := Lib.hid (fun W (h : Bts W G (.slice ao G.length co) fo) => impl_StoreValid F G _ fo W (by omega) h)
  rw [hv] at HVd
  unfold agB at HGt
  clear hv hkep
  have cx_0 := Sx.out.cell 0 (v := .int .i64 f) rfl
  have cx_1 := Sx.out.cell 1 (v := .slice ax l.length cx) rfl
  have co_0 := So.out.cell 0 (v := .int .i64 F) rfl
  have co_1 := So.out.cell 1 (v := .slice ao G.length co) rfl
  go_wp2
  clear cx_0 cx_1 co_0 co_1
  go_loopw [9] (fun i wr => ∃ k : Nat, k ≤ l.length ∧ i = .int .i64 k ∧ Below w7.heap.size w7 wr) (fun i _ => l.length - (intOf i).toNat)
  case atStart => exact ⟨0, by omega, rfl, Below.refl _ _⟩
  case round =>
    obtain ⟨k, hk, rfl, hb⟩ := hrel
    have HW0 := Lib.hid hb
    have Tx := Lib.hid (show Bts wr l (.slice ax l.length cx) fx from Tx.out.under hb)
    have To := Lib.hid (show Bts wr G (.slice ao G.length co) fo from To.out.under hb)
    have Sx := Lib.hid (show Str wr (w1.heap.size) 25 #[.int .i64 f, .slice ax l.length cx] from (hb.block _ Sx.out.lt).trans Sx.out)
    have So := Lib.hid (show Str wr (w3.heap.size) 25 #[.int .i64 F, .slice ao G.length co] from (hb.block _ So.out.lt).trans So.out)
    have hswr := hb.size
    have Hb := Lib.hid (below_step Hb.out Hb.out.size hb)
    clear hb
    by_cases hlt : k < l.length
    case neg =>
      have hlt' : ¬ (k : Int) < (l.length : Int) := by omega
      have hGli : decide ((G.length : Int) ≤ (l.length : Int)) = true := decide_eq_true (by omega)
      have hGlj : (G.length : Int) ≤ (l.length : Int) := by omega
      have cx_0 := Sx.out.cell 0 (v := .int .i64 f) rfl
      have cx_1 := Sx.out.cell 1 (v := .slice ax l.length cx) rfl
      have co_0 := So.out.cell 0 (v := .int .i64 F) rfl
      have co_1 := So.out.cell 1 (v := .slice ao G.length co) rfl
      go_wp2_with fail
      clear cx_0 cx_1 co_0 co_1
      refine (HVd.out _ To.out).mono ?_
      rintro e w8 ⟨rfl, hb⟩
      have Tx := Lib.hid (show Bts w8 l (.slice ax l.length cx) fx from Tx.out.under hb)
      have To := Lib.hid (show Bts w8 G (.slice ao G.length co) fo from To.out.under hb)
      have Sx := Lib.hid (show Str w8 (w1.heap.size) 25 #[.int .i64 f, .slice ax l.length cx] from (hb.block _ Sx.out.lt).trans Sx.out)
      have So := Lib.hid (show Str w8 (w3.heap.size) 25 #[.int .i64 F, .slice ao G.length co] from (hb.block _ So.out.lt).trans So.out)
      have hsw8 := hb.size
      have Hb := Lib.hid (below_step Hb.out Hb.out.size hb)
      clear hb
      have cx_0 := Sx.out.cell 0 (v := .int .i64 f) rfl
      have cx_1 := Sx.out.cell 1 (v := .slice ax l.length cx) rfl
      have co_0 := So.out.cell 0 (v := .int .i64 F) rfl
      have co_1 := So.out.cell 1 (v := .slice ao G.length co) rfl
      go_wp2
      go_ret
      exact ⟨by first | rfl | exact ret_bool (by simp) | exact ret_bool (by simp; omega), Hb.out⟩
    case pos =>
      have hlt' : (k : Int) < (l.length : Int) := by omega
      obtain ⟨gb, off, rfl, hgb, hat⟩ := Tx.out.at (by omega)
      obtain ⟨d0, d1, d2, d3⟩ := hat k hlt
      have hkk := Hkep.out k hlt
      clear hat d1 d3
      generalize l[k] = q at *
      have HGq := Lib.hid (fun W (h : Bts W G (.slice ao G.length co) fo) => HGt.out W q.d h)
      rw [hkk] at HGq
      generalize (geR F G q.d).1 = y at *
      obtain ⟨y0, y1, y2, y3⟩ := y
      dsimp only at HGq
      obtain ⟨kn, hkn⟩ : ∃ kn, kn = decide (F ≤ q.r) := ⟨_, rfl⟩
      rw [← hkn] at HGq
      have hkd : decide (F ≤ q.r) = kn := hkn.symm
      clear hkn hkk
      have hkq : (kn != kn) = false := by simp
      have cx_0 := Sx.out.cell 0 (v := .int .i64 f) rfl
      have cx_1 := Sx.out.cell 1 (v := .slice (some ⟨gb, off, none⟩) l.length cx) rfl
      have co_0 := So.out.cell 0 (v := .int .i64 F) rfl
      have co_1 := So.out.cell 1 (v := .slice ao G.length co) rfl
      go_wp2_with fail
      clear cx_0 cx_1 co_0 co_1
      refine wp_region_held_drew (S := fun W' => W'.cell? ⟨w1.heap.size, 0, none⟩ = some (.int .i64 f) ∧ W'.cell? ⟨w1.heap.size, 1, none⟩ = some (.slice (some ⟨gb, off, none⟩) l.length cx) ∧ W'.cell? ⟨w3.heap.size, 0, none⟩ = some (.int .i64 F) ∧ W'.cell? ⟨w3.heap.size, 1, none⟩ = some (.slice ao G.length co) ∧ W'.cell? ⟨gb, off + k * 4, none⟩ = some (.int .i64 q.d) ∧ W'.cell? ⟨gb, off + k * 4 + 2, none⟩ = some (.int .i64 q.r) ∧ gb < W'.heap.size) (by kernel_rfl) ⟨Sx.out.cell 0 (v := .int .i64 f) rfl, Sx.out.cell 1 (v := .slice (some ⟨gb, off, none⟩) l.length cx) rfl, So.out.cell 0 (v := .int .i64 F) rfl, So.out.cell 1 (v := .slice ao G.length co) rfl, d0, d2, hgb⟩ (fun hH => ?_)
      have hdr : Below wr.heap.size wr wr.drew := (Below.refl _ _).drew
      have HW0 := Lib.hid (below_step HW0.out HW0.out.size hdr)
      have Tx := Lib.hid (show Bts wr.drew l (.slice (some ⟨gb, off, none⟩) l.length cx) fx from Tx.out.under hdr)
      have To := Lib.hid (show Bts wr.drew G (.slice ao G.length co) fo from To.out.under hdr)
      have Sx := Lib.hid (show Str wr.drew (w1.heap.size) 25 #[.int .i64 f, .slice (some ⟨gb, off, none⟩) l.length cx] from (hdr.block _ Sx.out.lt).trans Sx.out)
      have So := Lib.hid (show Str wr.drew (w3.heap.size) 25 #[.int .i64 F, .slice ao G.length co] from (hdr.block _ So.out.lt).trans So.out)
      have hswr.drew := hdr.size
      have Hb := Lib.hid (below_step Hb.out Hb.out.size hdr)
      clear hdr d0 d2 hgb
      generalize wr.drew = wd at *
      refine takeH 0 (v := ?vfg1) rfl (by kernel_rfl) (by kernel_rfl) (by kernel_rfl) (fun _ _ _ h => h) hH rfl ?yfg1 ?rfg1
      case yfg1 => intro W hSw; go_simp; try with_reducible rfl
      try simp only [Act.put, List.setIfInBounds_toArray, List.set_cons_zero, List.set_cons_succ]
      refine takeH 1 (v := ?vfg2) rfl (by kernel_rfl) (by kernel_rfl) (by kernel_rfl) (fun _ _ _ h => h) hH rfl ?yfg2 ?rfg2
      case yfg2 => intro W hSw; go_simp; try with_reducible rfl
      try simp only [Act.put, List.setIfInBounds_toArray, List.set_cons_zero, List.set_cons_succ]
      refine takeH 2 (v := ?vfg3) rfl (by kernel_rfl) (by kernel_rfl) (by kernel_rfl) (fun _ _ _ h => h) hH rfl ?yfg3 ?rfg3
      case yfg3 => intro W hSw; go_simp; try with_reducible rfl
      try simp only [Act.put, List.setIfInBounds_toArray, List.set_cons_zero, List.set_cons_succ]
      refine takeH 3 (v := ?vfg4) rfl (by kernel_rfl) (by kernel_rfl) (by kernel_rfl) (fun _ _ _ h => h) hH rfl ?yfg4 ?rfg4
      case yfg4 => intro W hSw; go_simp; try with_reducible rfl
      try simp only [Act.put, List.setIfInBounds_toArray, List.set_cons_zero, List.set_cons_succ]
      refine takeH 4 (v := ?vfg5) rfl (by kernel_rfl) (by kernel_rfl) (by kernel_rfl) (fun _ _ _ h => h) hH rfl ?yfg5 ?rfg5
      case yfg5 => intro W hSw; go_simp; try with_reducible rfl
      try simp only [Act.put, List.setIfInBounds_toArray, List.set_cons_zero, List.set_cons_succ]
      refine takeH 5 (v := ?vfg6) rfl (by kernel_rfl) (by kernel_rfl) (by kernel_rfl) (fun _ _ _ h => h) hH rfl ?yfg6 ?rfg6
      case yfg6 => intro W hSw; go_simp; try with_reducible rfl
      try simp only [Act.put, List.setIfInBounds_toArray, List.set_cons_zero, List.set_cons_succ]
      refine takeH 6 (v := ?vfg7) rfl (by kernel_rfl) (by kernel_rfl) (by kernel_rfl) (fun _ _ _ h => h) hH rfl ?yfg7 ?rfg7
      case yfg7 => intro W hSw; go_simp; try with_reducible rfl
      try simp only [Act.put, List.setIfInBounds_toArray, List.set_cons_zero, List.set_cons_succ]
      have d0 := hH.2.2.2.2.1; have d2 := hH.2.2.2.2.2.1; have hg9 := hH.2.2.2.2.2.2
      have HA := Lib.hid (Below.refl wd.heap.size wd)
      refine twoH 7 11 rfl rfl (by kernel_rfl) rfl rfl (fun K hK => ?_) (fun K hK => ?_)
      · skip
        go_simp
        go_at_call 14
        refine (HGq.out _ (To.out.under HA.out)).mono ?_
        rintro e we ⟨rfl, hb⟩
        have HA := Lib.hid (below_step HA.out HA.out.size hb)
        clear hb
        refine hK.out _ _ ⟨(HA.out.cell (p := ⟨w1.heap.size, 0, none⟩) Sx.out.lt).trans (Sx.out.cell 0 (v := .int .i64 f) rfl), (HA.out.cell (p := ⟨w1.heap.size, 1, none⟩) Sx.out.lt).trans (Sx.out.cell 1 (v := .slice (some ⟨gb, off, none⟩) l.length cx) rfl), (HA.out.cell (p := ⟨w3.heap.size, 0, none⟩) So.out.lt).trans (So.out.cell 0 (v := .int .i64 F) rfl), (HA.out.cell (p := ⟨w3.heap.size, 1, none⟩) So.out.lt).trans (So.out.cell 1 (v := .slice ao G.length co) rfl), (HA.out.cell (p := ⟨gb, off + k * 4, none⟩) hg9).trans d0, (HA.out.cell (p := ⟨gb, off + k * 4 + 2, none⟩) hg9).trans d2, Nat.lt_of_lt_of_le hg9 HA.out.size⟩ (fun hH => ?_)
        clear hK K
        try simp only [Act.put, List.setIfInBounds_toArray, List.set_cons_zero, List.set_cons_succ]
        refine takeH 8 (v := ?vfg8) rfl (by kernel_rfl) (by kernel_rfl) (by kernel_rfl) (fun _ _ _ h => h) hH rfl ?yfg8 ?rfg8
        case yfg8 => intro W hSw; go_simp; try with_reducible rfl
        try simp only [Act.put, List.setIfInBounds_toArray, List.set_cons_zero, List.set_cons_succ]
        refine takeH 9 (v := ?vfg9) rfl (by kernel_rfl) (by kernel_rfl) (by kernel_rfl) (fun _ _ _ h => h) hH rfl ?yfg9 ?rfg9
        case yfg9 => intro W hSw; go_simp; try with_reducible rfl
        try simp only [Act.put, List.setIfInBounds_toArray, List.set_cons_zero, List.set_cons_succ]
        refine takeH 10 (v := ?vfg10) rfl (by kernel_rfl) (by kernel_rfl) (by kernel_rfl) (fun _ _ _ h => h) hH rfl ?yfg10 ?rfg10
        case yfg10 => intro W hSw; go_simp; try with_reducible rfl
        try simp only [Act.put, List.setIfInBounds_toArray, List.set_cons_zero, List.set_cons_succ]
        refine callH 11 rfl (by kernel_rfl) rfl (fun K hK => ?_)
        go_simp
        have hal : Below we.heap.size we (we.alloc (.cells #[.int .i64 0, .int .i64 0, .int .i64 0, .int .i64 0] 27)) := (Below.refl _ _).alloc (Nat.le_refl _) _
        have SY := Lib.hid (Str.new we 27 #[.int .i64 0, .int .i64 0, .int .i64 0, .int .i64 0])
        have hYB : wd.heap.size ≤ we.heap.size := HA.out.size
        have HA := Lib.hid (below_step HA.out HA.out.size hal)
        clear hal
        generalize (we.alloc (.cells #[.int .i64 0, .int .i64 0, .int .i64 0, .int .i64 0] 27)) = wf at *
        refine hK.out _ _ ⟨(HA.out.cell (p := ⟨w1.heap.size, 0, none⟩) Sx.out.lt).trans (Sx.out.cell 0 (v := .int .i64 f) rfl), (HA.out.cell (p := ⟨w1.heap.size, 1, none⟩) Sx.out.lt).trans (Sx.out.cell 1 (v := .slice (some ⟨gb, off, none⟩) l.length cx) rfl), (HA.out.cell (p := ⟨w3.heap.size, 0, none⟩) So.out.lt).trans (So.out.cell 0 (v := .int .i64 F) rfl), (HA.out.cell (p := ⟨w3.heap.size, 1, none⟩) So.out.lt).trans (So.out.cell 1 (v := .slice ao G.length co) rfl), (HA.out.cell (p := ⟨gb, off + k * 4, none⟩) hg9).trans d0, (HA.out.cell (p := ⟨gb, off + k * 4 + 2, none⟩) hg9).trans d2, Nat.lt_of_lt_of_le hg9 HA.out.size⟩ (fun hH => ?_)
        clear hK K
        try simp only [Act.put, List.setIfInBounds_toArray, List.set_cons_zero, List.set_cons_succ]
        refine callH 12 rfl (by kernel_rfl) rfl (fun K hK => ?_)
        have u0 := SY.out.frozen 0
        have u1 := SY.out.frozen 1
        have u2 := SY.out.frozen 2
        have u3 := SY.out.frozen 3
        have v0 := SY.out.cell 0 (v := .int .i64 0) rfl
        have v1 := SY.out.cell 1 (v := .int .i64 0) rfl
        have v2 := SY.out.cell 2 (v := .int .i64 0) rfl
        have v3 := SY.out.cell 3 (v := .int .i64 0) rfl
        go_simp
        clear u0 u1 u2 u3 v0 v1 v2 v3
        have hst : Below wd.heap.size wd ((((wf.setCell ⟨we.heap.size, 0, none⟩ (.int .i64 y0)).setCell ⟨we.heap.size, 1, none⟩ (.int .i64 y1)).setCell ⟨we.heap.size, 2, none⟩ (.int .i64 y2)).setCell ⟨we.heap.size, 3, none⟩ (.int .i64 y3)) := ((((HA.out.setCell (p := ⟨we.heap.size, 0, none⟩) (by simp only; omega) (.int .i64 y0)).setCell (p := ⟨we.heap.size, 1, none⟩) (by simp only; omega) (.int .i64 y1)).setCell (p := ⟨we.heap.size, 2, none⟩) (by simp only; omega) (.int .i64 y2)).setCell (p := ⟨we.heap.size, 3, none⟩) (by simp only; omega) (.int .i64 y3))
        generalize ((((wf.setCell ⟨we.heap.size, 0, none⟩ (.int .i64 y0)).setCell ⟨we.heap.size, 1, none⟩ (.int .i64 y1)).setCell ⟨we.heap.size, 2, none⟩ (.int .i64 y2)).setCell ⟨we.heap.size, 3, none⟩ (.int .i64 y3)) = wz at *
        refine hK.out _ _ ⟨(hst.cell (p := ⟨w1.heap.size, 0, none⟩) Sx.out.lt).trans (Sx.out.cell 0 (v := .int .i64 f) rfl), (hst.cell (p := ⟨w1.heap.size, 1, none⟩) Sx.out.lt).trans (Sx.out.cell 1 (v := .slice (some ⟨gb, off, none⟩) l.length cx) rfl), (hst.cell (p := ⟨w3.heap.size, 0, none⟩) So.out.lt).trans (So.out.cell 0 (v := .int .i64 F) rfl), (hst.cell (p := ⟨w3.heap.size, 1, none⟩) So.out.lt).trans (So.out.cell 1 (v := .slice ao G.length co) rfl), (hst.cell (p := ⟨gb, off + k * 4, none⟩) hg9).trans d0, (hst.cell (p := ⟨gb, off + k * 4 + 2, none⟩) hg9).trans d2, Nat.lt_of_lt_of_le hg9 hst.size⟩ (fun hH => ?_)
        clear hK K
        try simp only [Act.put, List.setIfInBounds_toArray, List.set_cons_zero, List.set_cons_succ]
        refine takeH 13 (v := ?vfg11) rfl (by kernel_rfl) (by kernel_rfl) (by kernel_rfl) (fun _ _ _ h => h) hH rfl ?yfg11 ?rfg11
        case yfg11 => intro W hSw; go_simp; try with_reducible rfl
        try simp only [Act.put, List.setIfInBounds_toArray, List.set_cons_zero, List.set_cons_succ]
        refine wpAnyH_done (by kernel_rfl) ?_ _
        try simp only [Act.put]
        have HW0 := Lib.hid (below_step HW0.out HW0.out.size hst)
        have Tx := Lib.hid (show Bts wz l (.slice (some ⟨gb, off, none⟩) l.length cx) fx from Tx.out.under hst)
        have To := Lib.hid (show Bts wz G (.slice ao G.length co) fo from To.out.under hst)
        have Sx := Lib.hid (show Str wz (w1.heap.size) 25 #[.int .i64 f, .slice (some ⟨gb, off, none⟩) l.length cx] from (hst.block _ Sx.out.lt).trans Sx.out)
        have So := Lib.hid (show Str wz (w3.heap.size) 25 #[.int .i64 F, .slice ao G.length co] from (hst.block _ So.out.lt).trans So.out)
        have hswz := hst.size
        have Hb := Lib.hid (below_step Hb.out Hb.out.size hst)
        have d0 := hH.2.2.2.2.1; have d2 := hH.2.2.2.2.2.1
        clear hH hst
        have cx_0 := Sx.out.cell 0 (v := .int .i64 f) rfl
        have cx_1 := Sx.out.cell 1 (v := .slice (some ⟨gb, off, none⟩) l.length cx) rfl
        have co_0 := So.out.cell 0 (v := .int .i64 F) rfl
        have co_1 := So.out.cell 1 (v := .slice ao G.length co) rfl
        go_wp2
        clear cx_0 cx_1 co_0 co_1
        go_roundw
        case rel => exact ⟨k + 1, by omega, by go_num, HW0.out⟩
        case measure => simp [intOf]; omega
      · skip
        go_simp
        have hal : Below wd.heap.size wd (wd.alloc (.cells #[.int .i64 0, .int .i64 0, .int .i64 0, .int .i64 0] 27)) := (Below.refl _ _).alloc (Nat.le_refl _) _
        have SY := Lib.hid (Str.new wd 27 #[.int .i64 0, .int .i64 0, .int .i64 0, .int .i64 0])
        have hYB : wd.heap.size ≤ wd.heap.size := HA.out.size
        have HA := Lib.hid (below_step HA.out HA.out.size hal)
        clear hal
        generalize (wd.alloc (.cells #[.int .i64 0, .int .i64 0, .int .i64 0, .int .i64 0] 27)) = wf at *
        refine hK.out _ _ ⟨(HA.out.cell (p := ⟨w1.heap.size, 0, none⟩) Sx.out.lt).trans (Sx.out.cell 0 (v := .int .i64 f) rfl), (HA.out.cell (p := ⟨w1.heap.size, 1, none⟩) Sx.out.lt).trans (Sx.out.cell 1 (v := .slice (some ⟨gb, off, none⟩) l.length cx) rfl), (HA.out.cell (p := ⟨w3.heap.size, 0, none⟩) So.out.lt).trans (So.out.cell 0 (v := .int .i64 F) rfl), (HA.out.cell (p := ⟨w3.heap.size, 1, none⟩) So.out.lt).trans (So.out.cell 1 (v := .slice ao G.length co) rfl), (HA.out.cell (p := ⟨gb, off + k * 4, none⟩) hg9).trans d0, (HA.out.cell (p := ⟨gb, off + k * 4 + 2, none⟩) hg9).trans d2, Nat.lt_of_lt_of_le hg9 HA.out.size⟩ (fun hH => ?_)
        clear hK K
        try simp only [Act.put, List.setIfInBounds_toArray, List.set_cons_zero, List.set_cons_succ]
        refine callH 7 rfl (by kernel_rfl) rfl (fun K hK => ?_)
        go_simp
        go_at_call 14
        refine (HGq.out _ (To.out.under HA.out)).mono ?_
        rintro e we ⟨rfl, hb⟩
        have HA := Lib.hid (below_step HA.out HA.out.size hb)
        have SY := Lib.hid (show Str we (wd.heap.size) 27 #[.int .i64 0, .int .i64 0, .int .i64 0, .int .i64 0] from (hb.block _ SY.out.lt).trans SY.out)
        clear hb
        refine hK.out _ _ ⟨(HA.out.cell (p := ⟨w1.heap.size, 0, none⟩) Sx.out.lt).trans (Sx.out.cell 0 (v := .int .i64 f) rfl), (HA.out.cell (p := ⟨w1.heap.size, 1, none⟩) Sx.out.lt).trans (Sx.out.cell 1 (v := .slice (some ⟨gb, off, none⟩) l.length cx) rfl), (HA.out.cell (p := ⟨w3.heap.size, 0, none⟩) So.out.lt).trans (So.out.cell 0 (v := .int .i64 F) rfl), (HA.out.cell (p := ⟨w3.heap.size, 1, none⟩) So.out.lt).trans (So.out.cell 1 (v := .slice ao G.length co) rfl), (HA.out.cell (p := ⟨gb, off + k * 4, none⟩) hg9).trans d0, (HA.out.cell (p := ⟨gb, off + k * 4 + 2, none⟩) hg9).trans d2, Nat.lt_of_lt_of_le hg9 HA.out.size⟩ (fun hH => ?_)
        clear hK K
        try simp only [Act.put, List.setIfInBounds_toArray, List.set_cons_zero, List.set_cons_succ]
        refine takeH 8 (v := ?vfh12) rfl (by kernel_rfl) (by kernel_rfl) (by kernel_rfl) (fun _ _ _ h => h) hH rfl ?yfh12 ?rfh12
        case yfh12 => intro W hSw; go_simp; try with_reducible rfl
        try simp only [Act.put, List.setIfInBounds_toArray, List.set_cons_zero, List.set_cons_succ]
        refine takeH 9 (v := ?vfh13) rfl (by kernel_rfl) (by kernel_rfl) (by kernel_rfl) (fun _ _ _ h => h) hH rfl ?yfh13 ?rfh13
        case yfh13 => intro W hSw; go_simp; try with_reducible rfl
        try simp only [Act.put, List.setIfInBounds_toArray, List.set_cons_zero, List.set_cons_succ]
        refine takeH 10 (v := ?vfh14) rfl (by kernel_rfl) (by kernel_rfl) (by kernel_rfl) (fun _ _ _ h => h) hH rfl ?yfh14 ?rfh14
        case yfh14 => intro W hSw; go_simp; try with_reducible rfl
        try simp only [Act.put, List.setIfInBounds_toArray, List.set_cons_zero, List.set_cons_succ]
        refine callH 12 rfl (by kernel_rfl) rfl (fun K hK => ?_)
        have u0 := SY.out.frozen 0
        have u1 := SY.out.frozen 1
        have u2 := SY.out.frozen 2
        have u3 := SY.out.frozen 3
        have v0 := SY.out.cell 0 (v := .int .i64 0) rfl
        have v1 := SY.out.cell 1 (v := .int .i64 0) rfl
        have v2 := SY.out.cell 2 (v := .int .i64 0) rfl
        have v3 := SY.out.cell 3 (v := .int .i64 0) rfl
        go_simp
        clear u0 u1 u2 u3 v0 v1 v2 v3
        have hst : Below wd.heap.size wd ((((we.setCell ⟨wd.heap.size, 0, none⟩ (.int .i64 y0)).setCell ⟨wd.heap.size, 1, none⟩ (.int .i64 y1)).setCell ⟨wd.heap.size, 2, none⟩ (.int .i64 y2)).setCell ⟨wd.heap.size, 3, none⟩ (.int .i64 y3)) := ((((HA.out.setCell (p := ⟨wd.heap.size, 0, none⟩) (by simp only; omega) (.int .i64 y0)).setCell (p := ⟨wd.heap.size, 1, none⟩) (by simp only; omega) (.int .i64 y1)).setCell (p := ⟨wd.heap.size, 2, none⟩) (by simp only; omega) (.int .i64 y2)).setCell (p := ⟨wd.heap.size, 3, none⟩) (by simp only; omega) (.int .i64 y3))
        generalize ((((we.setCell ⟨wd.heap.size, 0, none⟩ (.int .i64 y0)).setCell ⟨wd.heap.size, 1, none⟩ (.int .i64 y1)).setCell ⟨wd.heap.size, 2, none⟩ (.int .i64 y2)).setCell ⟨wd.heap.size, 3, none⟩ (.int .i64 y3)) = wz at *
        refine hK.out _ _ ⟨(hst.cell (p := ⟨w1.heap.size, 0, none⟩) Sx.out.lt).trans (Sx.out.cell 0 (v := .int .i64 f) rfl), (hst.cell (p := ⟨w1.heap.size, 1, none⟩) Sx.out.lt).trans (Sx.out.cell 1 (v := .slice (some ⟨gb, off, none⟩) l.length cx) rfl), (hst.cell (p := ⟨w3.heap.size, 0, none⟩) So.out.lt).trans (So.out.cell 0 (v := .int .i64 F) rfl), (hst.cell (p := ⟨w3.heap.size, 1, none⟩) So.out.lt).trans (So.out.cell 1 (v := .slice ao G.length co) rfl), (hst.cell (p := ⟨gb, off + k * 4, none⟩) hg9).trans d0, (hst.cell (p := ⟨gb, off + k * 4 + 2, none⟩) hg9).trans d2, Nat.lt_of_lt_of_le hg9 hst.size⟩ (fun hH => ?_)
        clear hK K
        try simp only [Act.put, List.setIfInBounds_toArray, List.set_cons_zero, List.set_cons_succ]
        refine takeH 13 (v := ?vfh15) rfl (by kernel_rfl) (by kernel_rfl) (by kernel_rfl) (fun _ _ _ h => h) hH rfl ?yfh15 ?rfh15
        case yfh15 => intro W hSw; go_simp; try with_reducible rfl
        try simp only [Act.put, List.setIfInBounds_toArray, List.set_cons_zero, List.set_cons_succ]
        refine wpAnyH_done (by kernel_rfl) ?_ _
        try simp only [Act.put]
        have HW0 := Lib.hid (below_step HW0.out HW0.out.size hst)
        have Tx := Lib.hid (show Bts wz l (.slice (some ⟨gb, off, none⟩) l.length cx) fx from Tx.out.under hst)
        have To := Lib.hid (show Bts wz G (.slice ao G.length co) fo from To.out.under hst)
        have Sx := Lib.hid (show Str wz (w1.heap.size) 25 #[.int .i64 f, .slice (some ⟨gb, off, none⟩) l.length cx] from (hst.block _ Sx.out.lt).trans Sx.out)
        have So := Lib.hid (show Str wz (w3.heap.size) 25 #[.int .i64 F, .slice ao G.length co] from (hst.block _ So.out.lt).trans So.out)
        have hswz := hst.size
        have Hb := Lib.hid (below_step Hb.out Hb.out.size hst)
        have d0 := hH.2.2.2.2.1; have d2 := hH.2.2.2.2.2.1
        clear hH hst
        have cx_0 := Sx.out.cell 0 (v := .int .i64 f) rfl
        have cx_1 := Sx.out.cell 1 (v := .slice (some ⟨gb, off, none⟩) l.length cx) rfl
        have co_0 := So.out.cell 0 (v := .int .i64 F) rfl
        have co_1 := So.out.cell 1 (v := .slice ao G.length co) rfl
        go_wp2
        clear cx_0 cx_1 co_0 co_1
        go_roundw
        case rel => exact ⟨k + 1, by omega, by go_num, HW0.out⟩
        case measure => simp [intOf]; omega

theorem fnStoreForget_own : ownKnob Try.prog.godebug = none := by kernel_rfl
theorem fnStoreForget_laidOut : laidOutB Try.prog = true := by kernel_rfl

set_option maxRecDepth 8000 in
theorem fnStoreForget_lifted (os : Os) (started : os.Started) (H : Type) (enc : TypeId × Value → H) :
    ReturnsInHanded {} Try.checked os 7 .any (Rows.fnStoreForgetSpec.pre6 enc Try.prog Try.f7 Rows.fnStoreForgetRow.domain false) (Rows.fnStoreForgetSpec.post enc Try.prog Try.f7 false true false false) := by
  refine law_lifted (C := Try.checked) (tb := 4) fnStoreForget_own fnStoreForget_laidOut started (by kernel_rfl) Try.func7 rfl Try.underlying4 rfl (by rw [Try.params7]; exact of_decide_eq_true (by kernel_rfl)) ?_
    (ChangeSpec.witness6 (enc := enc) (C := Try.checked) false ⟨#[], #[.slice none 0 0], []⟩ 8 (by kernel_rfl) (by kernel_rfl) (by kernel_rfl) (by kernel_rfl)) ?_
  · intro ds hds
    rw [Try.params7] at hds
    match ds, hds with
    | [d0], _ => rfl
  · intro W base args ds p hval0 hA0
    have hval : ∀ (j : Nat) t v, Try.f7.params[j]? = some t → args[j]? = some v → Value.okWide Try.prog W .any base t v := hval0
    have hA : DataW.TrodAll enc Try.prog W 0 (fun _ => true) true Try.f7.params.toList args.toList ds p := hA0
    rw [Try.params7] at hA hval
    obtain ⟨v0, vs0, d0, ds0, p0, q0, hargs0, rfl, rfl, h0, r0⟩ := trodAll_cons hA
    obtain ⟨hnil, rfl, rfl⟩ := trodAll_nil r0
    subst hnil
    obtain rfl : args = #[v0] := by cases args; simp_all
    obtain ⟨a0, cap0, zs0, rfl, hk0, hm0, hi0, hw0⟩ := open_slice_ints Try.underlying22 Try.underlying5 (by kernel_rfl) (hval 0 22 v0 rfl rfl) h0
    exact fnStoreForget_walk a0 cap0 zs0 W hk0 hm0 hi0 hw0

set_option maxRecDepth 8000 in
theorem fnStoreForget_holds : Rows.FnStoreForgetSaid :=
  OpenClaim.holds_of_wide 7 Try.f7 rfl rfl rfl rfl rfl rfl rfl ⟨rfl, rfl, rfl, rfl, rfl⟩ rfl rfl rfl rfl rfl (by kernel_rfl) Try.func7 (by kernel_rfl)
    (of_decide_eq_true (by kernel_rfl)) (by unfold Func.isWrapper; first | (rw [if_pos (by decide +kernel)]; kernel_rfl) | (rw [if_neg (by decide +kernel)]; exact ⟨rfl, rfl⟩))
    (fun os started H enc _ => fnStoreForget_lifted os started H enc)

end Go.Proofs.Ythojbcecbeapgaa
