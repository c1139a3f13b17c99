/- What impl's list of shards is, and whether a shard belongs to data, each by a walk of its text; conditions: a list that is read has fewer than 2^40 elements and fits its capacity. -/
import Derived.Test.YtgflffcogdkgfaaK3
namespace Go.Proofs.Ytgflffcogdkgfaa
open Go.RowKit Go.Shelf

theorem impl_ShardMakeO (a : Option Addr) (cap : Nat) (d : List Int) (need many : Int) (w : World) (hbig : d.length ≤ 1099511627776) (hcap : d.length ≤ cap) (hc : IntsAt w a d) :
    Calls Try.prog 10 #[.slice a d.length cap, .int .i64 need, .int .i64 many] w fun e w' => ∃ v, e = .returned v ∧ OwnR 30 3 2 w' w.heap.size w'.heap.size v ((makeZ d need many).map shardF) ∧ Below w.heap.size w w' := by
  have hb0 : Below w.heap.size w (w.alloc (.cells #[] 30)) := (Below.refl _ _).alloc (Nat.le_refl _) _
  have hv0 : OwnR 30 3 2 (w.alloc (.cells #[] 30)) w.heap.size (w.alloc (.cells #[] 30)).heap.size (.slice (some ⟨w.heap.size, 0, none⟩) 0 0) [] := .nil (World.ownsRow_made w #[] 0 (Nat.le_refl _) (by simp) (by simp)) (fun g e => by cases e; simp)
  have Hv0 := Lib.hid hv0; clear hv0
  have hdt := impl_isData a cap d _ hbig (hc.below hb0)
  have hnm := fun w => impl_isShardNumber need w
  cases hv : isdB d with
  | true =>
    rw [hv] at hdt
    have Hdt := Lib.hid hdt; clear hdt
    have Hc := Lib.hid hc; clear hc
    by_cases hN : 1 ≤ need ∧ need ≤ 8
    · rw [decide_eq_true hN] at hnm
      have Hnm := Lib.hid hnm; clear hnm
      have hdB : dataB d need = true := by rw [isdB_data, hv, decide_eq_true hN]; rfl
      obtain ⟨hsym, ⟨hd1, hd2⟩, hn1, hn2⟩ := dataB_iff hdB
      have Hsym := Lib.hid hsym; clear hsym
      by_cases hm1 : many < need
      · have Hf := Lib.hid (makeZ_no (d := d) (need := need) (many := many) (by unfold makeB; rw [hdB, decide_eq_false (by omega)]; rfl))
        clear hv hdB
        go_enter Try.func10, Try.ntmps10
        go_wp2_with fail
        refine Hdt.out.mono ?_
        rintro e w' ⟨rfl, rfl⟩
        go_wp2_with fail
        refine (Hnm.out _).mono ?_
        rintro e w' ⟨rfl, rfl⟩
        go_wp2
        go_ret
        exact ⟨_, rfl, by rw [Hf.out]; exact Hv0.out, hb0⟩
      by_cases hm2 : 8 < many
      · have Hf := Lib.hid (makeZ_no (d := d) (need := need) (many := many) (by unfold makeB; rw [hdB, decide_eq_false (by omega)]; rfl))
        clear hv hdB
        go_enter Try.func10, Try.ntmps10
        go_wp2_with fail
        refine Hdt.out.mono ?_
        rintro e w' ⟨rfl, rfl⟩
        go_wp2_with fail
        refine (Hnm.out _).mono ?_
        rintro e w' ⟨rfl, rfl⟩
        go_wp2
        go_ret
        exact ⟨_, rfl, by rw [Hf.out]; exact Hv0.out, hb0⟩
      obtain ⟨need, rfl⟩ := Int.eq_ofNat_of_zero_le (show 0 ≤ need by omega)
      obtain ⟨many, rfl⟩ := Int.eq_ofNat_of_zero_le (show 0 ≤ many by omega)
      have Hf := Lib.hid (makeZ_yes (d := d) (need := need) (many := many) (by unfold makeB; rw [hdB, decide_eq_true (by omega)]; rfl))
      have hcol := cols_le (d := d) (need := need) (by omega) hd2
      have hmn : decide (many < need) = false := decide_eq_false (by omega)
      have hmn2 : need ≤ many := by omega
      have hm8 : decide ((8 : Int) < (many : Int)) = false := decide_eq_false (by omega)
      clear hv hdB
      go_enter Try.func10, Try.ntmps10
      go_wp2_with fail
      refine Hdt.out.mono ?_
      rintro e w' ⟨rfl, rfl⟩
      go_wp2_with fail
      refine (Hnm.out _).mono ?_
      rintro e w' ⟨rfl, rfl⟩
      go_wp2_with fail
      go_loopw [7, 8] (fun v i wr => ∃ k : Nat, k ≤ many ∧ i = .int .i64 ((k : Int) + 1) ∧ OwnR 30 3 2 wr w.heap.size wr.heap.size v (((List.range k).map (shardZ d need)).map shardF) ∧ Below w.heap.size w wr) (fun _ i _ => many + 1 - (intOf i).toNat)
      case atStart => exact ⟨0, Nat.zero_le _, rfl, Hv0.out, hb0⟩
      case round =>
        obtain ⟨k, hk, rfl, hbld, hbel⟩ := hrel
        have Hbld := Lib.hid hbld; clear hbld
        have Hbel := Lib.hid hbel; clear hbel
        by_cases hlt : k < many
        · have hcall := impl_shardOf a cap d need ((k : Int) + 1) wr Hsym.out hd2 (by omega) (by omega) (by omega) (by omega) hcap (Hc.out.below Hbel.out)
          have Hcall := Lib.hid hcall; clear hcall
          have Hex := Lib.hid (show ((List.range (k + 1)).map (shardZ d need)).map shardF = (((List.range k).map (shardZ d need)).map shardF) ++ [[.i ((k : Int) + 1), .l (shardV d need ((k : Int) + 1))]] by rw [List.range_succ, List.map_append, List.map_append]; rfl)
          have hel : (((List.range k).map (shardZ d need)).map shardF).length ≤ 1000000 := by simp; omega
          generalize ((List.range k).map (shardZ d need)).map shardF = es at *
          generalize shardV d need ((k : Int) + 1) = vs at *
          go_wp2_with fail
          refine Hcall.out.mono ?_
          rintro e w6 ⟨v2, rfl, hown2, hb6⟩
          obtain ⟨a2, c2, rfl, _, _⟩ := hown2.ints
          have hbw6 := below_step Hbel.out Hbel.out.size hb6
          have hB6 := hbw6.size
          have hs6 := hb6.size
          have Hbld6 := Lib.hid (Hbld.out.below hb6 (Nat.le_refl _))
          have hfd : ∀ j (hj : j < [Fd.i ((k : Int) + 1), .l vs].length), ∃ c, [Value.int .i64 ((k : Int) + 1), .slice a2 vs.length c2][j]? = some c ∧ FdOk 3 w6 w.heap.size c ([Fd.i ((k : Int) + 1), .l vs])[j] := by
            intro j hj
            match j, hj with
            | 0, _ => exact ⟨_, rfl, rfl⟩
            | 1, _ => exact ⟨_, rfl, hown2.mono Hbel.out.size⟩
          have hap : ∀ (p q : Nat) c d, [Value.int .i64 ((k : Int) + 1), .slice a2 vs.length c2][p]? = some c → [Value.int .i64 ((k : Int) + 1), .slice a2 vs.length c2][q]? = some d → p ≠ q → Apart c d := by
            intro p q c d hp hq hne g hc hd
            match p, q with
            | 0, _ => cases hp; cases hc
            | 1, 0 => cases hq; cases hd
            | 1, 1 => exact hne rfl
            | 1, q + 2 => simp at hq
            | p + 2, _ => simp at hp
          have hnew : ∀ c ∈ [Value.int .i64 ((k : Int) + 1), .slice a2 vs.length c2], ∀ g, c.ownBlock = some g → wr.heap.size ≤ g := by
            intro c hc g hg
            simp only [List.mem_cons, List.not_mem_nil, or_false] at hc
            rcases hc with rfl | rfl
            · cases hg
            · exact (hown2.lt g hg).1
          have Hfd := Lib.hid hfd; clear hfd
          have Hap := Lib.hid hap; clear hap
          have Hnew := Lib.hid hnew; clear hnew hown2
          go_wp2_with (at_builtin; refine wpList_push_own (Ei := 3) Try.underlying26 sh_info rfl (by decide) (by decide) rfl (.tmp 33) (.tmp 38) rfl w.heap.size _ es _ _ _ rfl rfl (by intro u hu; simp at hu; rcases hu with rfl | rfl <;> rfl) rfl rfl Hfd.out Hap.out wr.heap.size Hbld6.out hs6 Hnew.out hel rfl hB6 ?_; intro v8 w8 hbld8 hg8 hat8)
          go_roundw
          case rel => exact ⟨k + 1, by omega, int_eq (by omega), by rw [Hex.out]; exact hbld8, hbw6.grown hg8 hB6 (fun g e => (Hbld.out.lt g e).1)⟩
          case measure => simp [intOf]; omega
        · have hke : k = many := by omega
          subst hke
          go_wp2
          go_ret
          exact ⟨_, rfl, by rw [Hf.out]; exact Hbld.out, Hbel.out⟩
    · rw [decide_eq_false hN] at hnm
      have Hnm := Lib.hid hnm; clear hnm
      have Hf := Lib.hid (makeZ_no (d := d) (need := need) (many := many) (by unfold makeB; rw [isdB_data, hv, decide_eq_false hN]; rfl))
      clear hv
      go_enter Try.func10, Try.ntmps10
      go_wp2_with fail
      refine Hdt.out.mono ?_
      rintro e w' ⟨rfl, rfl⟩
      go_wp2_with fail
      refine (Hnm.out _).mono ?_
      rintro e w' ⟨rfl, rfl⟩
      go_wp2
      go_ret
      exact ⟨_, rfl, by rw [Hf.out]; exact Hv0.out, hb0⟩
  | false =>
    rw [hv] at hdt
    have Hdt := Lib.hid hdt; clear hdt
    have Hf := Lib.hid (makeZ_no (d := d) (need := need) (many := many) (by unfold makeB; rw [isdB_data, hv]; rfl))
    clear hv hc hnm
    go_enter Try.func10, Try.ntmps10
    go_wp2_with fail
    refine Hdt.out.mono ?_
    rintro e w' ⟨rfl, rfl⟩
    go_wp2
    go_ret
    exact ⟨_, rfl, by rw [Hf.out]; exact Hv0.out, hb0⟩

theorem impl_ShardMake (a : Option Addr) (cap : Nat) (d : List Int) (need many : Int) (w : World) (hbig : d.length ≤ 1099511627776) (hcap : d.length ≤ cap) (hc : IntsAt w a d) :
    Calls Try.prog 10 #[.slice a d.length cap, .int .i64 need, .int .i64 many] w fun e w' => ∃ v, e = .returned v ∧ Bld 30 2 w' w.heap.size v ((makeZ d need many).map shardD) ∧ Below w.heap.size w w' := by
  refine (impl_ShardMakeO a cap d need many w hbig hcap hc).mono ?_
  rintro e w' ⟨v, rfl, ho, hb⟩
  refine ⟨v, rfl, ?_, hb⟩
  have := ho.bld
  rwa [List.map_map, show (fun e => List.map Fd.dt e) ∘ shardF = shardD from rfl] at this

end Go.Proofs.Ytgflffcogdkgfaa
