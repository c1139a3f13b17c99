/- slices.SortFunc at votes by their order: the list is sorted in place; what lies elsewhere stays. No conditions but the list's length. -/
import Derived.Test.YtkndndcjchlpdaaRows
import Derived.Test.YtkndndcjchlpdaaVs0
import Derived.Test.YtkndndcjchlpdaaVc2
import Derived.Test.YtkndndcjchlpdaaVm1
import Derived.Test.YtkndndcjchlpdaaRVote
namespace Go.Proofs.Ytkndndcjchlpdaa
open Go.RowKit Go.Shelf Go.Sort

instance : Inhabited Vt := ⟨vt0⟩
def encV (v : Vt) : List Value := [.int .i64 v.r, .int .i64 v.a, .int .i64 v.d]
theorem ltV (x y : Vt) : ltOf vcmpZ x y = vbefB x y := (vbef_cmp x y).symm
theorem swoV : SWO (ltOf vcmpZ) where
  irrefl x := by rw [ltV]; exact vbef_irr x
  trans x y z h1 h2 := by rw [ltV] at *; exact vbef_trans h1 h2
  ntrans x y z h1 h2 := by
    rw [ltV] at *
    unfold vbefB at *
    simp only [decide_eq_false_iff_not] at *
    omega

theorem cmpV (blk off size : Nat) (w : World) : CmpLays Try.prog 67 #[] encV 3 vcmpZ blk off size w := by
  intro m os dk _ x y
  refine (vote_compare x y _).mono ?_
  rintro e w' ⟨rfl, rfl⟩
  exact ⟨rfl, 1, #[.cells #[.int .i64 x.r, .int .i64 x.a, .int .i64 x.d] 27, .cells #[.int .i64 y.r, .int .i64 y.a, .int .i64 y.d] 27, .cells #[.int .i64 (cmpZ x.r y.r), .int .i64 (cmpZ x.a y.a)] 3], by
    rw [alloc_eq_grow, alloc_eq_grow, alloc_eq_grow, grow_grow]
    exact grow_grow (sortWorldK encV 3 w blk off m dk os).drew _ _⟩

theorem holdsV {E Ei : TypeId} {w : World} {B hi g n cap : Nat} {cs : List Vt} (h : OwnR E Ei 3 w B hi (.slice (some ⟨g, 0, none⟩) n cap) (cs.map Vt.fd)) : HoldsK encV 3 w g 0 cs.toArray := by
  intro t ht
  rw [size_flatK] at ht
  have htl : t < cs.length * 3 := by simpa using ht
  have hk : t / 3 < cs.length := by omega
  rw [get_flatK _ _ _ _ ht]
  have hk' : t / 3 < (cs.map Vt.fd).length := by simpa using hk
  have he : (cs.map Vt.fd)[t / 3] = cs[t / 3].fd := by simp
  have hd : cs.toArray[t / 3]! = cs[t / 3] := by rw [getElem!_pos _ _ (by simpa using hk)]; simp
  rw [hd]
  have h3 : t % 3 < 3 := Nat.mod_lt _ (by omega)
  have hadr : (⟨g, 0 + t, none⟩ : Addr) = ⟨g, t / 3 * 3 + t % 3, none⟩ := by congr 1; omega
  rw [hadr]
  match hm : t % 3, h3 with
  | 0, _ => exact h.fieldI hk' (j := 0) (by rw [he]; simp [Vt.fd]) (x := cs[t / 3].r) (by simp only [he]; rfl)
  | 1, _ => exact h.fieldI hk' (j := 1) (by rw [he]; simp [Vt.fd]) (x := cs[t / 3].a) (by simp only [he]; rfl)
  | 2, _ => exact h.fieldI hk' (j := 2) (by rw [he]; simp [Vt.fd]) (x := cs[t / 3].d) (by simp only [he]; rfl)
theorem heap_sortedV {w : World} {g n : Nat} {os : Array Obj} {cur : Array Value} {e : TypeId} {fr : Nat × Nat} (d : Array Vt) (hb : w.heap[g]? = some (.cells cur e fr)) :
    (sortWorldK encV 3 w g 0 n d os).heap[g]? = some (.cells (putCells id 0 (flatK encV 3 d) cur) e fr) := by
  have hg : g < w.heap.size := (Array.getElem?_eq_some_iff.1 hb).1
  unfold sortWorldK putRowK
  rw [heap_grow_old _ _ (by simpa using hg)]
  simp [putRow, mapBlock, Sort.ahead, Array.getElem?_modify, hb, onCells]
theorem grownBy_sortedV {w : World} {g n : Nat} {os : Array Obj} (d : Array Vt) : w.grownBy (sortWorldK encV 3 w g 0 n d os) (some g) := by
  unfold sortWorldK putRowK
  refine ⟨rfl, rfl, rfl, by simp, fun k hk hne => ?_⟩
  rw [heap_grow_old _ _ (by simpa using hk)]
  have : g ≠ k := fun e => hne (by rw [e])
  simp [putRow, mapBlock, Sort.ahead, Array.getElem?_modify, this]
theorem ownR_sortedV {E Ei : TypeId} {w : World} {B hi g n cap m : Nat} {os : Array Obj} {cs G : List Vt} (h : OwnR E Ei 3 w B hi (.slice (some ⟨g, 0, none⟩) n cap) (cs.map Vt.fd)) (hl : G.length = cs.length) :
    OwnR E Ei 3 (sortWorldK encV 3 w g 0 m G.toArray os) B hi (.slice (some ⟨g, 0, none⟩) n cap) (G.map Vt.fd) := by
  obtain ⟨_, csv, hrow, _, _, _, _, hv⟩ := h
  obtain ⟨hlen, hr⟩ := hrow
  rcases hr with ⟨e, _⟩ | ⟨g', cap', cur, e, hB, hb, hn, hcap, hcs, _⟩
  · cases e
  cases e
  rw [List.length_map] at *
  have hcell : ∀ t, t < cs.length * 3 → (putCells id 0 (flatK encV 3 G.toArray) cur).toList[t]? = some ((encV (G.toArray[t / 3]!))[t % 3]!) := by
    intro t ht
    have h1 : t < cur.size := by rw [hcs]; exact Nat.lt_of_lt_of_le ht (Nat.mul_le_mul_right 3 hn)
    rw [Array.getElem?_toList]
    unfold putCells
    rw [Array.getElem?_mapIdx, Array.getElem?_eq_getElem h1]
    simp only [Option.map_some, size_flatK, List.size_toArray, Nat.zero_le, Nat.zero_add, true_and, Nat.sub_zero, id]
    rw [if_pos (by rw [hl]; exact ht), get_flatK _ _ _ _ (by simp only [List.size_toArray]; rw [hl]; exact ht)]
  have hget : ∀ k j, k < G.length → j < 3 → (((putCells id 0 (flatK encV 3 G.toArray) cur).toList).take (cs.length * 3))[k * 3 + j]? = some ((encV (G.toArray[k]!))[j]!) := by
    intro k j hk hj
    have ht : k * 3 + j < cs.length * 3 := by omega
    rw [List.getElem?_take_of_lt ht, hcell _ ht, show (k * 3 + j) / 3 = k by omega, show (k * 3 + j) % 3 = j by omega]
  have hnone : ∀ (p : Nat) c, (((putCells id 0 (flatK encV 3 G.toArray) cur).toList).take (cs.length * 3))[p]? = some c → c.ownBlock = none := by
    intro p c hc
    have hp : p < cs.length * 3 := by
      have := (List.getElem?_eq_some_iff.1 hc).1
      rw [List.length_take] at this
      omega
    rw [List.getElem?_take_of_lt hp, hcell p hp] at hc
    cases hc
    have h3 : p % 3 < 3 := Nat.mod_lt _ (by omega)
    match p % 3, h3 with
    | 0, _ => rfl
    | 1, _ => rfl
    | 2, _ => rfl
  have hpc : (putCells id 0 (flatK encV 3 G.toArray) cur).size = cap * 3 := by unfold putCells; rw [Array.size_mapIdx, hcs]
  refine ⟨fun e he => by obtain ⟨x, _, rfl⟩ := List.mem_map.1 he; rfl, _, ⟨?_, .inr ⟨g, cap, _, ?_, hB, heap_sortedV _ hb, ?_, hcap, ?_, rfl⟩⟩, ?_, ?_, ?_, ?_, hv⟩
  · simp only [List.length_take, Array.length_toList, List.length_map, hl, hpc]; exact Nat.min_eq_left (Nat.mul_le_mul_right 3 hn)
  · rw [List.length_map, hl]
  · rw [List.length_map, hl]; exact hn
  · exact hpc
  · intro k j hk hj
    have hk' : k < G.length := by simpa using hk
    have he : (G.map Vt.fd)[k] = G[k].fd := by simp
    have hj' : j < 3 := by rw [he] at hj; simpa [Vt.fd] using hj
    refine ⟨_, by rw [show (G.map Vt.fd).length = cs.length by simp [hl]]; exact hget k j hk' hj', ?_⟩
    have hd : G.toArray[k]! = G[k] := by rw [getElem!_pos _ _ (by simpa using hk')]; simp
    simp only [hd, he]
    match j, hj' with
    | 0, _ => rfl
    | 1, _ => rfl
    | 2, _ => rfl
  · intro p q c d hc hd hne b' hb1
    rw [hnone p c (by simpa [hl] using hc)] at hb1; cases hb1
  · intro p c hc b' hb1
    rw [hnone p c (by simpa [hl] using hc)] at hb1; cases hb1
  · intro p c b' hc hb1
    rw [hnone p c (by simpa [hl] using hc)] at hb1; cases hb1

theorem sorted_of {cs G : List Vt} (hap : ApartV cs) (hp : G.Perm cs) (hs : ∀ i j (hi : i < G.length) (hj : j < G.length), i < j → vbefB G[j] G[i] = false) : G.Pairwise fun x y => vbefB x y = true := by
  have hapG : ApartV G := (hp.pairwise_iff (fun {a b} (h : ¬ SamePl a b) => fun e => h ⟨e.1.symm, e.2.symm⟩)).2 hap
  refine List.pairwise_iff_getElem.2 fun i j hi hj hij => ?_
  have h1 := hs i j hi hj hij
  have h2 := List.pairwise_iff_getElem.1 hapG i j hi hj hij
  unfold vbefB at *
  unfold SamePl at h2
  simp only [decide_eq_false_iff_not, decide_eq_true_eq] at *
  omega

theorem sort_votes (cs : List Vt) (B hi : Nat) (v : Value) (w : World) (hlen : cs.length ≤ 1048576) (hap : ApartV cs) (hown : OwnR 27 3 3 w B hi v (cs.map Vt.fd)) :
    Calls Try.prog 70 #[v, .func (.func 67) #[] #[]] w fun e w' => e = .returned (.tuple #[]) ∧ ∃ G : List Vt, (G.Pairwise fun x y => vbefB x y = true) ∧ (∀ x, x ∈ G ↔ x ∈ cs) ∧ G.length = cs.length ∧ OwnR 27 3 3 w' B hi v (G.map Vt.fd) ∧ w.grownBy w' v.ownBlock := by
  obtain ⟨a, cap, rfl, _⟩ := hown.slice
  rw [List.length_map] at *
  by_cases h0 : cs.length = 0
  · have hn := AnyF.slices_SortFunc_none sortV a cap (.func (.func 67) #[] #[]) w
    change Calls Try.prog 70 _ _ _ at hn
    rw [h0]
    refine hn.mono ?_
    rintro e w' ⟨rfl, rfl⟩
    have hcs : cs = [] := List.eq_nil_of_length_eq_zero h0
    subst hcs
    exact ⟨rfl, [], List.Pairwise.nil, by simp, rfl, hown, World.grownBy.refl _ _⟩
  · obtain ⟨g, cap', he, hB, hg, hgs⟩ := hown.head (by simp; omega)
    simp only [Value.slice.injEq] at he
    obtain ⟨rfl, _, rfl⟩ := he
    have hsz : cs.toArray.size = cs.length := by simp
    have hcon := AnyQ.slices_SortFunc sortV 3 Try.isAgg27 Try.sizeOf27 encV (fun _ => rfl) (fun x v hv => by simp [encV] at hv; rcases hv with rfl | rfl | rfl <;> rfl) vcmpZ swoV 67 #[] g 0 cap cs.toArray w
      (enters_of Try.func67 (by kernel_rfl) rfl) (cmpV g 0 cs.toArray.size w) (holdsV hown) hgs (by rw [hsz]; omega)
    change Calls Try.prog 70 _ _ _ at hcon
    rw [hsz] at hcon
    refine hcon.mono ?_
    rintro e w' ⟨rfl, d', n, os, hp, hs, rfl⟩
    obtain ⟨hd1, _, hd2⟩ := hp
    have hperm : d'.toList.Perm cs := by
      rw [show cs.length = cs.toArray.size by simp, Array.extract_size] at hd2
      rw [show cs.toArray.size = d'.size from hd1.symm, Array.extract_size] at hd2
      simpa using hd2
    have hGl : d'.toList.length = cs.length := hperm.length_eq
    have hsort : ∀ i j (hi : i < d'.toList.length) (hj : j < d'.toList.length), i < j → vbefB d'.toList[j] d'.toList[i] = false := by
      intro i j hi hj hij
      have h := hs i j (Nat.zero_le _) hij (by omega)
      rw [ltV] at h
      rw [getElem!_pos d' j (by simpa using hj), getElem!_pos d' i (by simpa using hi)] at h
      simpa using h
    refine ⟨rfl, d'.toList, sorted_of hap hperm hsort, fun x => hperm.mem_iff, hGl, ?_, grownBy_sortedV d'⟩
    have := ownR_sortedV (m := n) (os := os) hown hGl
    simpa using this

end Go.Proofs.Ytkndndcjchlpdaa
