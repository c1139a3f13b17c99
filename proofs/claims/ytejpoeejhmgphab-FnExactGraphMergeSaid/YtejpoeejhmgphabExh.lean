/- How large the graphs are that adding and merging answer; no conditions. -/
import Derived.Test.YtejpoeejhmgphabExg
import Derived.Test.YtejpoeejhmgphabGv6
namespace Go.Proofs.Ytejpoeejhmgphab
open Go.RowKit

def lnV (g : List Vx) : Nat := (g.map fun x => x.ps.length).sum
theorem lnV_app (a b : List Vx) : lnV (a ++ b) = lnV a + lnV b := by unfold lnV; rw [List.map_append, List.sum_append]
theorem lnV_cut (g : List Vx) (n : Nat) : lnV (g.take n) + lnV (g.drop n) = lnV g := by rw [← lnV_app, List.take_append_drop]
theorem lnTo_vx (g : List Vx) : lnTo (g.map Vx.fd) (g.map Vx.fd).length = lnV g := by
  unfold lnTo lnV
  rw [List.take_length, List.map_map]
  congr 1
  refine List.map_congr_left fun x _ => ?_
  simp [lnE, Vx.fd, Fd.ln]
theorem vx_rowsP (g : List Vx) : ∀ e ∈ g.map Vx.fd, vertexP e := fun e he => by
  obtain ⟨x, _, rfl⟩ := List.mem_map.1 he
  exact ⟨x.r, x.a, x.ps, x.d, rfl⟩
theorem addG_ln (g : List Vx) (x : Vx) : lnV (addG g x) ≤ lnV g + x.ps.length := by
  unfold addG
  split
  · unfold insG
    rw [lnV_app, lnV_app]
    have := lnV_cut g (insN g x)
    have h1 : lnV [x] = x.ps.length := by simp [lnV]
    omega
  · omega
theorem gaG_size (c : List Int) (g : List Vx) (x : Vx) : (gaG c g x).length ≤ g.length + 1 ∧ lnV (gaG c g x) ≤ lnV g + x.ps.length := by
  unfold gaG
  split
  · exact ⟨addG_len g x, addG_ln g x⟩
  · exact ⟨by simp, by simp [lnV]⟩
theorem mrgF_size : ∀ (b a out : List Vx), mrgF a b = some out → out.length ≤ a.length + b.length ∧ lnV out ≤ lnV a + lnV b
  | [], a, out, h => by
    simp only [mrgF, Option.some.injEq] at h
    subst h
    exact ⟨by simp, by simp [lnV]⟩
  | x :: b, a, out, h => by
    rw [mrgF] at h
    split at h
    · cases h
    · have := mrgF_size b _ out h
      have h1 := addG_len a x
      have h2 := addG_ln a x
      have h3 : lnV (x :: b) = x.ps.length + lnV b := by simp [lnV]
      rw [List.length_cons]
      omega
theorem mgG_size (c : List Int) (a b : List Vx) : (mgG c a b).length ≤ a.length + b.length ∧ lnV (mgG c a b) ≤ lnV a + lnV b := by
  unfold mgG mgO
  split
  · cases h : mrgF a b with
    | none => exact ⟨by simp, by simp [lnV]⟩
    | some out => exact mrgF_size b a out h
  · exact ⟨by simp, by simp [lnV]⟩
/-- What the exact laws ask of rows that are answered. -/
theorem vx_answer {R : List Vx} {n m : Nat} (h1 : R.length ≤ n) (h2 : lnV R ≤ m) (hm : m ≤ 1099511627776) :
    (R.map Vx.fd).length ≤ n ∧ (∀ e ∈ R.map Vx.fd, vertexP e) ∧ (∀ e ∈ R.map Vx.fd, lnE e ≤ 1099511627776) ∧ ∀ k, kTo (R.map Vx.fd) k (R.map Vx.fd).length ≤ k + (n * 4 + m) := by
  refine ⟨by simpa using h1, vx_rowsP R, fun e he => ?_, fun k => ?_⟩
  · have := lnTo_in (es := R.map Vx.fd) (m := m) (by rw [lnTo_vx]; exact h2) e he
    omega
  · have := kTo_bd (vertexP_len (vx_rowsP R)) k (R.map Vx.fd).length (Nat.le_refl _)
    rw [lnTo_vx, List.length_map] at this
    have h4 := Nat.mul_le_mul_right 4 h1
    rw [List.length_map]
    omega

end Go.Proofs.Ytejpoeejhmgphab
