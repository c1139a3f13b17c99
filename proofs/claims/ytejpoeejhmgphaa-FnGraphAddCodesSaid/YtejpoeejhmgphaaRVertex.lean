/- The exact laws' functions on values and lists of Vertex: sameness, copies, sizes, marks, each by a walk of its text; conditions: the lists are no longer than the laws' bound. -/
import Derived.Test.YtejpoeejhmgphaaRows
import Derived.Test.YtejpoeejhmgphaaBase
import Derived.Test.YtejpoeejhmgphaaApp
import Derived.Test.YtejpoeejhmgphaaDt
import Derived.Test.YtejpoeejhmgphaaOwR
import Derived.Test.YtejpoeejhmgphaaOwS
import Derived.Test.YtejpoeejhmgphaaRow
import Derived.Test.YtejpoeejhmgphaaEx
import Derived.Test.YtejpoeejhmgphaaHeld
import Derived.Test.YtejpoeejhmgphaaL1
import Derived.Test.YtejpoeejhmgphaaL2
import Derived.Test.YtejpoeejhmgphaaOpen
import Derived.Deep.QuietTactic
import Derived.BigQuiet
namespace Go.Proofs.Ytejpoeejhmgphaa
open Go.RowKit

def vertexP (e : List Fd) : Prop := ∃ (x0 : Int) (x1 : Int) (x2 : List Int) (x3 : Int), e = [.i x0, .i x1, .l x2, .i x3]
theorem vertexP_len {es : List (List Fd)} (h : ∀ e ∈ es, vertexP e) : ∀ e ∈ es, e.length = 4 := by
  intro e he
  obtain ⟨_, _, _, _, rfl⟩ := h e he
  rfl

theorem vertex_inf : (Try.prog.info? 30).map (fun i => (i.zero, i.size, i.bytes)) = some (some (.agg #[.int .i64 0, .int .i64 0, .slice none 0 0, .int .i64 0]), 4, 48) := by kernel_rfl
theorem vertex_new {B hi : Nat} {w : World} (x0 : Int) (x1 : Int) (x3 : Int) {a2 : Option Addr} {c2 : Nat} {x2 : List Int} (h : Own 3 w hi (.slice a2 x2.length c2) x2) (hB : B ≤ hi) :
    (∀ j (hj : j < [Fd.i x0, Fd.i x1, .l x2, Fd.i x3].length), ∃ c, [Value.int .i64 x0, Value.int .i64 x1, Value.slice a2 x2.length c2, Value.int .i64 x3][j]? = some c ∧ FdOk 3 w B c ([Fd.i x0, Fd.i x1, .l x2, Fd.i x3])[j]) ∧ (∀ (p q : Nat) c d, [Value.int .i64 x0, Value.int .i64 x1, Value.slice a2 x2.length c2, Value.int .i64 x3][p]? = some c → [Value.int .i64 x0, Value.int .i64 x1, Value.slice a2 x2.length c2, Value.int .i64 x3][q]? = some d → p ≠ q → Apart c d) ∧ ∀ c ∈ [Value.int .i64 x0, Value.int .i64 x1, Value.slice a2 x2.length c2, Value.int .i64 x3], ∀ g, c.ownBlock = some g → hi ≤ g := by
  refine ⟨fun j hj => ?_, fun p q c d hp hq hne g hc hd => ?_, fun c hc g hg => ?_⟩
  · match j, hj with
    | 0, _ => exact ⟨_, rfl, rfl⟩
    | 1, _ => exact ⟨_, rfl, rfl⟩
    | 2, _ => exact ⟨_, rfl, h.mono hB⟩
    | 3, _ => exact ⟨_, rfl, rfl⟩
  · have no : ∀ (p : Nat) c, p ≠ 2 → [Value.int .i64 x0, Value.int .i64 x1, Value.slice a2 x2.length c2, Value.int .i64 x3][p]? = some c → c.ownBlock = none := by
      intro p c hp hc
      match p, hc with
      | 0, hc => cases hc; rfl
      | 1, hc => cases hc; rfl
      | 2, hc => exact absurd rfl hp
      | 3, hc => cases hc; rfl
      | p + 4, hc => simp at hc
    by_cases e : p = 2
    · have := no q d (fun h => hne (e.trans h.symm)) hq
      rw [this] at hd; cases hd
    · have := no p c e hp
      rw [this] at hc; cases hc
  · simp only [List.mem_cons, List.not_mem_nil, or_false] at hc
    rcases hc with rfl | rfl | rfl | rfl
    · cases hg
    · cases hg
    · exact (h.lt g hg).1
    · cases hg

theorem vertex_info : (Try.prog.info? 30).map (fun i => (i.zero, i.size, i.bytes)) = some (some (.agg #[.int .i64 0, .int .i64 0, .slice none 0 0, .int .i64 0]), 4, 48) := by kernel_rfl

