/- Where slices.BinarySearch and slices.Insert at ints lie in the program; closed facts. -/
import Derived.Test.YtkndndcjchlpdaaRows
import Derived.Shelf.Slices.SearchI
import Derived.Shelf.Slices.Empties
import Derived.Shelf.Spec.SlicesInsert
import Derived.Shelf.Spec.SlicesInsertGrow
namespace Go.Proofs.Ytkndndcjchlpdaa
open Go.RowKit Go.Shelf

def bsI_ren : Go.Shelf.Ren := ⟨fun | 25 => 62 | 31 => 76 | 32 => 77 | 37 => 84 | n => n, fun | 0 => 0 | 3 => 3 | 4 => 4 | 22 => 49 | 40 => 102 | n => n, fun n => n⟩
theorem bsI : Go.Proofs.Lays2.n25 Try.prog bsI_ren := {
  mixed := by kernel_rfl
  f25 := Try.func62.trans (congrArg some (by kernel_rfl))
  f31 := Try.func76.trans (congrArg some (by kernel_rfl))
  f32 := Try.func77.trans (congrArg some (by kernel_rfl))
  f37 := Try.func84.trans (congrArg some (by kernel_rfl))
  t0 := Try.underlying0
  a0 := Try.isAgg0
  z0 := Try.sizeOf0
  v0 := Try.zeroValue0
  t3 := Try.underlying3
  a3 := Try.isAgg3
  z3 := Try.sizeOf3
  v3 := Try.zeroValue3
  t4 := Try.underlying4
  a4 := Try.isAgg4
  z4 := Try.sizeOf4
  v4 := Try.zeroValue4
  t22 := Try.underlying49
  a22 := Try.isAgg49
  z22 := Try.sizeOf49
  v22 := Try.zeroValue49
  t40 := Try.underlying102
  a40 := Try.isAgg102
  z40 := Try.sizeOf102
  v40 := Try.zeroValue102
}

def insI_ren : Go.Shelf.Ren := ⟨fun | 21 => 63 | 27 => 78 | 28 => 79 | 35 => 85 | 39 => 96 | n => n, fun | 0 => 0 | 3 => 3 | 4 => 4 | 22 => 49 | n => n, fun n => n⟩
theorem insI : Go.Proofs.Lays2.n21 Try.prog insI_ren := {
  mixed := by kernel_rfl
  f21 := Try.func63.trans (congrArg some (by kernel_rfl))
  f27 := Try.func78.trans (congrArg some (by kernel_rfl))
  f28 := Try.func79.trans (congrArg some (by kernel_rfl))
  f35 := Try.func85.trans (congrArg some (by kernel_rfl))
  f39 := Try.func96.trans (congrArg some (by kernel_rfl))
  t0 := Try.underlying0
  a0 := Try.isAgg0
  z0 := Try.sizeOf0
  v0 := Try.zeroValue0
  t3 := Try.underlying3
  a3 := Try.isAgg3
  z3 := Try.sizeOf3
  v3 := Try.zeroValue3
  t4 := Try.underlying4
  a4 := Try.isAgg4
  z4 := Try.sizeOf4
  v4 := Try.zeroValue4
  t22 := Try.underlying49
  a22 := Try.isAgg49
  z22 := Try.sizeOf49
  v22 := Try.zeroValue49
  i3 := by kernel_rfl
}

end Go.Proofs.Ytkndndcjchlpdaa
