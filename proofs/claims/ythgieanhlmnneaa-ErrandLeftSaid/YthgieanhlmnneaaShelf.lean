/- The library's SortFunc, ContainsFunc and Grow lie in this program as the library's contracts ask. Conditions: none. -/
import Derived.Shelf.SlicesQ.IndexFunc
import Derived.Test.YthgieanhlmnneaaProg
namespace Go.Proofs.Ythgieanhlmnneaa
open Go.Shelf
def hasFL_ren : Go.Shelf.Ren := ⟨fun | 8 => 40 | 6 => 46 | n => n, fun | 22 => 54 | 23 => 58 | 25 => 70 | 4 => 4 | 3 => 3 | 0 => 0 | n => n, fun | n => n⟩
theorem hasFL : Go.Proofs.SlLaysH0.n8 Try.prog hasFL_ren := {
  mixed := by kernel_rfl
  f6 := ⟨Try.f46.name, by decide, Try.func46.trans (congrArg some (by kernel_rfl))⟩
  f8 := ⟨Try.f40.name, by decide, Try.func40.trans (congrArg some (by kernel_rfl))⟩
  t0 := Try.underlying0
  a0 := Try.isAgg0
  z0 := Try.sizeOf0
  v0 := Try.zeroValue0
  t3 := Try.underlying3
  a3 := Try.isAgg3
  z3 := Try.sizeOf3
  v3 := Try.zeroValue3
  t4 := Try.underlying4
  a4 := Try.isAgg4
  z4 := Try.sizeOf4
  v4 := Try.zeroValue4
  t22 := Try.underlying54
  a22 := Try.isAgg54
  z22 := Try.sizeOf54
  v22 := Try.zeroValue54
  t25 := Try.underlying70
  a25 := Try.isAgg70
  z25 := Try.sizeOf70
  v25 := Try.zeroValue70 }
end Go.Proofs.Ythgieanhlmnneaa
