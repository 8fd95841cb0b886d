/- The library's SortFunc, ContainsFunc and Grow lie in this program as the library's contracts ask. Conditions: none. -/
import Derived.Shelf.SlicesQ.IndexFunc
import Derived.Test.YtolbihfnogbjaaaProg
namespace Go.Proofs.Ytolbihfnogbjaaa
open Go.Shelf
def hasFL_ren : Go.Shelf.Ren := ⟨fun | 8 => 68 | 6 => 75 | n => n, fun | 22 => 57 | 23 => 102 | 25 => 100 | 4 => 4 | 3 => 3 | 0 => 0 | n => n, fun | n => n⟩
theorem hasFL : Go.Proofs.SlLaysH0.n8 Try.prog hasFL_ren := {
  mixed := by kernel_rfl
  f6 := ⟨Try.f75.name, by decide, Try.func75.trans (congrArg some (by kernel_rfl))⟩
  f8 := ⟨Try.f68.name, by decide, Try.func68.trans (congrArg some (by kernel_rfl))⟩
  t0 := Try.underlying0
  a0 := Try.isAgg0
  z0 := Try.sizeOf0
  v0 := Try.zeroValue0
  t3 := Try.underlying3
  a3 := Try.isAgg3
  z3 := Try.sizeOf3
  v3 := Try.zeroValue3
  t4 := Try.underlying4
  a4 := Try.isAgg4
  z4 := Try.sizeOf4
  v4 := Try.zeroValue4
  t22 := Try.underlying57
  a22 := Try.isAgg57
  z22 := Try.sizeOf57
  v22 := Try.zeroValue57
  t25 := Try.underlying100
  a25 := Try.isAgg100
  z25 := Try.sizeOf100
  v25 := Try.zeroValue100 }
end Go.Proofs.Ytolbihfnogbjaaa
