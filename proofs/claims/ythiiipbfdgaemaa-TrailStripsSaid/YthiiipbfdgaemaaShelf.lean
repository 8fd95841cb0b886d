/- The library's SortFunc, ContainsFunc and Grow lie in this program as the library's contracts ask. Conditions: none. -/
import Derived.Shelf.SlicesQ.IndexFunc
import Derived.Test.YthiiipbfdgaemaaProg
namespace Go.Proofs.Ythiiipbfdgaemaa
open Go.Shelf
def hasFL_ren : Go.Shelf.Ren := ⟨fun | 8 => 93 | 6 => 99 | n => n, fun | 22 => 51 | 23 => 56 | 25 => 99 | 4 => 4 | 3 => 3 | 0 => 0 | n => n, fun | n => n⟩
theorem hasFL : Go.Proofs.SlLaysH0.n8 Try.prog hasFL_ren := {
  mixed := by kernel_rfl
  f6 := ⟨Try.f99.name, by decide, Try.func99.trans (congrArg some (by kernel_rfl))⟩
  f8 := ⟨Try.f93.name, by decide, Try.func93.trans (congrArg some (by kernel_rfl))⟩
  t0 := Try.underlying0
  a0 := Try.isAgg0
  z0 := Try.sizeOf0
  v0 := Try.zeroValue0
  t3 := Try.underlying3
  a3 := Try.isAgg3
  z3 := Try.sizeOf3
  v3 := Try.zeroValue3
  t4 := Try.underlying4
  a4 := Try.isAgg4
  z4 := Try.sizeOf4
  v4 := Try.zeroValue4
  t22 := Try.underlying51
  a22 := Try.isAgg51
  z22 := Try.sizeOf51
  v22 := Try.zeroValue51
  t25 := Try.underlying99
  a25 := Try.isAgg99
  z25 := Try.sizeOf99
  v25 := Try.zeroValue99 }
end Go.Proofs.Ythiiipbfdgaemaa
