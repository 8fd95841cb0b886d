/- The library's SortFunc, ContainsFunc and Grow lie in this program as the library's contracts ask. Conditions: none. -/
import Derived.Shelf.SlicesQ.IndexFunc
import Derived.Test.YtiamnbddbmgffaaGreatDoorProg
namespace Go.Proofs.YtiamnbddbmgffaaGreatDoor
open Go.Shelf
def hasFL_ren : Go.Shelf.Ren := ⟨fun | 8 => 137 | 6 => 167 | n => n, fun | 22 => 75 | 23 => 121 | 25 => 168 | 4 => 4 | 3 => 3 | 0 => 0 | n => n, fun | n => n⟩
theorem hasFL : Go.Proofs.SlLaysH0.n8 Tryz.prog hasFL_ren := {
  mixed := by kernel_rfl
  f6 := ⟨Tryz.f167.name, by decide, Tryz.func167.trans (congrArg some (by kernel_rfl))⟩
  f8 := ⟨Tryz.f137.name, by decide, Tryz.func137.trans (congrArg some (by kernel_rfl))⟩
  t0 := Tryz.underlying0
  a0 := Tryz.isAgg0
  z0 := Tryz.sizeOf0
  v0 := Tryz.zeroValue0
  t3 := Tryz.underlying3
  a3 := Tryz.isAgg3
  z3 := Tryz.sizeOf3
  v3 := Tryz.zeroValue3
  t4 := Tryz.underlying4
  a4 := Tryz.isAgg4
  z4 := Tryz.sizeOf4
  v4 := Tryz.zeroValue4
  t22 := Tryz.underlying75
  a22 := Tryz.isAgg75
  z22 := Tryz.sizeOf75
  v22 := Tryz.zeroValue75
  t25 := Tryz.underlying168
  a25 := Tryz.isAgg168
  z25 := Tryz.sizeOf168
  v25 := Tryz.zeroValue168 }
end Go.Proofs.YtiamnbddbmgffaaGreatDoor
