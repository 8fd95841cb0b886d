/- The library's Grow lies in this program as the library's contract asks. Conditions: none. -/
import Derived.Shelf.Spec.SlicesGrow
import Derived.Test.YtiamnbddbmgffaaGreatDoorProg
namespace Go.Proofs.YtiamnbddbmgffaaGreatDoor
open Go.Shelf
def growRL_ren : Go.Shelf.Ren := ⟨fun | 4 => 37 | n => n, fun | 22 => 24 | 25 => 50 | 3 => 3 | 4 => 4 | 9 => 9 | 20 => 20 | 0 => 0 | n => n, fun | n => n⟩
theorem growRL : Go.Proofs.Lays8.n4 Tryz.prog growRL_ren := {
  mixed := by kernel_rfl
  f4 := ⟨Tryz.f37.name, by decide, Tryz.func37.trans (congrArg some (by kernel_rfl))⟩
  t0 := Tryz.underlying0
  a0 := Tryz.isAgg0
  z0 := Tryz.sizeOf0
  v0 := Tryz.zeroValue0
  t3 := Tryz.underlying3
  a3 := Tryz.isAgg3
  z3 := Tryz.sizeOf3
  v3 := Tryz.zeroValue3
  t4 := Tryz.underlying4
  a4 := Tryz.isAgg4
  z4 := Tryz.sizeOf4
  v4 := Tryz.zeroValue4
  t9 := Tryz.underlying9
  a9 := Tryz.isAgg9
  z9 := Tryz.sizeOf9
  v9 := Tryz.zeroValue9
  t20 := Tryz.underlying20
  a20 := Tryz.isAgg20
  z20 := Tryz.sizeOf20
  v20 := Tryz.zeroValue20
  t22 := Tryz.underlying24
  a22 := Tryz.isAgg24
  z22 := Tryz.sizeOf24
  v22 := Tryz.zeroValue24 }
end Go.Proofs.YtiamnbddbmgffaaGreatDoor
