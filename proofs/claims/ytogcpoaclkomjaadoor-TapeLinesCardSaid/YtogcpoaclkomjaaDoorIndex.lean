/- The library's IndexByte lies in this program as the library's contract asks. Conditions: none. -/
import Derived.Shelf.Small.Strs
import Derived.Test.YtogcpoaclkomjaaDoorProg
namespace Go.Proofs.YtogcpoaclkomjaaDoor
open Go.Shelf
def ibL_ren : Go.Shelf.Ren := ⟨fun | 137 => 56 | 217 => 65 | 266 => 70 | n => n, fun | 9 => 9 | 5 => 5 | 3 => 3 | n => n, fun | n => n⟩
theorem ibL : Go.Proofs.Lays.n137 Tryd.prog ibL_ren := {
  mixed := by kernel_rfl
  f137 := Tryd.func56.trans (congrArg some (by kernel_rfl))
  f217 := Tryd.func65.trans (congrArg some (by kernel_rfl))
  f266 := Tryd.func70.trans (congrArg some (by kernel_rfl))
  t3 := Tryd.underlying3
  a3 := Tryd.isAgg3
  z3 := Tryd.sizeOf3
  v3 := Tryd.zeroValue3
  t5 := Tryd.underlying5
  a5 := Tryd.isAgg5
  z5 := Tryd.sizeOf5
  v5 := Tryd.zeroValue5
  t9 := Tryd.underlying9
  a9 := Tryd.isAgg9
  z9 := Tryd.sizeOf9
  v9 := Tryd.zeroValue9 }
open Go.RowKit in
theorem index_any (s : ByteArray) (c : Int) (w : World) :
    Calls Tryd.prog 56 #[.string s, .int .u8 c] w fun e w' => e = .returned (.int .i64 (Lib.indexByte s.data.toList c.toNat.toUInt8)) ∧ w' = w := Any.strings_IndexByte ibL s c w

end Go.Proofs.YtogcpoaclkomjaaDoor
