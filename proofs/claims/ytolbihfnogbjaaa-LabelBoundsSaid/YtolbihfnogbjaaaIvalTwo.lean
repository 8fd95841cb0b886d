/- What Both, Hull and Meets of layer 2 return, for any two spans. Conditions: none. -/
import Derived.Test.YtolbihfnogbjaaaRows
import Derived.Test.YtolbihfnogbjaaaBase
import Derived.Test.YtolbihfnogbjaaaIvalLeaf
import Derived.WalkKit
import Derived.WalkSpells
import Derived.WalkSmall
import Derived.Below
import Derived.Lib.Hide
import Derived.Outline
import Derived.Deep.RegionWith
namespace Go.Proofs.Ytolbihfnogbjaaa
open Go.RowKit

/-- The greater and the lesser of two. -/
def up2 (a b : Int) : Int := if b ≤ a then a else b
def lo2 (a b : Int) : Int := if a ≤ b then a else b

theorem up2_l {a b : Int} (h : b ≤ a) : up2 a b = a := if_pos h
theorem up2_r {a b : Int} (h : ¬ b ≤ a) : up2 a b = b := if_neg h
theorem lo2_l {a b : Int} (h : a ≤ b) : lo2 a b = a := if_pos h
theorem lo2_r {a b : Int} (h : ¬ a ≤ b) : lo2 a b = b := if_neg h

/-- What Both and Hull tell. -/
def bothv (a0 a1 b0 b1 : Int) : Int × Int × Bool := if up2 a0 b0 < lo2 a1 b1 then (up2 a0 b0, lo2 a1 b1, true) else (0, 0, false)
def hullv (a0 a1 b0 b1 : Int) : Int × Int × Bool := if a0 < a1 ∧ b0 < b1 then (lo2 a0 b0, up2 a1 b1, true) else (0, 0, false)

end Go.Proofs.Ytolbihfnogbjaaa
