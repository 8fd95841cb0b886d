/- What Check of layer 8 returns: the first record that is wrong, and what is wrong with it. Conditions: the records can be read. -/
import Derived.Test.YthgieanhlmnneaaRows
import Derived.Test.YthgieanhlmnneaaBase
import Derived.Test.YthgieanhlmnneaaRow
import Derived.Test.YthgieanhlmnneaaRecMath
import Derived.Test.YthgieanhlmnneaaRecHeap
import Derived.Test.YthgieanhlmnneaaRecLeaf
import Derived.WalkKit
import Derived.WalkSpells
import Derived.WalkSmall
import Derived.Below
import Derived.Outline
import Derived.OwnWalk
import Derived.Lib.Hide
import Derived.BigQuiet
import Derived.Deep.QuietTactic
namespace Go.Proofs.Ythgieanhlmnneaa
open Go.RowKit

theorem fault_one {l : List Rc} (h : faultV l 0 = 0) : ∀ j, j < 0 + 1 → faultV l j = 0 := fun j hj => by
  obtain rfl : j = 0 := by omega
  exact h

end Go.Proofs.Ythgieanhlmnneaa
