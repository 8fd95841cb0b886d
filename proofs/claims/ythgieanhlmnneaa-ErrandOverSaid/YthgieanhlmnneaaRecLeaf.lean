/- What the small functions of layer 8 return: isKind, inTime, span, alone, behind. Conditions: none. -/
import Derived.Test.YthgieanhlmnneaaRows
import Derived.Test.YthgieanhlmnneaaBase
import Derived.Test.YthgieanhlmnneaaRecMath
import Derived.Test.YthgieanhlmnneaaIvalLeaf
import Derived.WalkKit
import Derived.WalkSpells
import Derived.WalkSmall
import Derived.Below
import Derived.Outline
import Derived.OwnWalk
import Derived.Lib.Hide
import Derived.BigQuiet
import Derived.Deep.QuietTactic
namespace Go.Proofs.Ythgieanhlmnneaa
open Go.RowKit

end Go.Proofs.Ythgieanhlmnneaa
