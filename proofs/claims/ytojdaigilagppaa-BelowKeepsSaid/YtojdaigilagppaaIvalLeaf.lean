/- What Right and Has of layer 2 return, for any span and any minute. Conditions: none. -/
import Derived.Test.YtojdaigilagppaaRows
import Derived.WalkKit
import Derived.WalkSpells
import Derived.WalkSmall
import Derived.Below
import Derived.Lib.Hide
namespace Go.Proofs.Ytojdaigilagppaa
open Go.RowKit

end Go.Proofs.Ytojdaigilagppaa
