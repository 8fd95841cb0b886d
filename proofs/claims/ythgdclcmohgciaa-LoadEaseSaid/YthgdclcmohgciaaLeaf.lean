/- What Sub, Two and their like of layer 1 return, for any two numbers of 64 bits: the value that fits, or 0 and the error 19. Conditions: the arguments fit 64 bits. -/
import Derived.Test.YthgdclcmohgciaaRows
import Derived.Test.YthgdclcmohgciaaMath
import Derived.WalkKit
import Derived.WalkSpells
import Derived.Lib.Hide
namespace Go.Proofs.Ythgdclcmohgciaa
open Go.RowKit

end Go.Proofs.Ythgdclcmohgciaa
