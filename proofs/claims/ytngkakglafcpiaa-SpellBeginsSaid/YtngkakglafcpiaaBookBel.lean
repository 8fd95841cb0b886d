/- A region that draws its order and makes memory. Conditions: none beyond each lemma's own premises. -/
import Derived.Test.YtngkakglafcpiaaRows
import Derived.Test.YtngkakglafcpiaaBase
import Derived.Test.YtngkakglafcpiaaRow
import Derived.Below
import Derived.Deep.Draws
import Derived.Lib.Hide
import Derived.Deep.QuietTactic
import Derived.KernelRfl
namespace Go.Proofs.Ytngkakglafcpiaa
open Go.RowKit

end Go.Proofs.Ytngkakglafcpiaa
