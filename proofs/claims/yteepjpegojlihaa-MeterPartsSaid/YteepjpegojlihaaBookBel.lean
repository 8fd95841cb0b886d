/- A region that draws its order and makes memory. Conditions: none beyond each lemma's own premises. -/
import Derived.Test.YteepjpegojlihaaRows
import Derived.Test.YteepjpegojlihaaBase
import Derived.Test.YteepjpegojlihaaRow
import Derived.Below
import Derived.Deep.Draws
import Derived.Lib.Hide
import Derived.Deep.QuietTactic
import Derived.KernelRfl
namespace Go.Proofs.Yteepjpegojlihaa
open Go.RowKit

end Go.Proofs.Yteepjpegojlihaa
