/- A region that draws its order and makes memory. Conditions: none beyond each lemma's own premises. -/
import Derived.Test.YtojdaigilagppaaRows
import Derived.Test.YtojdaigilagppaaBase
import Derived.Test.YtojdaigilagppaaRow
import Derived.Below
import Derived.Deep.Draws
import Derived.Lib.Hide
import Derived.Deep.QuietTactic
import Derived.KernelRfl
namespace Go.Proofs.Ytojdaigilagppaa
open Go.RowKit

end Go.Proofs.Ytojdaigilagppaa
