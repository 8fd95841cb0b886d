/- A region that draws its order and makes memory. Conditions: none beyond each lemma's own premises. -/
import Derived.Test.YtndhagflfbblaaaRows
import Derived.Test.YtndhagflfbblaaaBase
import Derived.Test.YtndhagflfbblaaaRow
import Derived.Below
import Derived.Deep.Draws
import Derived.Lib.Hide
import Derived.Deep.QuietTactic
import Derived.KernelRfl
namespace Go.Proofs.Ytndhagflfbblaaa
open Go.RowKit

end Go.Proofs.Ytndhagflfbblaaa
