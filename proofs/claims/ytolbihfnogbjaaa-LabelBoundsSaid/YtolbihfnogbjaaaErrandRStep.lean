/- What the document's Step says of one minute. Conditions: the tasks can be read and may be, the spot is right. -/
import Derived.Test.YtolbihfnogbjaaaRows
import Derived.Test.YtolbihfnogbjaaaBase
import Derived.Test.YtolbihfnogbjaaaZ2
import Derived.Test.YtolbihfnogbjaaaZ3
import Derived.Test.YtolbihfnogbjaaaZ1
import Derived.Test.YtolbihfnogbjaaaZ7
import Derived.Test.YtolbihfnogbjaaaZ8
import Derived.Test.YtolbihfnogbjaaaErrandRStepD
import Derived.Test.YtolbihfnogbjaaaErrandRStepW
import Derived.Test.YtolbihfnogbjaaaErrandRStepO
import Derived.WalkKit
import Derived.WalkSpells
import Derived.WalkSmall
import Derived.Below
import Derived.Lib.Hide
namespace Go.Proofs.Ytolbihfnogbjaaa
open Go.RowKit

theorem refstep19_any (A : Option Addr) (n c : Nat) (l : List Tk) (hn : l.length = n) (i x y m k : Int) (w : World) (h : RdK w A l) (few : Few l) (hl : n ≤ 2001) (ok : ∀ t ∈ l, TkOk t) (fit : Fits l (i, x, y)) :
    Calls Try.prog 25 #[.slice A n c, .agg #[.int .i64 i, .int .i64 x, .int .i64 y], .int .i64 m, .int .i64 k] w fun e w' => e = .returned (.tuple #[.agg (sp3 (stepT l (i, x, y) k)), .agg #[.bool (b0 l (i, x, y) k), .bool (b1 l (i, x, y) k), .bool (b2 l (i, x, y) m k), .bool (b3 (i, x, y) k)]]) ∧ Below w.heap.size w w' := by
  by_cases k3 : k = 3
  · subst k3; exact refstep_drive A n c l hn i x y m w h few hl ok fit
  · by_cases k2 : k = 2
    · subst k2; exact refstep_work A n c l hn i x y m w h few hl ok fit
    · exact refstep_rest A n c l hn i x y m k w h few hl ok fit k3 k2

end Go.Proofs.Ytolbihfnogbjaaa
