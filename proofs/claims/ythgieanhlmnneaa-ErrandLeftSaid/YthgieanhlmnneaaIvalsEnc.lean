/- A span's two cells, as the library's contracts of slices ask for them. Conditions: none. -/
import Derived.Test.YthgieanhlmnneaaIvalsMath
import Derived.WalkKit
namespace Go.Proofs.Ythgieanhlmnneaa

def encS (s : Sp) : List Value := [.int .i64 s.1, .int .i64 s.2]

end Go.Proofs.Ythgieanhlmnneaa
