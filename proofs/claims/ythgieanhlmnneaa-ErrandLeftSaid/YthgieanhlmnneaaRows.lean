/-
  No cell of these rows narrows 'for every input' (looked for: loops, veiled, ifaces, maps, wideKeys, modest, calm, conditions, laid).
  DERIVED. THE GIVEN ROWS OF THIS SEAT. 4 by the template 'for every input the law returns true; each argument reads behind the call as it read before'; 0 by the template 'total and deterministic' (their statements: YthgieanhlmnneaaTotals.lean).
  GIVEN WITH THE SEED: the statements are not yours to turn. If you find one false, say at which input.
  Laid BY PROGRAM, IN A SANDBOX (cutbox-rows.mjs): the forced cells as the released guide's own fill.sh prints them over the translation f1e33a3c9e9ae8b1… (all of the seat's roots in one cut). By AI agents, Wed Nov 11 2026. No macro, syntax, notation, axiom, sorry.
-/
import Derived.Test.YthgieanhlmnneaaChecked
import GoSem.Claim
import GoSem.ClaimJoined
import GoSem.ClaimMapViews
import Derived.JoinedTies
import Derived.KernelRfl
namespace Go.Proofs.Ythgieanhlmnneaa
/- THE CELL 'sum', in the pinned program and in every row, IS THE sha256 OF THE DUMP (.gsa) THAT YthgieanhlmnneaaProg.lean LOADS. Nothing in Lean hashes anything: it is a label: what it is worth is what the hold of that sum in a sandbox is worth. -/
noncomputable def Try.pinned : Pinned := { name := "ythgieanhlmnneaa", sum := "f1e33a3c9e9ae8b192e5755fdfdb37c55f48728bc1a85ca8f6fb252e7eb32036", checked := Try.checked }
namespace Rows
def none {H : Type} : Left H := { results := [], args := [] }

/-- 'haulierlaw19.ErrandChecks': WHATEVER THE INPUT: true; the input reads as it did. -/
def errandChecksSpec : ChangeSpec := { name := "errandChecks", fn := fun _ => fun
  | [d1, d2] => { results := [.lit (.bool true)], args := [d1, d2] }
  | _ => none }
def errandChecksRow : OpenClaim := { program := "ythgieanhlmnneaa", sum := "f1e33a3c9e9ae8b192e5755fdfdb37c55f48728bc1a85ca8f6fb252e7eb32036", func := "haulier/haulierlaw19.ErrandChecks", spec := "errandChecks", unfollowed := true, recurses := true, apart := false }
def ErrandChecksSaid : Prop := errandChecksRow.holds Try.pinned (OpenSpec.ofChange errandChecksSpec)

/-- ITS FALSE NEIGHBOUR: 'it returns false'. Refute it at one input. -/
def errandChecksWrong : ChangeSpec := { name := "errandChecks", fn := fun _ => fun
  | [d1, d2] => { results := [.lit (.bool false)], args := [d1, d2] }
  | _ => none }
def ErrandChecksWrongFalsely : Prop := errandChecksRow.holds Try.pinned (OpenSpec.ofChange errandChecksWrong)

/-- 'haulierlaw19.ErrandSteps': WHATEVER THE INPUT: true; the input reads as it did. -/
def errandStepsSpec : ChangeSpec := { name := "errandSteps", fn := fun _ => fun
  | [d1, d2, d3] => { results := [.lit (.bool true)], args := [d1, d2, d3] }
  | _ => none }
def errandStepsRow : OpenClaim := { program := "ythgieanhlmnneaa", sum := "f1e33a3c9e9ae8b192e5755fdfdb37c55f48728bc1a85ca8f6fb252e7eb32036", func := "haulier/haulierlaw19.ErrandSteps", spec := "errandSteps", unfollowed := true, recurses := true, apart := false }
def ErrandStepsSaid : Prop := errandStepsRow.holds Try.pinned (OpenSpec.ofChange errandStepsSpec)

/-- ITS FALSE NEIGHBOUR: 'it returns false'. Refute it at one input. -/
def errandStepsWrong : ChangeSpec := { name := "errandSteps", fn := fun _ => fun
  | [d1, d2, d3] => { results := [.lit (.bool false)], args := [d1, d2, d3] }
  | _ => none }
def ErrandStepsWrongFalsely : Prop := errandStepsRow.holds Try.pinned (OpenSpec.ofChange errandStepsWrong)

/-- 'haulierlaw19.ErrandOver': WHATEVER THE INPUT: true; the input reads as it did. -/
def errandOverSpec : ChangeSpec := { name := "errandOver", fn := fun _ => fun
  | [d1, d2, d3] => { results := [.lit (.bool true)], args := [d1, d2, d3] }
  | _ => none }
def errandOverRow : OpenClaim := { program := "ythgieanhlmnneaa", sum := "f1e33a3c9e9ae8b192e5755fdfdb37c55f48728bc1a85ca8f6fb252e7eb32036", func := "haulier/haulierlaw19.ErrandOver", spec := "errandOver", unfollowed := true, recurses := true, apart := false }
def ErrandOverSaid : Prop := errandOverRow.holds Try.pinned (OpenSpec.ofChange errandOverSpec)

/-- ITS FALSE NEIGHBOUR: 'it returns false'. Refute it at one input. -/
def errandOverWrong : ChangeSpec := { name := "errandOver", fn := fun _ => fun
  | [d1, d2, d3] => { results := [.lit (.bool false)], args := [d1, d2, d3] }
  | _ => none }
def ErrandOverWrongFalsely : Prop := errandOverRow.holds Try.pinned (OpenSpec.ofChange errandOverWrong)

/-- 'haulierlaw19.ErrandLeft': WHATEVER THE INPUT: true; the input reads as it did. -/
def errandLeftSpec : ChangeSpec := { name := "errandLeft", fn := fun _ => fun
  | [d1, d2, d3] => { results := [.lit (.bool true)], args := [d1, d2, d3] }
  | _ => none }
def errandLeftRow : OpenClaim := { program := "ythgieanhlmnneaa", sum := "f1e33a3c9e9ae8b192e5755fdfdb37c55f48728bc1a85ca8f6fb252e7eb32036", func := "haulier/haulierlaw19.ErrandLeft", spec := "errandLeft", unfollowed := true, recurses := true, apart := false }
def ErrandLeftSaid : Prop := errandLeftRow.holds Try.pinned (OpenSpec.ofChange errandLeftSpec)

/-- ITS FALSE NEIGHBOUR: 'it returns false'. Refute it at one input. -/
def errandLeftWrong : ChangeSpec := { name := "errandLeft", fn := fun _ => fun
  | [d1, d2, d3] => { results := [.lit (.bool false)], args := [d1, d2, d3] }
  | _ => none }
def ErrandLeftWrongFalsely : Prop := errandLeftRow.holds Try.pinned (OpenSpec.ofChange errandLeftWrong)

/- THE SECOND FORM. 'bulk': how many values and letters a reading holds, each counted each time it is reached (what is shared counts as often as it is met; a slice's spare places count too). A statement '..UptoSaid' is the law's where the arguments, and the package variables that the reading takes, are together of bulk at most 1048576: NARROWER than '..Said'. Prove '..Said' where nothing that the law and all that it calls make is longer than what came in: it says more and counts as full. Else prove '..UptoSaid'. A law counts once. -/
mutual
def uptoBulk {H : Type} : DataW H → Nat
  | .lit (.string bytes) => bytes.length + 1
  | .lit _ => 1
  | .nil => 1
  | .ptr d => uptoBulk d + 1
  | .slice elems spare => uptoBulkAll elems + uptoBulkAll spare + 1
  | .agg parts => uptoBulkAll parts + 1
  | .iface _ d => uptoBulk d + 1
  | .map entries => uptoBulkEntries entries + 1
  | .held _ => 1
def uptoBulkAll {H : Type} : List (DataW H) → Nat
  | [] => 0
  | d :: r => uptoBulk d + uptoBulkAll r
def uptoBulkEntries {H : Type} : List (Lit × DataW H) → Nat
  | [] => 0
  | x :: r => uptoBulkEntry x + uptoBulkEntries r
def uptoBulkEntry {H : Type} : Lit × DataW H → Nat
  | (.string bytes, d) => bytes.length + uptoBulk d + 1
  | (_, d) => uptoBulk d + 1
 end
def uptoSmall : (H : Type) → List (DataW H) → Bool := fun _ ds => decide (uptoBulkAll ds ≤ 1048576)
def OpenSpec.upto (s : _root_.Go.ChangeSpec) : _root_.Go.OpenSpec := { _root_.Go.OpenSpec.ofChange s with cond := some uptoSmall }

/-- 'haulierlaw19.ErrandChecks', WHERE WHAT IT READS IS OF BULK AT MOST 1048576: true; the input reads as it did. -/
def errandChecksUptoRow : OpenClaim := { program := "ythgieanhlmnneaa", sum := "f1e33a3c9e9ae8b192e5755fdfdb37c55f48728bc1a85ca8f6fb252e7eb32036", func := "haulier/haulierlaw19.ErrandChecks", spec := "errandChecks", unfollowed := true, recurses := true, apart := false, narrowed := true }
def ErrandChecksUptoSaid : Prop := errandChecksUptoRow.holds Try.pinned (OpenSpec.upto errandChecksSpec)

/-- 'haulierlaw19.ErrandSteps', WHERE WHAT IT READS IS OF BULK AT MOST 1048576: true; the input reads as it did. -/
def errandStepsUptoRow : OpenClaim := { program := "ythgieanhlmnneaa", sum := "f1e33a3c9e9ae8b192e5755fdfdb37c55f48728bc1a85ca8f6fb252e7eb32036", func := "haulier/haulierlaw19.ErrandSteps", spec := "errandSteps", unfollowed := true, recurses := true, apart := false, narrowed := true }
def ErrandStepsUptoSaid : Prop := errandStepsUptoRow.holds Try.pinned (OpenSpec.upto errandStepsSpec)

/-- 'haulierlaw19.ErrandOver', WHERE WHAT IT READS IS OF BULK AT MOST 1048576: true; the input reads as it did. -/
def errandOverUptoRow : OpenClaim := { program := "ythgieanhlmnneaa", sum := "f1e33a3c9e9ae8b192e5755fdfdb37c55f48728bc1a85ca8f6fb252e7eb32036", func := "haulier/haulierlaw19.ErrandOver", spec := "errandOver", unfollowed := true, recurses := true, apart := false, narrowed := true }
def ErrandOverUptoSaid : Prop := errandOverUptoRow.holds Try.pinned (OpenSpec.upto errandOverSpec)

/-- 'haulierlaw19.ErrandLeft', WHERE WHAT IT READS IS OF BULK AT MOST 1048576: true; the input reads as it did. -/
def errandLeftUptoRow : OpenClaim := { program := "ythgieanhlmnneaa", sum := "f1e33a3c9e9ae8b192e5755fdfdb37c55f48728bc1a85ca8f6fb252e7eb32036", func := "haulier/haulierlaw19.ErrandLeft", spec := "errandLeft", unfollowed := true, recurses := true, apart := false, narrowed := true }
def ErrandLeftUptoSaid : Prop := errandLeftUptoRow.holds Try.pinned (OpenSpec.upto errandLeftSpec)

end Rows
end Go.Proofs.Ythgieanhlmnneaa
