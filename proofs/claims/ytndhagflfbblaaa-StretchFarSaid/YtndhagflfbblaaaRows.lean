/-
  No cell of these rows narrows 'for every input' (looked for: loops, veiled, ifaces, maps, wideKeys, modest, calm, conditions, laid).
  DERIVED. THE GIVEN ROWS OF THIS SEAT. 4 by the template 'for every input the law returns true; each argument reads behind the call as it read before'; 0 by the template 'total and deterministic' (their statements: YtndhagflfbblaaaTotals.lean).
  GIVEN WITH THE SEED: the statements are not yours to turn. If you find one false, say at which input.
  Laid BY PROGRAM, IN A SANDBOX (cutbox-rows.mjs): the forced cells as the released guide's own fill.sh prints them over the translation a7d9390929facfe8… (all of the seat's roots in one cut). By AI agents, Wed Nov 11 2026. No macro, syntax, notation, axiom, sorry.
-/
import Derived.Test.YtndhagflfbblaaaChecked
import GoSem.Claim
import GoSem.ClaimJoined
import GoSem.ClaimMapViews
import Derived.JoinedTies
import Derived.KernelRfl
namespace Go.Proofs.Ytndhagflfbblaaa
/- THE CELL 'sum', in the pinned program and in every row, IS THE sha256 OF THE DUMP (.gsa) THAT YtndhagflfbblaaaProg.lean LOADS. Nothing in Lean hashes anything: it is a label: what it is worth is what the hold of that sum in a sandbox is worth. -/
noncomputable def Try.pinned : Pinned := { name := "ytndhagflfbblaaa", sum := "a7d9390929facfe89278b680582ce8413622110b1704ba591f0c770630362a78", checked := Try.checked }
namespace Rows
def none {H : Type} : Left H := { results := [], args := [] }

/-- 'haulierlaw14.StretchOver': WHATEVER THE INPUT: true; the input reads as it did. -/
def stretchOverSpec : ChangeSpec := { name := "stretchOver", fn := fun _ => fun
  | [d1, d2, d3] => { results := [.lit (.bool true)], args := [d1, d2, d3] }
  | _ => none }
def stretchOverRow : OpenClaim := { program := "ytndhagflfbblaaa", sum := "a7d9390929facfe89278b680582ce8413622110b1704ba591f0c770630362a78", func := "haulier/haulierlaw14.StretchOver", spec := "stretchOver", unfollowed := true, recurses := true, apart := false }
def StretchOverSaid : Prop := stretchOverRow.holds Try.pinned (OpenSpec.ofChange stretchOverSpec)

/-- ITS FALSE NEIGHBOUR: 'it returns false'. Refute it at one input. -/
def stretchOverWrong : ChangeSpec := { name := "stretchOver", fn := fun _ => fun
  | [d1, d2, d3] => { results := [.lit (.bool false)], args := [d1, d2, d3] }
  | _ => none }
def StretchOverWrongFalsely : Prop := stretchOverRow.holds Try.pinned (OpenSpec.ofChange stretchOverWrong)

/-- 'haulierlaw14.StretchFar': WHATEVER THE INPUT: true; the input reads as it did. -/
def stretchFarSpec : ChangeSpec := { name := "stretchFar", fn := fun _ => fun
  | [d1, d2, d3] => { results := [.lit (.bool true)], args := [d1, d2, d3] }
  | _ => none }
def stretchFarRow : OpenClaim := { program := "ytndhagflfbblaaa", sum := "a7d9390929facfe89278b680582ce8413622110b1704ba591f0c770630362a78", func := "haulier/haulierlaw14.StretchFar", spec := "stretchFar", unfollowed := true, recurses := true, apart := false }
def StretchFarSaid : Prop := stretchFarRow.holds Try.pinned (OpenSpec.ofChange stretchFarSpec)

/-- ITS FALSE NEIGHBOUR: 'it returns false'. Refute it at one input. -/
def stretchFarWrong : ChangeSpec := { name := "stretchFar", fn := fun _ => fun
  | [d1, d2, d3] => { results := [.lit (.bool false)], args := [d1, d2, d3] }
  | _ => none }
def StretchFarWrongFalsely : Prop := stretchFarRow.holds Try.pinned (OpenSpec.ofChange stretchFarWrong)

/-- 'haulierlaw14.StretchParts': WHATEVER THE INPUT: true; the input reads as it did. -/
def stretchPartsSpec : ChangeSpec := { name := "stretchParts", fn := fun _ => fun
  | [d1, d2, d3] => { results := [.lit (.bool true)], args := [d1, d2, d3] }
  | _ => none }
def stretchPartsRow : OpenClaim := { program := "ytndhagflfbblaaa", sum := "a7d9390929facfe89278b680582ce8413622110b1704ba591f0c770630362a78", func := "haulier/haulierlaw14.StretchParts", spec := "stretchParts", unfollowed := true, recurses := true, apart := false }
def StretchPartsSaid : Prop := stretchPartsRow.holds Try.pinned (OpenSpec.ofChange stretchPartsSpec)

/-- ITS FALSE NEIGHBOUR: 'it returns false'. Refute it at one input. -/
def stretchPartsWrong : ChangeSpec := { name := "stretchParts", fn := fun _ => fun
  | [d1, d2, d3] => { results := [.lit (.bool false)], args := [d1, d2, d3] }
  | _ => none }
def StretchPartsWrongFalsely : Prop := stretchPartsRow.holds Try.pinned (OpenSpec.ofChange stretchPartsWrong)

/-- 'haulierlaw14.StretchEnough': WHATEVER THE INPUT: true; the input reads as it did. -/
def stretchEnoughSpec : ChangeSpec := { name := "stretchEnough", fn := fun _ => fun
  | [d1, d2, d3] => { results := [.lit (.bool true)], args := [d1, d2, d3] }
  | _ => none }
def stretchEnoughRow : OpenClaim := { program := "ytndhagflfbblaaa", sum := "a7d9390929facfe89278b680582ce8413622110b1704ba591f0c770630362a78", func := "haulier/haulierlaw14.StretchEnough", spec := "stretchEnough", unfollowed := true, recurses := true, apart := false }
def StretchEnoughSaid : Prop := stretchEnoughRow.holds Try.pinned (OpenSpec.ofChange stretchEnoughSpec)

/-- ITS FALSE NEIGHBOUR: 'it returns false'. Refute it at one input. -/
def stretchEnoughWrong : ChangeSpec := { name := "stretchEnough", fn := fun _ => fun
  | [d1, d2, d3] => { results := [.lit (.bool false)], args := [d1, d2, d3] }
  | _ => none }
def StretchEnoughWrongFalsely : Prop := stretchEnoughRow.holds Try.pinned (OpenSpec.ofChange stretchEnoughWrong)

/- THE SECOND FORM. 'bulk': how many values and letters a reading holds, each counted each time it is reached (what is shared counts as often as it is met; a slice's spare places count too). A statement '..UptoSaid' is the law's where the arguments, and the package variables that the reading takes, are together of bulk at most 1048576: NARROWER than '..Said'. Prove '..Said' where nothing that the law and all that it calls make is longer than what came in: it says more and counts as full. Else prove '..UptoSaid'. A law counts once. -/
mutual
def uptoBulk {H : Type} : DataW H → Nat
  | .lit (.string bytes) => bytes.length + 1
  | .lit _ => 1
  | .nil => 1
  | .ptr d => uptoBulk d + 1
  | .slice elems spare => uptoBulkAll elems + uptoBulkAll spare + 1
  | .agg parts => uptoBulkAll parts + 1
  | .iface _ d => uptoBulk d + 1
  | .map entries => uptoBulkEntries entries + 1
  | .held _ => 1
def uptoBulkAll {H : Type} : List (DataW H) → Nat
  | [] => 0
  | d :: r => uptoBulk d + uptoBulkAll r
def uptoBulkEntries {H : Type} : List (Lit × DataW H) → Nat
  | [] => 0
  | x :: r => uptoBulkEntry x + uptoBulkEntries r
def uptoBulkEntry {H : Type} : Lit × DataW H → Nat
  | (.string bytes, d) => bytes.length + uptoBulk d + 1
  | (_, d) => uptoBulk d + 1
 end
def uptoSmall : (H : Type) → List (DataW H) → Bool := fun _ ds => decide (uptoBulkAll ds ≤ 1048576)
def OpenSpec.upto (s : _root_.Go.ChangeSpec) : _root_.Go.OpenSpec := { _root_.Go.OpenSpec.ofChange s with cond := some uptoSmall }

/-- 'haulierlaw14.StretchOver', WHERE WHAT IT READS IS OF BULK AT MOST 1048576: true; the input reads as it did. -/
def stretchOverUptoRow : OpenClaim := { program := "ytndhagflfbblaaa", sum := "a7d9390929facfe89278b680582ce8413622110b1704ba591f0c770630362a78", func := "haulier/haulierlaw14.StretchOver", spec := "stretchOver", unfollowed := true, recurses := true, apart := false, narrowed := true }
def StretchOverUptoSaid : Prop := stretchOverUptoRow.holds Try.pinned (OpenSpec.upto stretchOverSpec)

/-- 'haulierlaw14.StretchFar', WHERE WHAT IT READS IS OF BULK AT MOST 1048576: true; the input reads as it did. -/
def stretchFarUptoRow : OpenClaim := { program := "ytndhagflfbblaaa", sum := "a7d9390929facfe89278b680582ce8413622110b1704ba591f0c770630362a78", func := "haulier/haulierlaw14.StretchFar", spec := "stretchFar", unfollowed := true, recurses := true, apart := false, narrowed := true }
def StretchFarUptoSaid : Prop := stretchFarUptoRow.holds Try.pinned (OpenSpec.upto stretchFarSpec)

/-- 'haulierlaw14.StretchParts', WHERE WHAT IT READS IS OF BULK AT MOST 1048576: true; the input reads as it did. -/
def stretchPartsUptoRow : OpenClaim := { program := "ytndhagflfbblaaa", sum := "a7d9390929facfe89278b680582ce8413622110b1704ba591f0c770630362a78", func := "haulier/haulierlaw14.StretchParts", spec := "stretchParts", unfollowed := true, recurses := true, apart := false, narrowed := true }
def StretchPartsUptoSaid : Prop := stretchPartsUptoRow.holds Try.pinned (OpenSpec.upto stretchPartsSpec)

/-- 'haulierlaw14.StretchEnough', WHERE WHAT IT READS IS OF BULK AT MOST 1048576: true; the input reads as it did. -/
def stretchEnoughUptoRow : OpenClaim := { program := "ytndhagflfbblaaa", sum := "a7d9390929facfe89278b680582ce8413622110b1704ba591f0c770630362a78", func := "haulier/haulierlaw14.StretchEnough", spec := "stretchEnough", unfollowed := true, recurses := true, apart := false, narrowed := true }
def StretchEnoughUptoSaid : Prop := stretchEnoughUptoRow.holds Try.pinned (OpenSpec.upto stretchEnoughSpec)

end Rows
end Go.Proofs.Ytndhagflfbblaaa
