/-
  No cell of these rows narrows 'for every input' (looked for: loops, veiled, ifaces, maps, wideKeys, modest, calm, conditions, laid).
  DERIVED. THE GIVEN ROWS OF THIS SEAT. 5 by the template 'for every input the law returns true; each argument reads behind the call as it read before'; 0 by the template 'total and deterministic' (their statements: YtlbafgdbemhanaaTotals.lean).
  GIVEN WITH THE SEED: the statements are not yours to turn. If you find one false, say at which input.
  Laid BY PROGRAM, IN A SANDBOX (cutbox-rows.mjs): the forced cells as the released guide's own fill.sh prints them over the translation a76ddd933e6b6b6c… (all of the seat's roots in one cut). By AI agents, Wed Nov 11 2026. No macro, syntax, notation, axiom, sorry.
-/
import Derived.Test.YtlbafgdbemhanaaChecked
import GoSem.Claim
import GoSem.ClaimJoined
import GoSem.ClaimMapViews
import Derived.JoinedTies
import Derived.KernelRfl
namespace Go.Proofs.Ytlbafgdbemhanaa
/- THE CELL 'sum', in the pinned program and in every row, IS THE sha256 OF THE DUMP (.gsa) THAT YtlbafgdbemhanaaProg.lean LOADS. Nothing in Lean hashes anything: it is a label: what it is worth is what the hold of that sum in a sandbox is worth. -/
noncomputable def Try.pinned : Pinned := { name := "ytlbafgdbemhanaa", sum := "a76ddd933e6b6b6c445b5eab20e49bb952409ae3479e3f8941228f00ab224e96", checked := Try.checked }
namespace Rows
def none {H : Type} : Left H := { results := [], args := [] }

/-- 'haulierlaw16.DutyAudits': WHATEVER THE INPUT: true; the input reads as it did. -/
def dutyAuditsSpec : ChangeSpec := { name := "dutyAudits", fn := fun _ => fun
  | [d1, d2] => { results := [.lit (.bool true)], args := [d1, d2] }
  | _ => none }
def dutyAuditsRow : OpenClaim := { program := "ytlbafgdbemhanaa", sum := "a76ddd933e6b6b6c445b5eab20e49bb952409ae3479e3f8941228f00ab224e96", func := "haulier/haulierlaw16.DutyAudits", spec := "dutyAudits", unfollowed := true, recurses := true, apart := false }
def DutyAuditsSaid : Prop := dutyAuditsRow.holds Try.pinned (OpenSpec.ofChange dutyAuditsSpec)

/-- ITS FALSE NEIGHBOUR: 'it returns false'. Refute it at one input. -/
def dutyAuditsWrong : ChangeSpec := { name := "dutyAudits", fn := fun _ => fun
  | [d1, d2] => { results := [.lit (.bool false)], args := [d1, d2] }
  | _ => none }
def DutyAuditsWrongFalsely : Prop := dutyAuditsRow.holds Try.pinned (OpenSpec.ofChange dutyAuditsWrong)

/-- 'haulierlaw16.DutySets': WHATEVER THE INPUT: true; the input reads as it did. -/
def dutySetsSpec : ChangeSpec := { name := "dutySets", fn := fun _ => fun
  | [d] => { results := [.lit (.bool true)], args := [d] }
  | _ => none }
def dutySetsRow : OpenClaim := { program := "ytlbafgdbemhanaa", sum := "a76ddd933e6b6b6c445b5eab20e49bb952409ae3479e3f8941228f00ab224e96", func := "haulier/haulierlaw16.DutySets", spec := "dutySets", unfollowed := true, recurses := true, apart := false }
def DutySetsSaid : Prop := dutySetsRow.holds Try.pinned (OpenSpec.ofChange dutySetsSpec)

/-- ITS FALSE NEIGHBOUR: 'it returns false'. Refute it at one input. -/
def dutySetsWrong : ChangeSpec := { name := "dutySets", fn := fun _ => fun
  | [d] => { results := [.lit (.bool false)], args := [d] }
  | _ => none }
def DutySetsWrongFalsely : Prop := dutySetsRow.holds Try.pinned (OpenSpec.ofChange dutySetsWrong)

/-- 'haulierlaw16.DutyMeter': WHATEVER THE INPUT: true; the input reads as it did. -/
def dutyMeterSpec : ChangeSpec := { name := "dutyMeter", fn := fun _ => fun
  | [d1, d2] => { results := [.lit (.bool true)], args := [d1, d2] }
  | _ => none }
def dutyMeterRow : OpenClaim := { program := "ytlbafgdbemhanaa", sum := "a76ddd933e6b6b6c445b5eab20e49bb952409ae3479e3f8941228f00ab224e96", func := "haulier/haulierlaw16.DutyMeter", spec := "dutyMeter", unfollowed := true, recurses := true, apart := false }
def DutyMeterSaid : Prop := dutyMeterRow.holds Try.pinned (OpenSpec.ofChange dutyMeterSpec)

/-- ITS FALSE NEIGHBOUR: 'it returns false'. Refute it at one input. -/
def dutyMeterWrong : ChangeSpec := { name := "dutyMeter", fn := fun _ => fun
  | [d1, d2] => { results := [.lit (.bool false)], args := [d1, d2] }
  | _ => none }
def DutyMeterWrongFalsely : Prop := dutyMeterRow.holds Try.pinned (OpenSpec.ofChange dutyMeterWrong)

/-- 'haulierlaw16.DutyWitness': WHATEVER THE INPUT: true; the input reads as it did. -/
def dutyWitnessSpec : ChangeSpec := { name := "dutyWitness", fn := fun _ => fun
  | [d1, d2] => { results := [.lit (.bool true)], args := [d1, d2] }
  | _ => none }
def dutyWitnessRow : OpenClaim := { program := "ytlbafgdbemhanaa", sum := "a76ddd933e6b6b6c445b5eab20e49bb952409ae3479e3f8941228f00ab224e96", func := "haulier/haulierlaw16.DutyWitness", spec := "dutyWitness", unfollowed := true, recurses := true, apart := false }
def DutyWitnessSaid : Prop := dutyWitnessRow.holds Try.pinned (OpenSpec.ofChange dutyWitnessSpec)

/-- ITS FALSE NEIGHBOUR: 'it returns false'. Refute it at one input. -/
def dutyWitnessWrong : ChangeSpec := { name := "dutyWitness", fn := fun _ => fun
  | [d1, d2] => { results := [.lit (.bool false)], args := [d1, d2] }
  | _ => none }
def DutyWitnessWrongFalsely : Prop := dutyWitnessRow.holds Try.pinned (OpenSpec.ofChange dutyWitnessWrong)

/-- 'haulierlaw16.DutyLaxer': WHATEVER THE INPUT: true; the input reads as it did. -/
def dutyLaxerSpec : ChangeSpec := { name := "dutyLaxer", fn := fun _ => fun
  | [d1, d2, d3] => { results := [.lit (.bool true)], args := [d1, d2, d3] }
  | _ => none }
def dutyLaxerRow : OpenClaim := { program := "ytlbafgdbemhanaa", sum := "a76ddd933e6b6b6c445b5eab20e49bb952409ae3479e3f8941228f00ab224e96", func := "haulier/haulierlaw16.DutyLaxer", spec := "dutyLaxer", unfollowed := true, recurses := true, apart := false }
def DutyLaxerSaid : Prop := dutyLaxerRow.holds Try.pinned (OpenSpec.ofChange dutyLaxerSpec)

/-- ITS FALSE NEIGHBOUR: 'it returns false'. Refute it at one input. -/
def dutyLaxerWrong : ChangeSpec := { name := "dutyLaxer", fn := fun _ => fun
  | [d1, d2, d3] => { results := [.lit (.bool false)], args := [d1, d2, d3] }
  | _ => none }
def DutyLaxerWrongFalsely : Prop := dutyLaxerRow.holds Try.pinned (OpenSpec.ofChange dutyLaxerWrong)

/- THE SECOND FORM. 'bulk': how many values and letters a reading holds, each counted each time it is reached (what is shared counts as often as it is met; a slice's spare places count too). A statement '..UptoSaid' is the law's where the arguments, and the package variables that the reading takes, are together of bulk at most 1048576: NARROWER than '..Said'. Prove '..Said' where nothing that the law and all that it calls make is longer than what came in: it says more and counts as full. Else prove '..UptoSaid'. A law counts once. -/
mutual
def uptoBulk {H : Type} : DataW H → Nat
  | .lit (.string bytes) => bytes.length + 1
  | .lit _ => 1
  | .nil => 1
  | .ptr d => uptoBulk d + 1
  | .slice elems spare => uptoBulkAll elems + uptoBulkAll spare + 1
  | .agg parts => uptoBulkAll parts + 1
  | .iface _ d => uptoBulk d + 1
  | .map entries => uptoBulkEntries entries + 1
  | .held _ => 1
def uptoBulkAll {H : Type} : List (DataW H) → Nat
  | [] => 0
  | d :: r => uptoBulk d + uptoBulkAll r
def uptoBulkEntries {H : Type} : List (Lit × DataW H) → Nat
  | [] => 0
  | x :: r => uptoBulkEntry x + uptoBulkEntries r
def uptoBulkEntry {H : Type} : Lit × DataW H → Nat
  | (.string bytes, d) => bytes.length + uptoBulk d + 1
  | (_, d) => uptoBulk d + 1
 end
def uptoSmall : (H : Type) → List (DataW H) → Bool := fun _ ds => decide (uptoBulkAll ds ≤ 1048576)
def OpenSpec.upto (s : _root_.Go.ChangeSpec) : _root_.Go.OpenSpec := { _root_.Go.OpenSpec.ofChange s with cond := some uptoSmall }

/-- 'haulierlaw16.DutyAudits', WHERE WHAT IT READS IS OF BULK AT MOST 1048576: true; the input reads as it did. -/
def dutyAuditsUptoRow : OpenClaim := { program := "ytlbafgdbemhanaa", sum := "a76ddd933e6b6b6c445b5eab20e49bb952409ae3479e3f8941228f00ab224e96", func := "haulier/haulierlaw16.DutyAudits", spec := "dutyAudits", unfollowed := true, recurses := true, apart := false, narrowed := true }
def DutyAuditsUptoSaid : Prop := dutyAuditsUptoRow.holds Try.pinned (OpenSpec.upto dutyAuditsSpec)

/-- 'haulierlaw16.DutySets', WHERE WHAT IT READS IS OF BULK AT MOST 1048576: true; the input reads as it did. -/
def dutySetsUptoRow : OpenClaim := { program := "ytlbafgdbemhanaa", sum := "a76ddd933e6b6b6c445b5eab20e49bb952409ae3479e3f8941228f00ab224e96", func := "haulier/haulierlaw16.DutySets", spec := "dutySets", unfollowed := true, recurses := true, apart := false, narrowed := true }
def DutySetsUptoSaid : Prop := dutySetsUptoRow.holds Try.pinned (OpenSpec.upto dutySetsSpec)

/-- 'haulierlaw16.DutyMeter', WHERE WHAT IT READS IS OF BULK AT MOST 1048576: true; the input reads as it did. -/
def dutyMeterUptoRow : OpenClaim := { program := "ytlbafgdbemhanaa", sum := "a76ddd933e6b6b6c445b5eab20e49bb952409ae3479e3f8941228f00ab224e96", func := "haulier/haulierlaw16.DutyMeter", spec := "dutyMeter", unfollowed := true, recurses := true, apart := false, narrowed := true }
def DutyMeterUptoSaid : Prop := dutyMeterUptoRow.holds Try.pinned (OpenSpec.upto dutyMeterSpec)

/-- 'haulierlaw16.DutyWitness', WHERE WHAT IT READS IS OF BULK AT MOST 1048576: true; the input reads as it did. -/
def dutyWitnessUptoRow : OpenClaim := { program := "ytlbafgdbemhanaa", sum := "a76ddd933e6b6b6c445b5eab20e49bb952409ae3479e3f8941228f00ab224e96", func := "haulier/haulierlaw16.DutyWitness", spec := "dutyWitness", unfollowed := true, recurses := true, apart := false, narrowed := true }
def DutyWitnessUptoSaid : Prop := dutyWitnessUptoRow.holds Try.pinned (OpenSpec.upto dutyWitnessSpec)

/-- 'haulierlaw16.DutyLaxer', WHERE WHAT IT READS IS OF BULK AT MOST 1048576: true; the input reads as it did. -/
def dutyLaxerUptoRow : OpenClaim := { program := "ytlbafgdbemhanaa", sum := "a76ddd933e6b6b6c445b5eab20e49bb952409ae3479e3f8941228f00ab224e96", func := "haulier/haulierlaw16.DutyLaxer", spec := "dutyLaxer", unfollowed := true, recurses := true, apart := false, narrowed := true }
def DutyLaxerUptoSaid : Prop := dutyLaxerUptoRow.holds Try.pinned (OpenSpec.upto dutyLaxerSpec)

end Rows
end Go.Proofs.Ytlbafgdbemhanaa
