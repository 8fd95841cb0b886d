/- Texts as bytes: a byte of a text as a number, the text of one byte and of two wherever they lie. Conditions: none beyond each lemma's own premises. -/
import Derived.Test.YtiamnbddbmgffaaGreatDoorRows
import Derived.Test.YtiamnbddbmgffaaGreatDoorP7
namespace Go.Proofs.YtiamnbddbmgffaaGreatDoor
open Go.RowKit
set_option linter.unusedVariables false
theorem convB1 (W:World) (N:Nat) (x:Int) (h:W.cell? ⟨N,0,none⟩ = some (.int .u8 x)) :
  (convert 66 9 (.slice (some ⟨N,0,none⟩) 1 1)).run Tryz.prog W = .ok (.string ⟨#[UInt8.ofNat x.toNat]⟩) W :=
 run_convert_bytes_arg W 66 5 Tryz.underlying66 Tryz.underlying5 N 0 1 1 [x] rfl (fun i hi=>by
  obtain rfl:i = 0:=by omega
  exact h) 9 Tryz.underlying9
end Go.Proofs.YtiamnbddbmgffaaGreatDoor
