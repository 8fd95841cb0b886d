/- What record of layer 16 leaves: its minutes gone over, and the clauses noted that they break. Conditions: as each theorem says. -/
import Derived.Test.YtlbafgdbemhanaaRows
import Derived.Test.YtlbafgdbemhanaaBase
import Derived.Test.YtlbafgdbemhanaaZ2
import Derived.Test.YtlbafgdbemhanaaZ3
import Derived.Test.YtlbafgdbemhanaaMeterChk
import Derived.Test.YtlbafgdbemhanaaZ4
import Derived.Test.YtlbafgdbemhanaaDutyFrom
import Derived.Test.YtlbafgdbemhanaaDutySet
import Derived.Test.YtlbafgdbemhanaaDutyRise
import Derived.Test.YtlbafgdbemhanaaDutyNote
import Derived.Test.YtlbafgdbemhanaaZ1
import Derived.Test.YtlbafgdbemhanaaClauseSet
import Derived.Test.YtlbafgdbemhanaaBookLim
import Derived.Test.YtlbafgdbemhanaaMeterRun
import Derived.Test.YtlbafgdbemhanaaMeterStep
import Derived.Test.YtlbafgdbemhanaaStretchChk
import Derived.Test.YtlbafgdbemhanaaStretchOverC
import Derived.WalkKit
import Derived.WalkSpells
import Derived.WalkSmall
import Derived.Below
import Derived.Lib.Hide
import Derived.Shelf.Abstract
import Derived.BigQuiet
import Derived.OwnWalk
import Derived.Outline
import Derived.Deep.DeepCutAuto
import Derived.StillTailTactics
import Derived.Maps.RangeWalk
import Derived.OrdersHeld
import Derived.Deep.RegionHeld3
import Derived.OneCell
import Derived.Great.BuildSlice
namespace Go.Proofs.Ytlbafgdbemhanaa
open Go.RowKit

theorem fi_index16 (y : Nat → Int) (w : World) : ∀ k, k < 10 → (Instr.index 74 (.agg (tn y)) (.int .i64 (k : Nat))).run Try.prog w = .ok (.int .i64 (y k)) w := by
  intro i hi
  have : i = 0 ∨ i = 1 ∨ i = 2 ∨ i = 3 ∨ i = 4 ∨ i = 5 ∨ i = 6 ∨ i = 7 ∨ i = 8 ∨ i = 9 := by omega
  rcases this with rfl | rfl | rfl | rfl | rfl | rfl | rfl | rfl | rfl | rfl <;> (show _ = _; kernel_rfl)
/-- No first minute lies beyond the minutes. -/
theorem walk_le {x : Nat → Int} {k b : Int} : ∀ (n : Nat) {m : Mt} (y : Nat → Int), MayM m → m.now + n ≤ 40320 → m.now + n ≤ b → (∀ c, y c ≤ b) → ∀ c, (walkV x k n m y).2 c ≤ b
  | 0, _, _, _, _, _, h, c => h c
  | n + 1, m, y, hm, hn, hb, h, c => by
    have h1 := may_step (x := x) k hm (by omega)
    refine walk_le n _ h1.1 (by rw [h1.2]; omega) (by rw [h1.2]; omega) (fun c => ?_) c
    unfold recB
    split
    · omega
    · exact h c

end Go.Proofs.Ytlbafgdbemhanaa
