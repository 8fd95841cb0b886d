/- The document's Step in plain words. Conditions: none beyond each lemma's own premises. -/
import Derived.Test.YthiiipbfdgaemaaRows
import Derived.Test.YthiiipbfdgaemaaZ1
import Derived.Test.YthiiipbfdgaemaaZ2
import Derived.Test.YthiiipbfdgaemaaErrandPast
import Derived.Test.YthiiipbfdgaemaaErrandSpot
import Derived.WalkKit
import Derived.WalkSpells
import Derived.WalkSmall
import Derived.Below
import Derived.Lib.Hide
import Derived.Outline
import Derived.Deep.DeepCutAuto
import Derived.OwnWalk
import Derived.BigQuiet
import Derived.Deep.QuietTactic
import Derived.Deep.LoopGhost
import Derived.WalkMore
import Derived.OrdersHeld
import Derived.Deep.RegionHeld3
namespace Go.Proofs.Ythiiipbfdgaemaa
open Go.RowKit

theorem oneb (a b c d : Bool) : (#[.bool a, .bool b, .bool c, .bool d] : Array Value).all (·.oneCell') = true := by simp [Value.oneCell']

/-- The spot before tasks are gone past, of each kind of minute. -/
theorem go_drive {l : List Tk} {s : Pt} (h : CanD l s) : stepT l s 3 = pastT l (s.1, s.2.1 + 1, s.2.2) := by unfold stepT goT; rw [if_pos ⟨rfl, h⟩]
theorem go_work {l : List Tk} {s : Pt} (h : CanW l s) : stepT l s 2 = pastT l (s.1, s.2.1, s.2.2 + 1) := by unfold stepT goT; rw [if_neg (fun c => absurd c.1 (by decide)), if_pos ⟨rfl, h⟩]
theorem go_stay {l : List Tk} {s : Pt} {k : Int} (h1 : ¬ (k = 3 ∧ CanD l s)) (h2 : ¬ (k = 2 ∧ CanW l s)) : stepT l s k = pastT l s := by unfold stepT goT; rw [if_neg h1, if_neg h2]

end Go.Proofs.Ythiiipbfdgaemaa
