/- The examples of layer 7 hold in every world. Conditions: none. -/
import Derived.Test.YtomodamdlnkcmaaRows
import Derived.Test.YtomodamdlnkcmaaBase
import Derived.Test.YtomodamdlnkcmaaBookRow
import Derived.Test.YtomodamdlnkcmaaBookLeaf
import Derived.Test.YtomodamdlnkcmaaBookNum
import Derived.Test.YtomodamdlnkcmaaBookBel
import Derived.Test.YtomodamdlnkcmaaBookOrd
import Derived.Test.YtomodamdlnkcmaaBookLim
import Derived.Test.YtomodamdlnkcmaaBookLaws
import Derived.WalkKit
import Derived.WalkSpells
import Derived.WalkSmall
import Derived.Below
import Derived.Lib.Hide
import Derived.Outline
import Derived.Great.BuildSlice
import Derived.BigQuiet
import Derived.Deep.QuietTactic
namespace Go.Proofs.Ytomodamdlnkcmaa
open Go.RowKit

theorem may_eu : May euV := by
  refine ⟨fun i hi => ?_, by unfold Ord; decide⟩
  have : i = 0 ∨ i = 1 ∨ i = 2 ∨ i = 3 ∨ i = 4 ∨ i = 5 ∨ i = 6 ∨ i = 7 ∨ i = 8 ∨ i = 9 ∨ i = 10 ∨ i = 11 ∨ i = 12 ∨ i = 13 ∨ i = 14 ∨ i = 15 ∨ i = 16 ∨ i = 17 ∨ i = 18 := by omega
  rcases this with rfl | rfl | rfl | rfl | rfl | rfl | rfl | rfl | rfl | rfl | rfl | rfl | rfl | rfl | rfl | rfl | rfl | rfl | rfl <;> (unfold lim; decide)

set_option maxRecDepth 20000 in
theorem alive7_any (w : World) :
    Calls Try.prog 13 #[] w fun e w' => e = .returned (.bool true) ∧ Below w.heap.size w w' := by
  have C1 := fun W => check7_any euV W
  simp only [if_pos may_eu] at C1
  go_enter Try.func13, Try.ntmps13
  go_wp2_with (first
    | (go_at_call 11; (with_reducible refine (europe_any _).mono ?_); rintro e w1 ⟨rfl, hb1⟩)
    | (go_at_call 9; (with_reducible refine (num_any euV _).mono ?_); rintro e w2 ⟨g2, rfl, hg2, hr2, hb2⟩; have q0 : w2.cell? ⟨g2, 0, none⟩ = some (.int .i64 270) := hr2.2 0 (by omega); have q1 : w2.cell? ⟨g2, 1, none⟩ = some (.int .i64 45) := hr2.2 1 (by omega); have q2 : w2.cell? ⟨g2, 2, none⟩ = some (.int .i64 15) := hr2.2 2 (by omega))
    | (go_at_call 7; (with_reducible refine (C1 _).mono ?_); rintro e w4 ⟨rfl, hb4⟩))
  go_ret
  refine ⟨rfl, ?_⟩
  (repeat (first | exact Below.refl _ _ | (refine b_st ?_ (by first | (simp; done) | (simp; omega))) | (refine b_al ?_ (Nat.le_refl _) _) | refine b_dn ?_ | refine b_dr ?_ | (refine b_cl ?_ (Nat.le_refl _) (by assumption))))

end Go.Proofs.Ytomodamdlnkcmaa
