/- What Next of layer 3, and the reference's, return, for any slice of spans that can be read. Conditions: as each theorem says. -/
import Derived.Test.YtolbihfnogbjaaaRows
import Derived.Test.YtolbihfnogbjaaaBase
import Derived.Test.YtolbihfnogbjaaaZ2
import Derived.Test.YtolbihfnogbjaaaIvalLeaf
import Derived.Test.YtolbihfnogbjaaaIvalTwo
import Derived.WalkKit
import Derived.WalkSpells
import Derived.WalkSmall
import Derived.Below
import Derived.Outline
import Derived.Lib.Hide
namespace Go.Proofs.Ytolbihfnogbjaaa
open Go.RowKit

theorem next_skip {m x y : Int} {acc : Int × Bool} (h : ¬ (x < y ∧ m < y)) : next1 m acc (x, y) = acc := by unfold next1; rw [if_neg h]

theorem next_take {m x y z : Int} {acc : Int × Bool} (h : x < y ∧ m < y) (hz : (if x < m then m else x) = z) (h2 : acc.2 = false ∨ z < acc.1) : next1 m acc (x, y) = (z, true) := by
  unfold next1; rw [if_pos h]; simp only [hz]; rw [if_pos h2]

theorem next_leave {m x y z : Int} {acc : Int × Bool} (h : x < y ∧ m < y) (hz : (if x < m then m else x) = z) (h2 : ¬ (acc.2 = false ∨ z < acc.1)) : next1 m acc (x, y) = acc := by
  unfold next1; rw [if_pos h]; simp only [hz]; rw [if_neg h2]

theorem next_end {l : List Sp} {m : Int} {k : Nat} {acc : Int × Bool} (hk : l.length ≤ k) (h : (l.take k).foldl (next1 m) (0, false) = acc) : nextL l m = acc := by
  rw [List.take_of_length_le hk] at h; exact h

theorem up2_next (x m : Int) : (if x < m then m else x) = up2 x m := by
  unfold up2; by_cases h : x < m
  · rw [if_pos h, if_neg (by omega)]
  · rw [if_neg h, if_pos (by omega)]

theorem both_next {x y m : Int} (hy : y ≤ 9223372036854775807) : (up2 x m < lo2 y 9223372036854775807) ↔ (x < y ∧ m < y) := by
  unfold up2 lo2; rw [if_pos hy]; split <;> omega

end Go.Proofs.Ytolbihfnogbjaaa
