/- What a spell of rest is worth, in plain words. Conditions: none. -/
import Derived.Test.YtglgifhpacmhiaaRows
import Derived.Test.YtglgifhpacmhiaaBase
import Derived.Test.YtglgifhpacmhiaaBox
import Derived.Test.YtglgifhpacmhiaaBookLim
namespace Go.Proofs.Ytglgifhpacmhiaa
open Go.RowKit

/-- What a spell counts as. -/
structure Wo where
  brk : Bool
  half : Bool
  part : Bool
  daily : Bool
  red : Bool
  weekly : Bool
  brief : Bool

def Wo.zero : Wo := ⟨false, false, false, false, false, false, false⟩
/-- Its cells. -/
def wo (s : Wo) : Array Value := #[.bool s.brk, .bool s.half, .bool s.part, .bool s.daily, .bool s.red, .bool s.weekly, .bool s.brief]
def Wo.set (s : Wo) (k : Nat) (b : Bool) : Wo := match k with
  | 0 => { s with brk := b }
  | 1 => { s with half := b }
  | 2 => { s with part := b }
  | 3 => { s with daily := b }
  | 4 => { s with red := b }
  | 5 => { s with weekly := b }
  | _ => { s with brief := b }

theorem wo_set (s : Wo) (k : Nat) (b : Bool) (hk : k < 7) : (wo s).setIfInBounds k (.bool b) = wo (s.set k b) := by
  have : k = 0 ∨ k = 1 ∨ k = 2 ∨ k = 3 ∨ k = 4 ∨ k = 5 ∨ k = 6 := by omega
  rcases this with rfl | rfl | rfl | rfl | rfl | rfl | rfl <;> rfl
theorem wo_size (s : Wo) : (wo s).size = 7 := rfl
theorem wo_one (s : Wo) : (wo s).all (·.oneCell') = true := by kernel_rfl

/-- Are they the same, part by part? -/
def Wo.eqB (s u : Wo) : Bool := s.brk == u.brk && (s.half == u.half && (s.part == u.part && (s.daily == u.daily && (s.red == u.red && (s.weekly == u.weekly && s.brief == u.brief)))))
theorem Wo.eqB_self (s : Wo) : s.eqB s = true := by simp [Wo.eqB]

/-- Does a spell of l minutes last n? -/
def lastB (l n : Int) : Bool := decide (n ≤ l)
def ofW (br se fi pa da wk fu rg half split : Bool) : Wo :=
  ⟨br || (half && se), !(br || (half && se)) && (half || fi), !da && pa, da, da && !wk && !split && !rg, wk, wk && !fu⟩
def ofV (x : Nat → Int) (f t dawn : Int) (half split : Bool) : Wo :=
  ofW (lastB (t - f) (x 1)) (lastB (t - f) (x 3)) (lastB (t - f) (x 2)) (lastB (t - f) (x 10)) (lastB (t - f) (x 8)) (lastB (t - f) (x 13)) (lastB (t - f) (x 12)) (lastB (min t (dawn + x 11) - f) (x 7)) half split

open Classical in
/-- What is wrong with what Of is handed. -/
noncomputable def spellErr (x : Nat → Int) (f t dawn : Int) : Int := if May x then (if t ≤ f then 3 else if f < 0 ∨ 40320 < t then 4 else if dawn < 0 ∨ f < dawn then 1 else 0) else 14

theorem spellErr_no {x : Nat → Int} (f t dawn : Int) (h : ¬ May x) : spellErr x f t dawn = 14 := by unfold spellErr; rw [if_neg h]
theorem spellErr_yes {x : Nat → Int} (f t dawn : Int) (h : May x) : spellErr x f t dawn = if t ≤ f then 3 else if f < 0 ∨ 40320 < t then 4 else if dawn < 0 ∨ f < dawn then 1 else 0 := by unfold spellErr; rw [if_pos h]
theorem spellErr_ok {x : Nat → Int} {f t dawn : Int} : spellErr x f t dawn = 0 ↔ May x ∧ f < t ∧ 0 ≤ f ∧ t ≤ 40320 ∧ 0 ≤ dawn ∧ dawn ≤ f := by
  by_cases h : May x
  · rw [spellErr_yes f t dawn h]
    constructor
    · intro e
      refine ⟨h, ?_⟩
      split at e
      · omega
      split at e
      · omega
      split at e
      · omega
      omega
    · intro ⟨_, h⟩
      rw [if_neg (by omega), if_neg (by omega), if_neg (by omega)]
  · rw [spellErr_no f t dawn h]
    simp [h]

/-- A book that may be: its numbers are from 0 to the greatest time. -/
theorem may_time {x : Nat → Int} (h : May x) : ∀ i, i < 19 → 0 ≤ x i ∧ x i ≤ 40320 := by
  intro i hi
  have := h.1 i hi
  unfold lim at this
  split at this <;> omega
theorem may_ord {x : Nat → Int} (h : May x) : x 2 ≤ x 1 ∧ x 3 ≤ x 1 ∧ x 1 ≤ x 10 ∧ x 10 ≤ x 8 ∧ x 8 ≤ x 7 ∧ x 7 ≤ x 13 ∧ x 13 ≤ x 12 ∧ x 4 ≤ x 5 ∧ x 8 < x 11 := h.2

end Go.Proofs.Ytglgifhpacmhiaa
