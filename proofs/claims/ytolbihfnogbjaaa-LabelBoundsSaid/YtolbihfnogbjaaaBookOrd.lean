/- What Check of layer 7 and what it calls return, and the document's May, for any book. Conditions: none. -/
import Derived.Test.YtolbihfnogbjaaaRows
import Derived.Test.YtolbihfnogbjaaaBase
import Derived.Test.YtolbihfnogbjaaaZ2
import Derived.Test.YtolbihfnogbjaaaBookNum
import Derived.WalkKit
import Derived.WalkSpells
import Derived.WalkSmall
import Derived.Below
import Derived.Lib.Hide
import Derived.Outline
import Derived.Great.BuildSlice
import Derived.BigQuiet
import Derived.Deep.QuietTactic
namespace Go.Proofs.Ytolbihfnogbjaaa
open Go.RowKit

/-- A number of a book is within its limits. -/
def lim (i : Nat) (n : Int) : Prop := if i = 6 ∨ i = 9 then 0 ≤ n ∧ n ≤ 1000 else 1 ≤ n ∧ n ≤ 40320
/-- None is above one that it may not be above. -/
def Ord (x : Nat → Int) : Prop := x 2 ≤ x 1 ∧ x 3 ≤ x 1 ∧ x 1 ≤ x 10 ∧ x 10 ≤ x 8 ∧ x 8 ≤ x 7 ∧ x 7 ≤ x 13 ∧ x 13 ≤ x 12 ∧ x 4 ≤ x 5 ∧ x 8 < x 11
/-- The book may be. -/
def May (x : Nat → Int) : Prop := (∀ i, i < 19 → lim i (x i)) ∧ Ord x

theorem lim_count {i : Nat} {n : Int} (h : i = 6 ∨ i = 9) : lim i n ↔ 0 ≤ n ∧ n ≤ 1000 := by unfold lim; rw [if_pos h]
theorem lim_time {i : Nat} {n : Int} (h : ¬ (i = 6 ∨ i = 9)) : lim i n ↔ 1 ≤ n ∧ n ≤ 40320 := by unfold lim; rw [if_neg h]

set_option maxRecDepth 20000 in
set_option maxHeartbeats 1600000 in
open Classical in
theorem ordered_any (x : Nat → Int) (w : World) :
    Calls Try.prog 35 #[.agg (bk x)] w fun e w' => e = .returned (.bool (if Ord x then true else false)) ∧ Below w.heap.size w w' := by
  have z0 := bk_at x 0 (by omega); have z1 := bk_at x 1 (by omega); have z2 := bk_at x 2 (by omega); have z3 := bk_at x 3 (by omega); have z4 := bk_at x 4 (by omega); have z5 := bk_at x 5 (by omega); have z6 := bk_at x 6 (by omega); have z7 := bk_at x 7 (by omega); have z8 := bk_at x 8 (by omega); have z9 := bk_at x 9 (by omega); have z10 := bk_at x 10 (by omega); have z11 := bk_at x 11 (by omega); have z12 := bk_at x 12 (by omega); have z13 := bk_at x 13 (by omega); have z14 := bk_at x 14 (by omega); have z15 := bk_at x 15 (by omega); have z16 := bk_at x 16 (by omega); have z17 := bk_at x 17 (by omega); have z18 := bk_at x 18 (by omega)
  by_cases c0 : x 2 ≤ x 1
  case neg =>
    rw [if_neg (by unfold Ord; omega)]
    have n0 : x 1 < x 2 := by omega
    have d0 : decide (x 2 ≤ x 1) = false := decide_eq_false c0
    clear c0
    go_enter Try.func35, Try.ntmps35
    go_wp2
    go_ret
    exact ⟨rfl, (Below.refl _ _).alloc (Nat.le_refl _) _⟩
  by_cases c1 : x 3 ≤ x 1
  case neg =>
    rw [if_neg (by unfold Ord; omega)]
    have n1 : x 1 < x 3 := by omega
    have d1 : decide (x 3 ≤ x 1) = false := decide_eq_false c1
    clear c1
    go_enter Try.func35, Try.ntmps35
    go_wp2
    go_ret
    exact ⟨rfl, (Below.refl _ _).alloc (Nat.le_refl _) _⟩
  by_cases c2 : x 1 ≤ x 10
  case neg =>
    rw [if_neg (by unfold Ord; omega)]
    have n2 : x 10 < x 1 := by omega
    have d2 : decide (x 1 ≤ x 10) = false := decide_eq_false c2
    clear c2
    go_enter Try.func35, Try.ntmps35
    go_wp2
    go_ret
    exact ⟨rfl, (Below.refl _ _).alloc (Nat.le_refl _) _⟩
  by_cases c3 : x 10 ≤ x 8
  case neg =>
    rw [if_neg (by unfold Ord; omega)]
    have n3 : x 8 < x 10 := by omega
    have d3 : decide (x 10 ≤ x 8) = false := decide_eq_false c3
    clear c3
    go_enter Try.func35, Try.ntmps35
    go_wp2
    go_ret
    exact ⟨rfl, (Below.refl _ _).alloc (Nat.le_refl _) _⟩
  by_cases c4 : x 8 ≤ x 7
  case neg =>
    rw [if_neg (by unfold Ord; omega)]
    have n4 : x 7 < x 8 := by omega
    have d4 : decide (x 8 ≤ x 7) = false := decide_eq_false c4
    clear c4
    go_enter Try.func35, Try.ntmps35
    go_wp2
    go_ret
    exact ⟨rfl, (Below.refl _ _).alloc (Nat.le_refl _) _⟩
  by_cases c5 : x 7 ≤ x 13
  case neg =>
    rw [if_neg (by unfold Ord; omega)]
    have n5 : x 13 < x 7 := by omega
    have d5 : decide (x 7 ≤ x 13) = false := decide_eq_false c5
    clear c5
    go_enter Try.func35, Try.ntmps35
    go_wp2
    go_ret
    exact ⟨rfl, (Below.refl _ _).alloc (Nat.le_refl _) _⟩
  by_cases c6 : x 13 ≤ x 12
  case neg =>
    rw [if_neg (by unfold Ord; omega)]
    have n6 : x 12 < x 13 := by omega
    have d6 : decide (x 13 ≤ x 12) = false := decide_eq_false c6
    clear c6
    go_enter Try.func35, Try.ntmps35
    go_wp2
    go_ret
    exact ⟨rfl, (Below.refl _ _).alloc (Nat.le_refl _) _⟩
  by_cases c7 : x 4 ≤ x 5
  case neg =>
    rw [if_neg (by unfold Ord; omega)]
    have n7 : x 5 < x 4 := by omega
    have d7 : decide (x 4 ≤ x 5) = false := decide_eq_false c7
    clear c7
    go_enter Try.func35, Try.ntmps35
    go_wp2
    go_ret
    exact ⟨rfl, (Below.refl _ _).alloc (Nat.le_refl _) _⟩
  by_cases c8 : x 8 < x 11
  case neg =>
    rw [if_neg (by unfold Ord; omega)]
    have n8 : x 11 ≤ x 8 := by omega
    have d8 : decide (x 8 < x 11) = false := decide_eq_false c8
    clear c8
    go_enter Try.func35, Try.ntmps35
    go_wp2
    go_ret
    exact ⟨rfl, (Below.refl _ _).alloc (Nat.le_refl _) _⟩
  rw [if_pos (by unfold Ord; omega)]
  go_enter Try.func35, Try.ntmps35
  go_wp2
  go_ret
  exact ⟨rfl, (Below.refl _ _).alloc (Nat.le_refl _) _⟩

end Go.Proofs.Ytolbihfnogbjaaa
