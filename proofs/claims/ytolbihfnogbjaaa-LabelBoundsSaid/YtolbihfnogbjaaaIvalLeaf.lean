/- What Right and Has of layer 2 return, for any span and any minute. Conditions: none. -/
import Derived.Test.YtolbihfnogbjaaaRows
import Derived.WalkKit
import Derived.WalkSpells
import Derived.WalkSmall
import Derived.Below
import Derived.Lib.Hide
namespace Go.Proofs.Ytolbihfnogbjaaa
open Go.RowKit

theorem right_any (f t : Int) (w : World) :
    Calls Try.prog 70 #[.agg #[.int .i64 f, .int .i64 t]] w fun e w' => e = .returned (.bool (decide (f < t))) ∧ Below w.heap.size w w' := by
  go_enter Try.func70, Try.ntmps70
  go_wp2
  go_ret
  exact ⟨rfl, (Below.refl _ _).alloc (Nat.le_refl _) _⟩

theorem refright_any (f t : Int) (w : World) :
    Calls Try.prog 44 #[.agg #[.int .i64 f, .int .i64 t]] w fun e w' => e = .returned (.bool (decide (f < t))) ∧ Below w.heap.size w w' := by
  go_enter Try.func44, Try.ntmps44
  go_wp2
  go_ret
  exact ⟨rfl, (Below.refl _ _).alloc (Nat.le_refl _) _⟩

theorem has_any (f t m : Int) (w : World) :
    Calls Try.prog 79 #[.agg #[.int .i64 f, .int .i64 t], .int .i64 m] w fun e w' => e = .returned (.bool (decide (f ≤ m) && decide (m < t))) ∧ Below w.heap.size w w' := by
  by_cases h : f ≤ m
  · go_enter Try.func79, Try.ntmps79
    go_wp2
    go_ret
    exact ⟨by simp [h], (Below.refl _ _).alloc (Nat.le_refl _) _⟩
  · have hd : decide (f ≤ m) = false := by simpa using h
    go_enter Try.func79, Try.ntmps79
    go_wp2
    go_ret
    exact ⟨by simp, (Below.refl _ _).alloc (Nat.le_refl _) _⟩

theorem refhas_any (f t m : Int) (w : World) :
    Calls Try.prog 47 #[.agg #[.int .i64 f, .int .i64 t], .int .i64 m] w fun e w' => e = .returned (.bool (decide (f ≤ m) && decide (m < t))) ∧ Below w.heap.size w w' := by
  by_cases h : f ≤ m
  · go_enter Try.func47, Try.ntmps47
    go_wp2
    go_ret
    exact ⟨by simp [h], (Below.refl _ _).alloc (Nat.le_refl _) _⟩
  · have hd : decide (f ≤ m) = false := by simpa using h
    go_enter Try.func47, Try.ntmps47
    go_wp2
    go_ret
    exact ⟨by simp, (Below.refl _ _).alloc (Nat.le_refl _) _⟩

theorem right_yes (f t : Int) (w : World) (h : f < t) :
    Calls Try.prog 70 #[.agg #[.int .i64 f, .int .i64 t]] w fun e w' => e = .returned (.bool true) ∧ Below w.heap.size w w' := by
  have := right_any f t w
  rwa [decide_eq_true h] at this

theorem right_no (f t : Int) (w : World) (h : ¬ f < t) :
    Calls Try.prog 70 #[.agg #[.int .i64 f, .int .i64 t]] w fun e w' => e = .returned (.bool false) ∧ Below w.heap.size w w' := by
  have := right_any f t w
  rwa [decide_eq_false h] at this

theorem refright_yes (f t : Int) (w : World) (h : f < t) :
    Calls Try.prog 44 #[.agg #[.int .i64 f, .int .i64 t]] w fun e w' => e = .returned (.bool true) ∧ Below w.heap.size w w' := by
  have := refright_any f t w
  rwa [decide_eq_true h] at this

theorem refright_no (f t : Int) (w : World) (h : ¬ f < t) :
    Calls Try.prog 44 #[.agg #[.int .i64 f, .int .i64 t]] w fun e w' => e = .returned (.bool false) ∧ Below w.heap.size w w' := by
  have := refright_any f t w
  rwa [decide_eq_false h] at this

theorem has_yes (f t m : Int) (w : World) (h : f ≤ m ∧ m < t) :
    Calls Try.prog 79 #[.agg #[.int .i64 f, .int .i64 t], .int .i64 m] w fun e w' => e = .returned (.bool true) ∧ Below w.heap.size w w' := by
  have := has_any f t m w
  rwa [decide_eq_true h.1, decide_eq_true h.2] at this

theorem has_no (f t m : Int) (w : World) (h : ¬ (f ≤ m ∧ m < t)) :
    Calls Try.prog 79 #[.agg #[.int .i64 f, .int .i64 t], .int .i64 m] w fun e w' => e = .returned (.bool false) ∧ Below w.heap.size w w' := by
  have := has_any f t m w
  have hd : (decide (f ≤ m) && decide (m < t)) = false := by simp; omega
  rwa [hd] at this

theorem refhas_yes (f t m : Int) (w : World) (h : f ≤ m ∧ m < t) :
    Calls Try.prog 47 #[.agg #[.int .i64 f, .int .i64 t], .int .i64 m] w fun e w' => e = .returned (.bool true) ∧ Below w.heap.size w w' := by
  have := refhas_any f t m w
  rwa [decide_eq_true h.1, decide_eq_true h.2] at this

theorem refhas_no (f t m : Int) (w : World) (h : ¬ (f ≤ m ∧ m < t)) :
    Calls Try.prog 47 #[.agg #[.int .i64 f, .int .i64 t], .int .i64 m] w fun e w' => e = .returned (.bool false) ∧ Below w.heap.size w w' := by
  have := refhas_any f t m w
  have hd : (decide (f ≤ m) && decide (m < t)) = false := by simp; omega
  rwa [hd] at this

end Go.Proofs.Ytolbihfnogbjaaa
