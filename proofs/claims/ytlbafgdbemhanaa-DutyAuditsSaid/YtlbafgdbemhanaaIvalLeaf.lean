/- What Right and Has of layer 2 return, for any span and any minute. Conditions: none. -/
import Derived.Test.YtlbafgdbemhanaaRows
import Derived.WalkKit
import Derived.WalkSpells
import Derived.WalkSmall
import Derived.Below
import Derived.Lib.Hide
namespace Go.Proofs.Ytlbafgdbemhanaa
open Go.RowKit

theorem right_any (f t : Int) (w : World) :
    Calls Try.prog 76 #[.agg #[.int .i64 f, .int .i64 t]] w fun e w' => e = .returned (.bool (decide (f < t))) ∧ Below w.heap.size w w' := by
  go_enter Try.func76, Try.ntmps76
  go_wp2
  go_ret
  exact ⟨rfl, (Below.refl _ _).alloc (Nat.le_refl _) _⟩

theorem right_yes (f t : Int) (w : World) (h : f < t) :
    Calls Try.prog 76 #[.agg #[.int .i64 f, .int .i64 t]] w fun e w' => e = .returned (.bool true) ∧ Below w.heap.size w w' := by
  have := right_any f t w
  rwa [decide_eq_true h] at this

theorem right_no (f t : Int) (w : World) (h : ¬ f < t) :
    Calls Try.prog 76 #[.agg #[.int .i64 f, .int .i64 t]] w fun e w' => e = .returned (.bool false) ∧ Below w.heap.size w w' := by
  have := right_any f t w
  rwa [decide_eq_false h] at this

end Go.Proofs.Ytlbafgdbemhanaa
