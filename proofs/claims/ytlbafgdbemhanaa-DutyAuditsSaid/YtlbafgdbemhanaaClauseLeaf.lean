/- What Name, Article and Find of layer 15 return, and the document's own. Conditions: the table of the clauses' names and articles reads as the program lays it. -/
import Derived.Test.YtlbafgdbemhanaaRows
import Derived.Test.YtlbafgdbemhanaaBase
import Derived.Test.YtlbafgdbemhanaaZ2
import Derived.Test.YtlbafgdbemhanaaZ1
import Derived.Lib.SlicesS
import Derived.WalkKit
import Derived.WalkSpells
import Derived.WalkSmall
import Derived.Below
import Derived.Outline
import Derived.OwnWalk
import Derived.Lib.Hide
import Derived.Deep.MidRow
namespace Go.Proofs.Ytlbafgdbemhanaa
open Go.RowKit

/-- Its cells. -/
def tvL : List Value := (List.range 16).flatMap fun k => [.string (nmB k), .string (arB k)]

theorem tv_len : tvL.length = 32 := by decide +kernel
theorem tv_at : ∀ k, k < 16 → tvL[k * 2]? = some (.string (nmB k)) ∧ tvL[k * 2 + 1]? = some (.string (arB k)) := by
  intro k hk
  have : k = 0 ∨ k = 1 ∨ k = 2 ∨ k = 3 ∨ k = 4 ∨ k = 5 ∨ k = 6 ∨ k = 7 ∨ k = 8 ∨ k = 9 ∨ k = 10 ∨ k = 11 ∨ k = 12 ∨ k = 13 ∨ k = 14 ∨ k = 15 := by omega
  rcases this with rfl | rfl | rfl | rfl | rfl | rfl | rfl | rfl | rfl | rfl | rfl | rfl | rfl | rfl | rfl | rfl <;> exact ⟨rfl, rfl⟩

theorem is_any (c : Int) (w : World) :
    Calls Try.prog 38 #[.int .i64 c] w fun e w' => e = .returned (.bool (decide (isC c))) ∧ w = w' := by
  by_cases h : isC c
  · rw [decide_eq_true h]
    obtain ⟨h0, h1⟩ := h
    go_enter Try.func38, Try.ntmps38
    go_wp2
    go_ret
    exact ⟨rfl, rfl⟩
  · rw [decide_eq_false h]
    by_cases h0 : 0 ≤ c
    · have h1 : ¬ c < 16 := fun k => h ⟨h0, k⟩
      clear h
      go_enter Try.func38, Try.ntmps38
      go_wp2
      go_ret
      exact ⟨rfl, rfl⟩
    · clear h
      go_enter Try.func38, Try.ntmps38
      go_wp2
      go_ret
      exact ⟨rfl, rfl⟩

end Go.Proofs.Ytlbafgdbemhanaa
