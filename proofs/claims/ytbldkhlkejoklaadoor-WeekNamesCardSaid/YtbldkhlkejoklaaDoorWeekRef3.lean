/- What the document's own Name of layer 4 returns, for any number of 64 bits. Conditions: none. -/
import Derived.Test.YtbldkhlkejoklaaDoorWeekRef2
namespace Go.Proofs.YtbldkhlkejoklaaDoor
open Go.RowKit

theorem refname_out (m : Int) (w : World) (h : ¬ (0 ≤ m ∧ m ≤ 40320)) :
    Calls Tryd.prog 15 #[.int .i64 m] w fun e w' => e = .returned (.tuple #[.string ⟨#[]⟩, .int .i64 4]) ∧ Below w.heap.size w w' := by
  by_cases h0 : m < 0
  · clear h
    go_enter Tryd.func15, Tryd.ntmps15
    go_wp2
    go_ret2
    exact ⟨rfl, Below.refl _ _⟩
  · have h1 : 40320 < m := by omega
    have h2 : 0 ≤ m := by omega
    clear h h0
    go_enter Tryd.func15, Tryd.ntmps15
    go_wp2
    go_ret2
    exact ⟨rfl, Below.refl _ _⟩

theorem refname_any (m : Int) (w : World) :
    Calls Tryd.prog 15 #[.int .i64 m] w fun e w' => e = .returned (.tuple #[.string (nmS m), .int .i64 (nmE m)]) ∧ Below w.heap.size w w' := by
  by_cases h : 0 ≤ m ∧ m ≤ 40320
  · rw [(nm_in h.1 h.2).1, (nm_in h.1 h.2).2]
    exact refname_walk m _ _ _ _ (m / 1440 % 7).toNat w h.1 h.2 rfl rfl (by omega) rfl rfl
  · rw [(nm_out h).1, (nm_out h).2]
    exact refname_out m w h

end Go.Proofs.YtbldkhlkejoklaaDoor
