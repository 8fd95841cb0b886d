/- What the document says of a timeline of one record. Conditions: the record can be read. -/
import Derived.Test.YthgieanhlmnneaaRecMath
import Derived.Test.YthgieanhlmnneaaRecHeap
import Derived.Test.YthgieanhlmnneaaRecCheckR
namespace Go.Proofs.Ythgieanhlmnneaa
open Go.RowKit

theorem check_one (k x y : Int) : checkV [(k, x, y)] = (0, aloneV k x y) := by
  by_cases h : aloneV k x y = 0
  · rw [check_ok (fun j hj => ?_), h]
    obtain rfl : j = 0 := by simp at hj; exact hj
    rw [fault_first (x := k) (y := x) (z := y) rfl]; exact h
  · exact check_bad (k := 0) (by simp) (fun j hj => by omega) (fault_first rfl) h

theorem one_read {W : World} {n : Nat} {k x y : Int} (h0 : W.cell? ⟨n, 0, none⟩ = some (.int .i64 k)) (h1 : W.cell? ⟨n, 1, none⟩ = some (.int .i64 x)) (h2 : W.cell? ⟨n, 2, none⟩ = some (.int .i64 y)) : RdR W (some ⟨n, 0, none⟩) [(k, x, y)] := fun _ => ⟨n, 0, rfl, World.block_lt_of_cell? W ⟨n, 0, none⟩ h0, fun j hj => by
  obtain rfl : j = 0 := by simp at hj; exact hj
  exact ⟨h0, h1, h2⟩⟩

theorem refcheck_alone (k x y : Int) (W : World) (N : Nat) (h0 : W.cell? ⟨N, 0, none⟩ = some (.int .i64 k)) (h1 : W.cell? ⟨N, 1, none⟩ = some (.int .i64 x)) (h2 : W.cell? ⟨N, 2, none⟩ = some (.int .i64 y)) :
    Calls Try.prog 31 #[.slice (some ⟨N, 0, none⟩) 1 1] W fun e w' => e = .returned (.tuple #[.int .i64 0, .int .i64 (aloneV k x y)]) ∧ Below W.heap.size W w' := by
  have := refrcheck_any (some ⟨N, 0, none⟩) 1 [(k, x, y)] W (one_read h0 h1 h2) (by simp)
  rw [check_one] at this
  exact this

end Go.Proofs.Ythgieanhlmnneaa
