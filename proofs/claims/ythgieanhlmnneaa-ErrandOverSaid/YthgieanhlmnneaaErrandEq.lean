/- Four first minutes compared with themselves. Conditions: none beyond each lemma's own premises. -/
import Derived.Test.YthgieanhlmnneaaRows
import Derived.Test.YthgieanhlmnneaaBase
import Derived.Test.YthgieanhlmnneaaRow
import Derived.Test.YthgieanhlmnneaaBox
import Derived.Test.YthgieanhlmnneaaErrandOverC
import Derived.WalkKit
import Derived.WalkSpells
import Derived.WalkSmall
import Derived.Below
import Derived.Lib.Hide
import Derived.Outline
import Derived.Deep.DeepCutAuto
import Derived.OwnWalk
import Derived.BigQuiet
import Derived.Deep.QuietTactic
import Derived.Deep.LoopGhost
import Derived.WalkMore
import Derived.Laws.StructEq
import Derived.ChangeKeysEq
import Derived.Deep.Quiet
import Derived.OrdersHeld
import Derived.KernelRfl
namespace Go.Proofs.Ythgieanhlmnneaa
open Go.RowKit

theorem at_four (a b c d : Int) : ∀ i, i < 4 → ∃ x : Int, (#[.int .i64 a, .int .i64 b, .int .i64 c, .int .i64 d] : Array Value)[i]? = some (.int .i64 x) := by
  intro i hi
  have : i = 0 ∨ i = 1 ∨ i = 2 ∨ i = 3 := by omega
  rcases this with rfl | rfl | rfl | rfl <;> exact ⟨_, rfl⟩
theorem eqItems_four (a b c d : Int) (w : World) (q : Nat) : ∀ is : List Nat, (∀ i ∈ is, i < 4) → (Op.eqItems (q + 1) 3 1 #[.int .i64 a, .int .i64 b, .int .i64 c, .int .i64 d] #[.int .i64 a, .int .i64 b, .int .i64 c, .int .i64 d] is).run Try.prog w = .ok true w
  | [], _ => rfl
  | i :: is, h => by
    have hi := h i (by simp)
    obtain ⟨x, hx⟩ := at_four a b c d i hi
    have ih := eqItems_four a b c d w q is (fun j hj => h j (by simp [hj]))
    have hagg : ∀ w, (isAgg 3).run Try.prog w = .ok false w := fun w => by
      unfold isAgg
      rw [Sem.run_bind, run_underlying Try.underlying3 w]
      simp
    have p1 : (part 3 #[.int .i64 a, .int .i64 b, .int .i64 c, .int .i64 d] (i * 1)).run Try.prog w = .ok (.int .i64 x) w := by
      unfold part; rw [Sem.run_bind, hagg, Nat.mul_one]; simp [hx]
    have p3 : (Op.equalIn (q + 1) 3 (.int .i64 x) (.int .i64 x)).run Try.prog w = .ok (x == x) w := run_equalIn_int w q 3 .i64 .i64 _ _ Try.underlying3
    unfold Op.eqItems
    simp only [Sem.run_bind, p1, p3, Result.andThen_ok]
    simp [ih]
theorem equal_four (a b c d : Int) (w : World) : (Op.equalIn 10000 47 (.agg #[.int .i64 a, .int .i64 b, .int .i64 c, .int .i64 d]) (.agg #[.int .i64 a, .int .i64 b, .int .i64 c, .int .i64 d])).run Try.prog w = .ok true w := by
  obtain ⟨i, hi⟩ : ∃ i, Try.prog.info? 3 = some i := info_of_underlying Try.underlying3
  rw [show (10000 : Nat) = 9998 + 1 + 1 from rfl, run_equalIn_array w (9998 + 1) _ _ Try.underlying47 hi, show Try.prog.cellsOf 3 = 1 by kernel_rfl, eqItems_four a b c d w 9998 (List.range 4) (fun i hi => List.mem_range.1 hi)]
theorem guard_four : Try.prog.eqGuardType Try.prog.depth 47 = false := by kernel_rfl
theorem exec_eql_four {o : Oper} {r : Operand → Value} {e f : Operand} {u : TypeId} (a b c d : Int) (w : World) (ho : o.op = .binOp .eql 47 e f u) (hx : r e = .agg #[.int .i64 a, .int .i64 b, .int .i64 c, .int .i64 d]) (hy : r f = .agg #[.int .i64 a, .int .i64 b, .int .i64 c, .int .i64 d]) : (execOp r o).run Try.prog w = .ok (.value (.bool true)) w := by
  unfold execOp
  simp only [ho, hx, hy, Sem.run_bind, run_eqGuard_agg w .eql 47 e f _ _ guard_four, run_eql_struct, equal_four, Result.andThen_ok]
  rfl
theorem wpList_eql_four {ops : Array Oper} {rest : List Oper} {o : Oper} {s : Act} {w : World} {Q : Exit → Act → World → Prop} (hw : Region.wanted o (yielded ops s.tmps) = true) {e f : Operand} {u : TypeId} (ho : o.op = .binOp .eql 47 e f u) (a b c d : Int) (hx : s.eval e = .agg #[.int .i64 a, .int .i64 b, .int .i64 c, .int .i64 d]) (hy : s.eval f = .agg #[.int .i64 a, .int .i64 b, .int .i64 c, .int .i64 d])
    (h : wpList Try.prog ops Q rest (s.put o.dst (.bool true)) w) : wpList Try.prog ops Q (o :: rest) s w :=
  wpList_step fun K hK => by
    rw [if_pos hw]
    unfold Oper.wp
    rw [exec_eql_four a b c d w ho hx hy]
    exact hK _ _ h

end Go.Proofs.Ythgieanhlmnneaa
