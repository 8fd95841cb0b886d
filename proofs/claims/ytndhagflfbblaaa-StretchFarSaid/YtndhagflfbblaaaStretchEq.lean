/- First minutes compared as a whole. Conditions: none beyond each lemma's own premises. -/
import Derived.Test.YtndhagflfbblaaaRows
import Derived.Test.YtndhagflfbblaaaBase
import Derived.Test.YtndhagflfbblaaaBookRow
import Derived.Test.YtndhagflfbblaaaBox
import Derived.Test.YtndhagflfbblaaaSpellMath
import Derived.Test.YtndhagflfbblaaaMeterMath
import Derived.Test.YtndhagflfbblaaaMeterSt
import Derived.Test.YtndhagflfbblaaaMeterChk
import Derived.Test.YtndhagflfbblaaaStretchMath
import Derived.Test.YtndhagflfbblaaaStretchOn
import Derived.Test.YtndhagflfbblaaaStretchSt
import Derived.Test.YtndhagflfbblaaaBookLaws
import Derived.Test.YtndhagflfbblaaaMeterMayR
import Derived.Test.YtndhagflfbblaaaStretchFarM
import Derived.Test.YtndhagflfbblaaaStretchChk
import Derived.WalkKit
import Derived.WalkSpells
import Derived.WalkSmall
import Derived.Below
import Derived.Lib.Hide
import Derived.Shelf.Abstract
import Derived.BigQuiet
import Derived.OwnWalk
import Derived.Outline
import Derived.Deep.DeepCutAuto
import Derived.StillTailTactics
import Derived.Maps.RangeWalk
import Derived.OrdersHeld
import Derived.Laws.StructEq
import Derived.ChangeKeysEq
import Derived.Deep.Quiet
import Derived.KernelRfl
namespace Go.Proofs.Ytndhagflfbblaaa
open Go.RowKit

/-- Are the ten numbers the same? -/
def eqT (y z : Nat → Int) : Bool := (List.range 10).all fun i => y i == z i
theorem eqT_iff {y z : Nat → Int} : eqT y z = true ↔ ∀ i, i < 10 → y i = z i := by simp [eqT, List.all_eq_true]
theorem eqT_self (y : Nat → Int) : eqT y y = true := eqT_iff.2 fun _ _ => rfl
theorem eqItems_tn (y z : Nat → Int) (w : World) (d : Nat) : ∀ is : List Nat, (∀ i ∈ is, i < 10) → (Op.eqItems (d + 1) 3 1 (tn y) (tn z) is).run Try.prog w = .ok (is.all fun i => y i == z i) w
  | [], _ => rfl
  | i :: is, h => by
    have hi := h i (by simp)
    have ih := eqItems_tn y z w d is (fun j hj => h j (by simp [hj]))
    have hagg : ∀ w, (isAgg 3).run Try.prog w = .ok false w := fun w => by
      unfold isAgg
      rw [Sem.run_bind, run_underlying Try.underlying3 w]
      simp
    have p1 : (part 3 (tn y) (i * 1)).run Try.prog w = .ok (.int .i64 (y i)) w := by
      unfold part; rw [Sem.run_bind, hagg]; simp [tn_at y i hi]
    have p2 : (part 3 (tn z) (i * 1)).run Try.prog w = .ok (.int .i64 (z i)) w := by
      unfold part; rw [Sem.run_bind, hagg]; simp [tn_at z i hi]
    have p3 : (Op.equalIn (d + 1) 3 (.int .i64 (y i)) (.int .i64 (z i))).run Try.prog w = .ok (y i == z i) w := run_equalIn_int w d 3 .i64 .i64 _ _ Try.underlying3
    unfold Op.eqItems
    simp only [Sem.run_bind, p1, p2, p3, Result.andThen_ok, List.all_cons]
    cases he : (y i == z i) with
    | true => simp [ih]
    | false => simp
theorem equal_fi (y z : Nat → Int) (w : World) : (Op.equalIn 10000 29 (.agg (tn y)) (.agg (tn z))).run Try.prog w = .ok (eqT y z) w := by
  obtain ⟨i, hi⟩ : ∃ i, Try.prog.info? 3 = some i := info_of_underlying Try.underlying3
  rw [show (10000 : Nat) = 9998 + 1 + 1 from rfl, run_equalIn_array w (9998 + 1) (tn y) (tn z) Try.underlying29 hi, show Try.prog.cellsOf 3 = 1 by kernel_rfl, eqItems_tn y z w 9998 (List.range 10) (fun i hi => List.mem_range.1 hi)]
  rfl
theorem guard_fi : Try.prog.eqGuardType Try.prog.depth 29 = false := by kernel_rfl
theorem exec_eql_fi {o : Oper} {r : Operand → Value} {e f : Operand} {u : TypeId} (y z : Nat → Int) (w : World) (ho : o.op = .binOp .eql 29 e f u) (hx : r e = .agg (tn y)) (hy : r f = .agg (tn z)) : (execOp r o).run Try.prog w = .ok (.value (.bool (eqT y z))) w := by
  unfold execOp
  simp only [ho, hx, hy, Sem.run_bind, run_eqGuard_agg w .eql 29 e f (tn y) (tn z) guard_fi, run_eql_struct, equal_fi, Result.andThen_ok]
  rfl
theorem exec_eqv_fi {o : Oper} {r : Operand → Value} {e f : Operand} {u : TypeId} (y z : Nat → Int) (v : Bool) (hv : eqT y z = v) (w : World) (ho : o.op = .binOp .eql 29 e f u) (hx : r e = .agg (tn y)) (hy : r f = .agg (tn z)) : (execOp r o).run Try.prog w = .ok (.value (.bool v)) w := by
  rw [← hv]; exact exec_eql_fi y z w ho hx hy
theorem wpList_eql_fi {ops : Array Oper} {rest : List Oper} {o : Oper} {a : Act} {w : World} {Q : Exit → Act → World → Prop} (hw : Region.wanted o (yielded ops a.tmps) = true) {e f : Operand} {u : TypeId} (ho : o.op = .binOp .eql 29 e f u) (y z : Nat → Int) (v : Bool) (hx : a.eval e = .agg (tn y)) (hy : a.eval f = .agg (tn z)) (hv : eqT y z = v)
    (h : wpList Try.prog ops Q rest (a.put o.dst (.bool v)) w) : wpList Try.prog ops Q (o :: rest) a w :=
  wpList_yields hw (fun w => exec_eql_fi y z w ho hx hy) (by rw [hv]; exact h)
theorem equal_te (y z : Nat → Int) (w : World) : (Op.equalIn 10000 28 (.agg (tn y)) (.agg (tn z))).run Try.prog w = .ok (eqT y z) w := by
  obtain ⟨i, hi⟩ : ∃ i, Try.prog.info? 3 = some i := info_of_underlying Try.underlying3
  rw [show (10000 : Nat) = 9998 + 1 + 1 from rfl, run_equalIn_array w (9998 + 1) (tn y) (tn z) Try.underlying28 hi, show Try.prog.cellsOf 3 = 1 by kernel_rfl, eqItems_tn y z w 9998 (List.range 10) (fun i hi => List.mem_range.1 hi)]
  rfl
theorem guard_te : Try.prog.eqGuardType Try.prog.depth 28 = false := by kernel_rfl
theorem exec_eql_te {o : Oper} {r : Operand → Value} {e f : Operand} {u : TypeId} (y z : Nat → Int) (w : World) (ho : o.op = .binOp .eql 28 e f u) (hx : r e = .agg (tn y)) (hy : r f = .agg (tn z)) : (execOp r o).run Try.prog w = .ok (.value (.bool (eqT y z))) w := by
  unfold execOp
  simp only [ho, hx, hy, Sem.run_bind, run_eqGuard_agg w .eql 28 e f (tn y) (tn z) guard_te, run_eql_struct, equal_te, Result.andThen_ok]
  rfl
theorem exec_eqv_te {o : Oper} {r : Operand → Value} {e f : Operand} {u : TypeId} (y z : Nat → Int) (v : Bool) (hv : eqT y z = v) (w : World) (ho : o.op = .binOp .eql 28 e f u) (hx : r e = .agg (tn y)) (hy : r f = .agg (tn z)) : (execOp r o).run Try.prog w = .ok (.value (.bool v)) w := by
  rw [← hv]; exact exec_eql_te y z w ho hx hy
theorem wpList_eql_te {ops : Array Oper} {rest : List Oper} {o : Oper} {a : Act} {w : World} {Q : Exit → Act → World → Prop} (hw : Region.wanted o (yielded ops a.tmps) = true) {e f : Operand} {u : TypeId} (ho : o.op = .binOp .eql 28 e f u) (y z : Nat → Int) (v : Bool) (hx : a.eval e = .agg (tn y)) (hy : a.eval f = .agg (tn z)) (hv : eqT y z = v)
    (h : wpList Try.prog ops Q rest (a.put o.dst (.bool v)) w) : wpList Try.prog ops Q (o :: rest) a w :=
  wpList_yields hw (fun w => exec_eql_te y z w ho hx hy) (by rw [hv]; exact h)

end Go.Proofs.Ytndhagflfbblaaa
