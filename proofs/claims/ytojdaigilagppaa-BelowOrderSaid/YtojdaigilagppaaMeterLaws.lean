/- Two meters compared. Conditions: none. -/
import Derived.Test.YtojdaigilagppaaRows
import Derived.Test.YtojdaigilagppaaBase
import Derived.Test.YtojdaigilagppaaBookRow
import Derived.Test.YtojdaigilagppaaBookLaws
import Derived.Test.YtojdaigilagppaaBox
import Derived.Test.YtojdaigilagppaaMeterMath
import Derived.WalkKit
import Derived.Laws.StructEq
import Derived.OrdersHeld
import Derived.Deep.Quiet
namespace Go.Proofs.Ytojdaigilagppaa
open Go.RowKit

theorem mt_bool (s : Mt) : ∀ i, (i = 2 ∨ i = 7 ∨ i = 10) → ∃ b, (mt s)[i]? = some (.bool b) := by
  intro i hi
  rcases hi with rfl | rfl | rfl <;> exact ⟨_, rfl⟩
theorem mt_int (s : Mt) : ∀ i, i < 14 → ¬ (i = 2 ∨ i = 7 ∨ i = 10) → ∃ n, (mt s)[i]? = some (.int .i64 n) := by
  intro i hi hn
  have : i = 0 ∨ i = 1 ∨ i = 3 ∨ i = 4 ∨ i = 5 ∨ i = 6 ∨ i = 8 ∨ i = 9 ∨ i = 11 ∨ i = 12 ∨ i = 13 := by omega
  rcases this with rfl | rfl | rfl | rfl | rfl | rfl | rfl | rfl | rfl | rfl | rfl <;> exact ⟨_, rfl⟩
theorem mt_all (s u : Mt) : ((List.range 14).all fun i => veq ((mt s).getD i undef) ((mt u).getD i undef)) = s.eqB u := by
  simp [List.range, List.range.loop, mt, veq, Mt.eqB]
theorem fields_mt : (Try.prog.fieldsOf 25).toList.map (·.offset) = List.range 14 := by kernel_rfl
theorem fields_mtb : ∀ f ∈ (Try.prog.fieldsOf 25).toList, f.name ≠ "_" ∧ f.type = (if f.offset = 2 ∨ f.offset = 7 ∨ f.offset = 10 then 4 else 3) ∧ f.offset < 14 := of_decide_eq_true (by kernel_rfl)
theorem guard_mt : Try.prog.eqGuardType Try.prog.depth 25 = false := by kernel_rfl

theorem equal_mt (s u : Mt) (w : World) : (Op.equalIn 10000 25 (.agg (mt s)) (.agg (mt u))).run Try.prog w = .ok (s.eqB u) w := by
  rw [show (10000 : Nat) = 9998 + 1 + 1 from rfl, run_equalIn_struct w (9998 + 1) 25 (mt s) (mt u) (by kernel_rfl) (by kernel_rfl), eqFields_bas (mt s) (mt u) w 9998 _ (fun f hf => by
    obtain ⟨hn, ht, ho⟩ := fields_mtb f hf
    by_cases hb : f.offset = 2 ∨ f.offset = 7 ∨ f.offset = 10
    · rw [if_pos hb] at ht
      obtain ⟨a, ha⟩ := mt_bool s _ hb
      obtain ⟨b, hb'⟩ := mt_bool u _ hb
      exact ⟨hn, _, _, ha, hb', Or.inr ⟨a, b, by rw [ht]; exact Try.underlying4, rfl, rfl⟩⟩
    · rw [if_neg hb] at ht
      obtain ⟨a, ha⟩ := mt_int s _ ho hb
      obtain ⟨b, hb'⟩ := mt_int u _ ho hb
      exact ⟨hn, _, _, ha, hb', Or.inl ⟨.i64, a, b, by rw [ht]; exact Try.underlying3, rfl, rfl⟩⟩)]
  congr 1
  rw [← mt_all, ← fields_mt, List.all_map]
  rfl

section
variable {ops : Array Oper} {rest : List Oper} {o : Oper} {a : Act} {w : World} {Q : Exit → Act → World → Prop}
theorem exec_eql_mt {r : Operand → Value} {e f : Operand} {u : TypeId} (x y : Mt) (w : World) (ho : o.op = .binOp .eql 25 e f u) (hx : r e = .agg (mt x)) (hy : r f = .agg (mt y)) : (execOp r o).run Try.prog w = .ok (.value (.bool (x.eqB y))) w := by
  unfold execOp
  simp only [ho, hx, hy, Sem.run_bind, run_eqGuard_agg w .eql 25 e f (mt x) (mt y) guard_mt, run_eql_struct, equal_mt, Result.andThen_ok]
  rfl
theorem wpList_eql_mt (hw : Region.wanted o (yielded ops a.tmps) = true) {e f : Operand} {u : TypeId} (ho : o.op = .binOp .eql 25 e f u) (x y : Mt) (v : Bool) (hx : a.eval e = .agg (mt x)) (hy : a.eval f = .agg (mt y)) (hv : x.eqB y = v)
    (h : wpList Try.prog ops Q rest (a.put o.dst (.bool v)) w) : wpList Try.prog ops Q (o :: rest) a w :=
  wpList_yields hw (fun w => exec_eql_mt x y w ho hx hy) (by rw [hv]; exact h)
theorem exec_neq_mt {r : Operand → Value} {e f : Operand} {u : TypeId} (x y : Mt) (w : World) (ho : o.op = .binOp .neq 25 e f u) (hx : r e = .agg (mt x)) (hy : r f = .agg (mt y)) : (execOp r o).run Try.prog w = .ok (.value (.bool (!x.eqB y))) w := by
  unfold execOp
  simp only [ho, hx, hy, Sem.run_bind, run_eqGuard_agg w .neq 25 e f (mt x) (mt y) guard_mt, run_neq_struct, equal_mt, Result.andThen_ok]
  rfl
theorem wpList_neq_mt (hw : Region.wanted o (yielded ops a.tmps) = true) {e f : Operand} {u : TypeId} (ho : o.op = .binOp .neq 25 e f u) (x y : Mt) (v : Bool) (hx : a.eval e = .agg (mt x)) (hy : a.eval f = .agg (mt y)) (hv : x.eqB y = v)
    (h : wpList Try.prog ops Q rest (a.put o.dst (.bool (!v))) w) : wpList Try.prog ops Q (o :: rest) a w :=
  wpList_yields hw (fun w => exec_neq_mt x y w ho hx hy) (by rw [hv]; exact h)
end

end Go.Proofs.Ytojdaigilagppaa
