/- Two meters, two spots compared. Conditions: none. -/
import Derived.Test.YtglgifhpacmhiaaRows
import Derived.Test.YtglgifhpacmhiaaBase
import Derived.Test.YtglgifhpacmhiaaBookRow
import Derived.Test.YtglgifhpacmhiaaBookLaws
import Derived.Test.YtglgifhpacmhiaaBox
import Derived.Test.YtglgifhpacmhiaaRecMath
import Derived.Test.YtglgifhpacmhiaaSpellMath
import Derived.Test.YtglgifhpacmhiaaMeterMath
import Derived.Test.YtglgifhpacmhiaaBelowMath
import Derived.WalkKit
import Derived.WalkSpells
import Derived.WalkSmall
import Derived.Below
import Derived.Lib.Hide
import Derived.Laws.StructEq
import Derived.OrdersHeld
import Derived.Deep.Quiet
namespace Go.Proofs.Ytglgifhpacmhiaa
open Go.RowKit

/-- A spot's cells. -/
def sp (s : Rc) : Array Value := #[.int .i64 s.1, .int .i64 s.2.1, .int .i64 s.2.2]
theorem sp_size (s : Rc) : (sp s).size = 3 := rfl

theorem mt_ext {s t : Mt} (h : s.now = t.now ∧ s.acc = t.acc ∧ s.half = t.half ∧ s.lie = t.lie ∧ s.dawn = t.dawn ∧ s.day = t.day ∧ s.longers = t.longers ∧ s.split = t.split ∧ s.reduces = t.reduces ∧ s.sabbath = t.sabbath ∧ s.brief = t.brief ∧ s.week = t.week ∧ s.last = t.last ∧ s.labour = t.labour) : s = t := by
  obtain ⟨a0, a1, a2, a3, a4, a5, a6, a7, a8, a9, a10, a11, a12, a13⟩ := s
  obtain ⟨b0, b1, b2, b3, b4, b5, b6, b7, b8, b9, b10, b11, b12, b13⟩ := t
  dsimp only at h
  obtain ⟨rfl, rfl, rfl, rfl, rfl, rfl, rfl, rfl, rfl, rfl, rfl, rfl, rfl, rfl⟩ := h
  rfl

theorem mt_all (s t : Mt) : ((List.range 14).all fun i => veq ((mt s).getD i undef) ((mt t).getD i undef)) = tf (s = t) := by
  rw [Bool.eq_iff_iff, tf_iff]
  constructor
  · intro h
    simp [List.range, List.range.loop, mt, veq] at h
    exact mt_ext h
  · rintro rfl
    simp [List.range, List.range.loop, mt, veq]

theorem sp_all (s t : Rc) : ((List.range 3).all fun i => veq ((sp s).getD i undef) ((sp t).getD i undef)) = decide (s = t) := by
  rw [Bool.eq_iff_iff, decide_eq_true_eq]
  obtain ⟨a, b, c⟩ := s
  obtain ⟨d, e, f⟩ := t
  simp [List.range, List.range.loop, sp, veq]

theorem fields_mt : (Try.prog.fieldsOf 36).toList.map (·.offset) = List.range 14 := by kernel_rfl
/-- Which of its cells are truths. -/
def boolAt (i : Nat) : Bool := i == 2 || i == 7 || i == 10
theorem fields_mtt : ∀ f ∈ (Try.prog.fieldsOf 36).toList, f.name ≠ "_" ∧ f.type = (if boolAt f.offset then 4 else 3) ∧ f.offset < 14 := of_decide_eq_true (by kernel_rfl)
theorem guard_mt : Try.prog.eqGuardType Try.prog.depth 36 = false := by kernel_rfl
theorem mt_cell (s : Mt) : ∀ i, i < 14 → (boolAt i = true ∧ ∃ b, (mt s)[i]? = some (.bool b)) ∨ (boolAt i = false ∧ ∃ n, (mt s)[i]? = some (.int .i64 n)) := by
  intro i hi
  have : i = 0 ∨ i = 1 ∨ i = 2 ∨ i = 3 ∨ i = 4 ∨ i = 5 ∨ i = 6 ∨ i = 7 ∨ i = 8 ∨ i = 9 ∨ i = 10 ∨ i = 11 ∨ i = 12 ∨ i = 13 := by omega
  rcases this with rfl | rfl | rfl | rfl | rfl | rfl | rfl | rfl | rfl | rfl | rfl | rfl | rfl | rfl <;> first | exact .inl ⟨rfl, _, rfl⟩ | exact .inr ⟨rfl, _, rfl⟩

theorem equal_mt (s u : Mt) (w : World) : (Op.equalIn 10000 36 (.agg (mt s)) (.agg (mt u))).run Try.prog w = .ok (tf (s = u)) w := by
  rw [show (10000 : Nat) = 9998 + 1 + 1 from rfl, run_equalIn_struct w (9998 + 1) 36 (mt s) (mt u) (by kernel_rfl) (by kernel_rfl), eqFields_bas (mt s) (mt u) w 9998 _ (fun f hf => by
    obtain ⟨hn, ht, ho⟩ := fields_mtt f hf
    rcases mt_cell s _ ho with ⟨h1, a, ha⟩ | ⟨h1, a, ha⟩
    · rcases mt_cell u _ ho with ⟨_, b, hb⟩ | ⟨h2, _⟩
      · exact ⟨hn, _, _, ha, hb, Or.inr ⟨a, b, by rw [ht, if_pos h1]; exact Try.underlying4, rfl, rfl⟩⟩
      · rw [h1] at h2; cases h2
    · rcases mt_cell u _ ho with ⟨h2, _⟩ | ⟨_, b, hb⟩
      · rw [h1] at h2; cases h2
      · exact ⟨hn, _, _, ha, hb, Or.inl ⟨.i64, a, b, by rw [ht, h1]; exact Try.underlying3, rfl, rfl⟩⟩)]
  congr 1
  rw [← mt_all, ← fields_mt, List.all_map]
  rfl

theorem fields_sp : (Try.prog.fieldsOf 26).toList.map (·.offset) = List.range 3 := by kernel_rfl
theorem fields_spt : ∀ f ∈ (Try.prog.fieldsOf 26).toList, f.name ≠ "_" ∧ f.type = 3 ∧ f.offset < 3 := of_decide_eq_true (by kernel_rfl)
theorem guard_sp : Try.prog.eqGuardType Try.prog.depth 26 = false := by kernel_rfl
theorem sp_cell (s : Rc) : ∀ i, i < 3 → ∃ n, (sp s)[i]? = some (.int .i64 n) := by
  intro i hi
  have : i = 0 ∨ i = 1 ∨ i = 2 := by omega
  rcases this with rfl | rfl | rfl <;> exact ⟨_, rfl⟩

theorem equal_sp (s u : Rc) (w : World) : (Op.equalIn 10000 26 (.agg (sp s)) (.agg (sp u))).run Try.prog w = .ok (decide (s = u)) w := by
  rw [show (10000 : Nat) = 9998 + 1 + 1 from rfl, run_equalIn_struct w (9998 + 1) 26 (sp s) (sp u) (by kernel_rfl) (by kernel_rfl), eqFields_bas (sp s) (sp u) w 9998 _ (fun f hf => by
    obtain ⟨hn, ht, ho⟩ := fields_spt f hf
    obtain ⟨a, ha⟩ := sp_cell s _ ho
    obtain ⟨b, hb⟩ := sp_cell u _ ho
    exact ⟨hn, _, _, ha, hb, Or.inl ⟨.i64, a, b, by rw [ht]; exact Try.underlying3, rfl, rfl⟩⟩)]
  congr 1
  rw [← sp_all, ← fields_sp, List.all_map]
  rfl

section
variable {ops : Array Oper} {rest : List Oper} {o : Oper} {a : Act} {w : World} {Q : Exit → Act → World → Prop}
theorem exec_eql_mt {r : Operand → Value} {e f : Operand} {u : TypeId} (x y : Mt) (w : World) (ho : o.op = .binOp .eql 36 e f u) (hx : r e = .agg (mt x)) (hy : r f = .agg (mt y)) : (execOp r o).run Try.prog w = .ok (.value (.bool (tf (x = y)))) w := by
  unfold execOp
  simp only [ho, hx, hy, Sem.run_bind, run_eqGuard_agg w .eql 36 e f (mt x) (mt y) guard_mt, run_eql_struct, equal_mt, Result.andThen_ok]
  rfl
theorem exec_neq_mt {r : Operand → Value} {e f : Operand} {u : TypeId} (x y : Mt) (w : World) (ho : o.op = .binOp .neq 36 e f u) (hx : r e = .agg (mt x)) (hy : r f = .agg (mt y)) : (execOp r o).run Try.prog w = .ok (.value (.bool (!tf (x = y)))) w := by
  unfold execOp
  simp only [ho, hx, hy, Sem.run_bind, run_eqGuard_agg w .neq 36 e f (mt x) (mt y) guard_mt, run_neq_struct, equal_mt, Result.andThen_ok]
  rfl
theorem exec_eql_sp {r : Operand → Value} {e f : Operand} {u : TypeId} (x y : Rc) (w : World) (ho : o.op = .binOp .eql 26 e f u) (hx : r e = .agg (sp x)) (hy : r f = .agg (sp y)) : (execOp r o).run Try.prog w = .ok (.value (.bool (decide (x = y)))) w := by
  unfold execOp
  simp only [ho, hx, hy, Sem.run_bind, run_eqGuard_agg w .eql 26 e f (sp x) (sp y) guard_sp, run_eql_struct, equal_sp, Result.andThen_ok]
  rfl
theorem exec_neq_sp {r : Operand → Value} {e f : Operand} {u : TypeId} (x y : Rc) (w : World) (ho : o.op = .binOp .neq 26 e f u) (hx : r e = .agg (sp x)) (hy : r f = .agg (sp y)) : (execOp r o).run Try.prog w = .ok (.value (.bool (!decide (x = y)))) w := by
  unfold execOp
  simp only [ho, hx, hy, Sem.run_bind, run_eqGuard_agg w .neq 26 e f (sp x) (sp y) guard_sp, run_neq_struct, equal_sp, Result.andThen_ok]
  rfl
theorem exec_eqv_mt {r : Operand → Value} {e f : Operand} {u : TypeId} (x y : Mt) {v : Bool} (hv : tf (x = y) = v) (w : World) (ho : o.op = .binOp .eql 36 e f u) (hx : r e = .agg (mt x)) (hy : r f = .agg (mt y)) : (execOp r o).run Try.prog w = .ok (.value (.bool v)) w := by
  rw [← hv]; exact exec_eql_mt x y w ho hx hy
theorem exec_nev_mt {r : Operand → Value} {e f : Operand} {u : TypeId} (x y : Mt) {v : Bool} (hv : tf (x = y) = v) (w : World) (ho : o.op = .binOp .neq 36 e f u) (hx : r e = .agg (mt x)) (hy : r f = .agg (mt y)) : (execOp r o).run Try.prog w = .ok (.value (.bool (!v))) w := by
  rw [← hv]; exact exec_neq_mt x y w ho hx hy
theorem exec_eqv_sp {r : Operand → Value} {e f : Operand} {u : TypeId} (x y : Rc) {v : Bool} (hv : decide (x = y) = v) (w : World) (ho : o.op = .binOp .eql 26 e f u) (hx : r e = .agg (sp x)) (hy : r f = .agg (sp y)) : (execOp r o).run Try.prog w = .ok (.value (.bool v)) w := by
  rw [← hv]; exact exec_eql_sp x y w ho hx hy
theorem exec_nev_sp {r : Operand → Value} {e f : Operand} {u : TypeId} (x y : Rc) {v : Bool} (hv : decide (x = y) = v) (w : World) (ho : o.op = .binOp .neq 26 e f u) (hx : r e = .agg (sp x)) (hy : r f = .agg (sp y)) : (execOp r o).run Try.prog w = .ok (.value (.bool (!v))) w := by
  rw [← hv]; exact exec_neq_sp x y w ho hx hy
theorem wpList_eql_mt (hw : Region.wanted o (yielded ops a.tmps) = true) {e f : Operand} {u : TypeId} (ho : o.op = .binOp .eql 36 e f u) (x y : Mt) (v : Bool) (hx : a.eval e = .agg (mt x)) (hy : a.eval f = .agg (mt y)) (hv : tf (x = y) = v)
    (h : wpList Try.prog ops Q rest (a.put o.dst (.bool v)) w) : wpList Try.prog ops Q (o :: rest) a w :=
  wpList_yields hw (fun w => exec_eql_mt x y w ho hx hy) (by rw [hv]; exact h)
theorem wpList_neq_mt (hw : Region.wanted o (yielded ops a.tmps) = true) {e f : Operand} {u : TypeId} (ho : o.op = .binOp .neq 36 e f u) (x y : Mt) (v : Bool) (hx : a.eval e = .agg (mt x)) (hy : a.eval f = .agg (mt y)) (hv : tf (x = y) = v)
    (h : wpList Try.prog ops Q rest (a.put o.dst (.bool (!v))) w) : wpList Try.prog ops Q (o :: rest) a w :=
  wpList_yields hw (fun w => exec_neq_mt x y w ho hx hy) (by rw [hv]; exact h)
theorem wpList_eql_sp (hw : Region.wanted o (yielded ops a.tmps) = true) {e f : Operand} {u : TypeId} (ho : o.op = .binOp .eql 26 e f u) (x y : Rc) (v : Bool) (hx : a.eval e = .agg (sp x)) (hy : a.eval f = .agg (sp y)) (hv : decide (x = y) = v)
    (h : wpList Try.prog ops Q rest (a.put o.dst (.bool v)) w) : wpList Try.prog ops Q (o :: rest) a w :=
  wpList_yields hw (fun w => exec_eql_sp x y w ho hx hy) (by rw [hv]; exact h)
theorem wpList_neq_sp (hw : Region.wanted o (yielded ops a.tmps) = true) {e f : Operand} {u : TypeId} (ho : o.op = .binOp .neq 26 e f u) (x y : Rc) (v : Bool) (hx : a.eval e = .agg (sp x)) (hy : a.eval f = .agg (sp y)) (hv : decide (x = y) = v)
    (h : wpList Try.prog ops Q rest (a.put o.dst (.bool (!v))) w) : wpList Try.prog ops Q (o :: rest) a w :=
  wpList_yields hw (fun w => exec_neq_sp x y w ho hx hy) (by rw [hv]; exact h)
end

end Go.Proofs.Ytglgifhpacmhiaa
