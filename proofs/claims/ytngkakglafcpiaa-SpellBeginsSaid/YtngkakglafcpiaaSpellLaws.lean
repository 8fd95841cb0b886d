/- Two worths of layer 12 compared, the program's and the document's. Conditions: none. -/
import Derived.Test.YtngkakglafcpiaaRows
import Derived.Test.YtngkakglafcpiaaBase
import Derived.Test.YtngkakglafcpiaaBookRow
import Derived.Test.YtngkakglafcpiaaBookLaws
import Derived.Test.YtngkakglafcpiaaBox
import Derived.Test.YtngkakglafcpiaaSpellMath
import Derived.WalkKit
import Derived.WalkSpells
import Derived.WalkSmall
import Derived.Below
import Derived.Lib.Hide
import Derived.Laws.StructEq
import Derived.OrdersHeld
import Derived.Deep.Quiet
namespace Go.Proofs.Ytngkakglafcpiaa
open Go.RowKit

theorem wo_bool (s : Wo) : ∀ i, i < 7 → ∃ b, (wo s)[i]? = some (.bool b) := by
  intro i hi
  have : i = 0 ∨ i = 1 ∨ i = 2 ∨ i = 3 ∨ i = 4 ∨ i = 5 ∨ i = 6 := by omega
  rcases this with rfl | rfl | rfl | rfl | rfl | rfl | rfl <;> exact ⟨_, rfl⟩

theorem wo_all (s u : Wo) : ((List.range 7).all fun i => veq ((wo s).getD i undef) ((wo u).getD i undef)) = s.eqB u := by
  simp [List.range, List.range.loop, wo, veq, Wo.eqB]

theorem fields_wop : (Try.prog.fieldsOf 29).toList.map (·.offset) = List.range 7 := by kernel_rfl
theorem fields_wobp : ∀ f ∈ (Try.prog.fieldsOf 29).toList, f.name ≠ "_" ∧ f.type = 4 ∧ f.offset < 7 := of_decide_eq_true (by kernel_rfl)
theorem guard_wop : Try.prog.eqGuardType Try.prog.depth 29 = false := by kernel_rfl

theorem equal_wop (s u : Wo) (w : World) : (Op.equalIn 10000 29 (.agg (wo s)) (.agg (wo u))).run Try.prog w = .ok (s.eqB u) w := by
  rw [show (10000 : Nat) = 9998 + 1 + 1 from rfl, run_equalIn_struct w (9998 + 1) 29 (wo s) (wo u) (by kernel_rfl) (by kernel_rfl), eqFields_bas (wo s) (wo u) w 9998 _ (fun f hf => by
    obtain ⟨hn, ht, ho⟩ := fields_wobp f hf
    obtain ⟨a, ha⟩ := wo_bool s _ ho
    obtain ⟨b, hb⟩ := wo_bool u _ ho
    exact ⟨hn, _, _, ha, hb, Or.inr ⟨a, b, by rw [ht]; exact Try.underlying4, rfl, rfl⟩⟩)]
  congr 1
  rw [← wo_all, ← fields_wop, List.all_map]
  rfl

section
variable {ops : Array Oper} {rest : List Oper} {o : Oper} {a : Act} {w : World} {Q : Exit → Act → World → Prop}
theorem exec_eql_wop {r : Operand → Value} {e f : Operand} {u : TypeId} (x y : Wo) (w : World) (ho : o.op = .binOp .eql 29 e f u) (hx : r e = .agg (wo x)) (hy : r f = .agg (wo y)) : (execOp r o).run Try.prog w = .ok (.value (.bool (x.eqB y))) w := by
  unfold execOp
  simp only [ho, hx, hy, Sem.run_bind, run_eqGuard_agg w .eql 29 e f (wo x) (wo y) guard_wop, run_eql_struct, equal_wop, Result.andThen_ok]
  rfl
theorem wpList_eql_wop (hw : Region.wanted o (yielded ops a.tmps) = true) {e f : Operand} {u : TypeId} (ho : o.op = .binOp .eql 29 e f u) (x y : Wo) (v : Bool) (hx : a.eval e = .agg (wo x)) (hy : a.eval f = .agg (wo y)) (hv : x.eqB y = v)
    (h : wpList Try.prog ops Q rest (a.put o.dst (.bool v)) w) : wpList Try.prog ops Q (o :: rest) a w :=
  wpList_yields hw (fun w => exec_eql_wop x y w ho hx hy) (by rw [hv]; exact h)
end

theorem fields_wor : (Try.prog.fieldsOf 35).toList.map (·.offset) = List.range 7 := by kernel_rfl
theorem fields_wobr : ∀ f ∈ (Try.prog.fieldsOf 35).toList, f.name ≠ "_" ∧ f.type = 4 ∧ f.offset < 7 := of_decide_eq_true (by kernel_rfl)
theorem guard_wor : Try.prog.eqGuardType Try.prog.depth 35 = false := by kernel_rfl

theorem equal_wor (s u : Wo) (w : World) : (Op.equalIn 10000 35 (.agg (wo s)) (.agg (wo u))).run Try.prog w = .ok (s.eqB u) w := by
  rw [show (10000 : Nat) = 9998 + 1 + 1 from rfl, run_equalIn_struct w (9998 + 1) 35 (wo s) (wo u) (by kernel_rfl) (by kernel_rfl), eqFields_bas (wo s) (wo u) w 9998 _ (fun f hf => by
    obtain ⟨hn, ht, ho⟩ := fields_wobr f hf
    obtain ⟨a, ha⟩ := wo_bool s _ ho
    obtain ⟨b, hb⟩ := wo_bool u _ ho
    exact ⟨hn, _, _, ha, hb, Or.inr ⟨a, b, by rw [ht]; exact Try.underlying4, rfl, rfl⟩⟩)]
  congr 1
  rw [← wo_all, ← fields_wor, List.all_map]
  rfl

section
variable {ops : Array Oper} {rest : List Oper} {o : Oper} {a : Act} {w : World} {Q : Exit → Act → World → Prop}
theorem exec_eql_wor {r : Operand → Value} {e f : Operand} {u : TypeId} (x y : Wo) (w : World) (ho : o.op = .binOp .eql 35 e f u) (hx : r e = .agg (wo x)) (hy : r f = .agg (wo y)) : (execOp r o).run Try.prog w = .ok (.value (.bool (x.eqB y))) w := by
  unfold execOp
  simp only [ho, hx, hy, Sem.run_bind, run_eqGuard_agg w .eql 35 e f (wo x) (wo y) guard_wor, run_eql_struct, equal_wor, Result.andThen_ok]
  rfl
theorem wpList_eql_wor (hw : Region.wanted o (yielded ops a.tmps) = true) {e f : Operand} {u : TypeId} (ho : o.op = .binOp .eql 35 e f u) (x y : Wo) (v : Bool) (hx : a.eval e = .agg (wo x)) (hy : a.eval f = .agg (wo y)) (hv : x.eqB y = v)
    (h : wpList Try.prog ops Q rest (a.put o.dst (.bool v)) w) : wpList Try.prog ops Q (o :: rest) a w :=
  wpList_yields hw (fun w => exec_eql_wor x y w ho hx hy) (by rw [hv]; exact h)
end

theorem RdI.upd {W W' : World} {b off g : Nat} {x : Nat → Int} {T : TypeId} {cs : Array Value} (h : RdI W b off x) (u : Upd W g T cs W') (hne : b ≠ g) : RdI W' b off x :=
  ⟨by rw [u.size]; exact h.1, fun i hi => (u.cell (p := ⟨b, off + i, none⟩) hne).trans (h.2 i hi)⟩

/-- What a spell and the one that goes on for a minute are worth. -/
theorem ofV_more {x : Nat → Int} (hm : May x) (f t dawn : Int) (half split : Bool) :
    ((ofV x f t dawn half split).brk = true → (ofV x f (t + 1) dawn half split).brk = true) ∧ ((ofV x f t dawn half split).daily = true → (ofV x f (t + 1) dawn half split).daily = true) ∧
    ((ofV x f t dawn half split).weekly = true → (ofV x f (t + 1) dawn half split).weekly = true) ∧
    ((ofV x f t dawn half split).daily = true → (ofV x f t dawn half split).red = false → (ofV x f (t + 1) dawn half split).red = false) := by
  have ho := may_ord hm
  have hb : ∀ n, lastB (t - f) n = true → lastB (t + 1 - f) n = true := by
    intro n; unfold lastB; simp only [decide_eq_true_eq]; omega
  have hg : lastB (min t (dawn + x 11) - f) (x 7) = true → lastB (min (t + 1) (dawn + x 11) - f) (x 7) = true := by
    unfold lastB; simp only [decide_eq_true_eq]; omega
  have h1 := hb (x 1); have h3 := hb (x 3); have h8 := hb (x 8); have h13 := hb (x 13)
  unfold ofV ofW
  dsimp only
  revert h1 h3 h8 h13 hg
  generalize lastB (t - f) (x 1) = a1; generalize lastB (t - f) (x 3) = a3; generalize lastB (t - f) (x 8) = a8; generalize lastB (t - f) (x 13) = a13
  generalize lastB (t + 1 - f) (x 1) = c1; generalize lastB (t + 1 - f) (x 3) = c3; generalize lastB (t + 1 - f) (x 8) = c8; generalize lastB (t + 1 - f) (x 13) = c13
  generalize lastB (min t (dawn + x 11) - f) (x 7) = g; generalize lastB (min (t + 1) (dawn + x 11) - f) (x 7) = g'
  clear hb ho hm
  cases half <;> cases split <;> cases a1 <;> cases a3 <;> cases a8 <;> cases a13 <;> cases g <;> simp <;> intros <;> simp_all

/-- How the parts of a worth hang together. -/
theorem ofV_hang {x : Nat → Int} (hm : May x) (f t dawn : Int) (half split : Bool) :
    ((ofV x f t dawn half split).brief = true → (ofV x f t dawn half split).weekly = true) ∧ ((ofV x f t dawn half split).weekly = true → (ofV x f t dawn half split).daily = true) ∧
    ((ofV x f t dawn half split).daily = true → (ofV x f t dawn half split).brk = true ∧ (ofV x f t dawn half split).part = false) ∧
    ((ofV x f t dawn half split).brk = true → (ofV x f t dawn half split).half = false) := by
  have ho := may_ord hm
  have hb : ∀ n m, n ≤ m → lastB (t - f) m = true → lastB (t - f) n = true := by
    intro n m; unfold lastB; simp only [decide_eq_true_eq]; omega
  have h1 := hb (x 8) (x 13) (by omega)
  have h2 := hb (x 1) (x 8) (by omega)
  unfold ofV ofW
  dsimp only
  revert h1 h2
  generalize lastB (t - f) (x 1) = a1; generalize lastB (t - f) (x 8) = a8; generalize lastB (t - f) (x 13) = a13
  generalize lastB (t - f) (x 3) = a3
  clear hb ho hm
  cases half <;> cases a3 <;> cases a1 <;> cases a8 <;> cases a13 <;> simp

end Go.Proofs.Ytngkakglafcpiaa
