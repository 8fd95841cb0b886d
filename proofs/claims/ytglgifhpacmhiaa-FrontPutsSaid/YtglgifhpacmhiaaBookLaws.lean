/- Laws for nineteen numbers: equality, loads and literals in regions that draw their order, a row stored. Conditions: none beyond each lemma's own premises. -/
import Derived.Test.YtglgifhpacmhiaaRows
import Derived.Test.YtglgifhpacmhiaaBase
import Derived.Test.YtglgifhpacmhiaaBookRow
import Derived.WalkKit
import Derived.Below
import Derived.Laws.Tables
import Derived.Laws.Rows
import Derived.Laws.StructEq
import Derived.Laws.Cover3
import Derived.Deep.MidRow
import Derived.Deep.Quiet
import Derived.OrdersHeld
import Derived.KernelRfl
namespace Go.Proofs.Ytglgifhpacmhiaa
open Go.RowKit

/-- Are the nineteen numbers the same? -/
def eqB (x y : Nat → Int) : Bool := (List.range 19).all fun i => x i == y i

theorem eqB_iff {x y : Nat → Int} : eqB x y = true ↔ ∀ i, i < 19 → x i = y i := by
  simp [eqB, List.all_eq_true]
theorem eqB_self (x : Nat → Int) : eqB x x = true := eqB_iff.2 fun _ _ => rfl
theorem eqB_no {x y : Nat → Int} (h : ¬ ∀ i, i < 19 → x i = y i) : eqB x y = false := by
  cases he : eqB x y with
  | false => rfl
  | true => exact absurd (eqB_iff.1 he) h
theorem bk_eq {x y : Nat → Int} (h : ∀ i, i < 19 → x i = y i) : bk x = bk y := by
  unfold bk
  rw [h 0 (by omega), h 1 (by omega), h 2 (by omega), h 3 (by omega), h 4 (by omega), h 5 (by omega), h 6 (by omega), h 7 (by omega), h 8 (by omega), h 9 (by omega), h 10 (by omega), h 11 (by omega), h 12 (by omega), h 13 (by omega), h 14 (by omega), h 15 (by omega), h 16 (by omega), h 17 (by omega), h 18 (by omega)]

section
theorem b_sr {n : Nat} {w W : World} {g : Nat} {cs : Array Value} (h : Below n w W) (hg : n ≤ g) : Below n w (W.setRow g cs) :=
  ⟨h.os, h.tape, h.output, by rw [setRow_size]; exact h.size, fun k hk => (setRow_other W g k cs (by omega)).trans (h.block k hk)⟩

theorem RdI.stored {W : World} {g : Nat} (x : Nat → Int) {old : Array Value} {t : TypeId} {fr : Nat × Nat} (hg : W.heap[g]? = some (.cells old t fr)) : RdI (W.setRow g (bk x)) g 0 x := by
  refine ⟨by rw [setRow_size]; exact (Array.getElem?_eq_some_iff.1 hg).1, fun i hi => ?_⟩
  rw [Nat.zero_add, cell_setRow_same W g i old _ t fr hg]
  exact bk_at x i hi

theorem h_al {W : World} {g : Nat} {v : Obj} (o : Obj) (h : W.heap[g]? = some v) : (W.alloc o).heap[g]? = some v := by
  rw [heap_alloc_old _ _ (Array.getElem?_eq_some_iff.1 h).1, h]
theorem h_new {W : World} {g : Nat} (o : Obj) (h : g = W.heap.size) : (W.alloc o).heap[g]? = some o := by subst h; exact heap_alloc_new _ _
theorem h_cl {W w1 : World} {g : Nat} {v : Obj} (h : W.heap[g]? = some v) (hb : Below W.heap.size W w1) : w1.heap[g]? = some v := by
  rw [hb.block g (Array.getElem?_eq_some_iff.1 h).1, h]
end

section
variable {P : Program}
theorem eqFields_all (x y : Nat → Int) (w : World) (d : Nat) (t : TypeId) (ht : P.underlying t = some (.int .i64)) : ∀ fs : List Field, (∀ f ∈ fs, f.name ≠ "_" ∧ f.type = t ∧ f.offset < 19) →
    (Op.eqFields (d + 1) (bk x) (bk y) fs).run P w = .ok (fs.all fun f => x f.offset == y f.offset) w
  | [], _ => rfl
  | f :: fs, h => by
    obtain ⟨hn, hty, ho⟩ := h f (by simp)
    have ih := eqFields_all x y w d t ht fs (fun g hg => h g (by simp [hg]))
    have hagg : ∀ w, (isAgg t).run P w = .ok false w := fun w => by
      unfold isAgg
      rw [Sem.run_bind, run_underlying ht w]
      simp
    have p1 : (part f.type (bk x) f.offset).run P w = .ok (.int .i64 (x f.offset)) w := by
      rw [hty]; unfold part; rw [Sem.run_bind, hagg]; simp [bk_at x f.offset ho]
    have p2 : (part f.type (bk y) f.offset).run P w = .ok (.int .i64 (y f.offset)) w := by
      rw [hty]; unfold part; rw [Sem.run_bind, hagg]; simp [bk_at y f.offset ho]
    have p3 : (Op.equalIn (d + 1) f.type (.int .i64 (x f.offset)) (.int .i64 (y f.offset))).run P w = .ok (x f.offset == y f.offset) w := by
      rw [hty]; exact run_equalIn_int w d t .i64 .i64 _ _ ht
    unfold Op.eqFields
    rw [if_pos hn]
    simp only [Sem.run_bind, p1, p2, p3, Result.andThen_ok]
    cases he : (x f.offset == y f.offset) with
    | true => simp [ih, he]
    | false => simp [he]
end

theorem fields_book : (Try.prog.fieldsOf 23).toList.map (·.offset) = List.range 19 := by kernel_rfl
theorem fields_int : ∀ f ∈ (Try.prog.fieldsOf 23).toList, f.name ≠ "_" ∧ f.type = 3 ∧ f.offset < 19 := of_decide_eq_true (by kernel_rfl)

theorem equal_bk (x y : Nat → Int) (w : World) : (Op.equalIn 10000 23 (.agg (bk x)) (.agg (bk y))).run Try.prog w = .ok (eqB x y) w := by
  rw [show (10000 : Nat) = 9998 + 1 + 1 from rfl, run_equalIn_struct w (9998 + 1) 23 (bk x) (bk y) (by kernel_rfl) (by kernel_rfl), eqFields_all x y w 9998 3 Try.underlying3 _ fields_int]
  have e : eqB x y = (Try.prog.fieldsOf 23).toList.all fun f => x f.offset == y f.offset := by
    unfold eqB
    rw [← fields_book, List.all_map]
    rfl
  rw [e]

theorem guard_book : Try.prog.eqGuardType Try.prog.depth 23 = false := by kernel_rfl

section
variable {ops : Array Oper} {rest : List Oper} {o : Oper} {a : Act} {w : World} {Q : Exit → Act → World → Prop} {K : Act → World → Prop}
theorem exec_eql {r : Operand → Value} {e f : Operand} {u : TypeId} (x y : Nat → Int) (w : World) (ho : o.op = .binOp .eql 23 e f u) (hx : r e = .agg (bk x)) (hy : r f = .agg (bk y)) : (execOp r o).run Try.prog w = .ok (.value (.bool (eqB x y))) w := by
  unfold execOp
  simp only [ho, hx, hy, Sem.run_bind, run_eqGuard_agg w .eql 23 e f (bk x) (bk y) guard_book, run_eql_struct, equal_bk, Result.andThen_ok]
  rfl
theorem exec_neq {r : Operand → Value} {e f : Operand} {u : TypeId} (x y : Nat → Int) (w : World) (ho : o.op = .binOp .neq 23 e f u) (hx : r e = .agg (bk x)) (hy : r f = .agg (bk y)) : (execOp r o).run Try.prog w = .ok (.value (.bool (!eqB x y))) w := by
  unfold execOp
  simp only [ho, hx, hy, Sem.run_bind, run_eqGuard_agg w .neq 23 e f (bk x) (bk y) guard_book, run_neq_struct, equal_bk, Result.andThen_ok]
  rfl
theorem wpList_eql_bk (hw : Region.wanted o (yielded ops a.tmps) = true) {e f : Operand} {u : TypeId} (ho : o.op = .binOp .eql 23 e f u) (x y : Nat → Int) (v : Bool) (hx : a.eval e = .agg (bk x)) (hy : a.eval f = .agg (bk y)) (hv : eqB x y = v)
    (h : wpList Try.prog ops Q rest (a.put o.dst (.bool v)) w) : wpList Try.prog ops Q (o :: rest) a w :=
  wpList_yields hw (fun w => exec_eql x y w ho hx hy) (by rw [hv]; exact h)
theorem wpList_neq_bk (hw : Region.wanted o (yielded ops a.tmps) = true) {e f : Operand} {u : TypeId} (ho : o.op = .binOp .neq 23 e f u) (x y : Nat → Int) (v : Bool) (hx : a.eval e = .agg (bk x)) (hy : a.eval f = .agg (bk y)) (hv : eqB x y = v)
    (h : wpList Try.prog ops Q rest (a.put o.dst (.bool (!v))) w) : wpList Try.prog ops Q (o :: rest) a w :=
  wpList_yields hw (fun w => exec_neq x y w ho hx hy) (by rw [hv]; exact h)
theorem exec_load {r : Operand → Value} {ty : TypeId} {y : Operand} (b off : Nat) (x : Nat → Int) (d : TypeDesc) (w : World) (ho : o.op = .load ty y) (hx : r y = .pointer (some ⟨b, off, none⟩)) (hr : RdI w b off x)
    (hu : Try.prog.underlying ty = some d) (hd : d.isRow = true) (hi : (Try.prog.info? ty).map (·.size) = some 19) : (execOp r o).run Try.prog w = .ok (.value (.agg (bk x))) w := by
  unfold execOp
  simp only [ho, hx, run_loadAt_bk w b off ty x d hr hu hd hi, Sem.run_bind, Result.andThen_ok]
  rfl
theorem wpList_arrayAt (hg : Region.wanted o (yielded ops a.tmps) = true) (arr e : TypeId) (n : Nat) (y : Operand) (ho : o.op = .sliceToArrayPointer arr y) (A : Option Addr) (len cap : Nat) (hx : a.eval y = .slice A len cap)
    (hu : Try.prog.underlying arr = some (.array n e)) (hn : n ≤ len) (h : wpList Try.prog ops Q rest (a.put o.dst (.pointer A)) w) : wpList Try.prog ops Q (o :: rest) a w :=
  wpList_yields hg (fun w => by unfold execOp; simp only [ho, hx, Sem.run_bind, run_arrayAt w arr e n A len cap hu hn, Result.andThen_ok]; rfl) h
end

theorem results_bk2 {fn : Func} {p q : Tmp} {ty : TypeId} (h : fn.results = #[.cell p ty, .tmp q]) (tmps : Array Value) (w : World) (g : Nat) (x : Nat → Int) (d : TypeDesc) (v : Value)
    (hp : tmps.getD p undef = .pointer (some ⟨g, 0, none⟩)) (hr : RdI w g 0 x) (hq : tmps.getD q undef = v)
    (hu : Try.prog.underlying ty = some d) (hd : d.isRow = true) (hi : (Try.prog.info? ty).map (·.size) = some 19) :
    (results fn tmps).run Try.prog w = .ok (.tuple #[.agg (bk x), v]) w := by
  have hp' : tmps[p]?.getD undef = .pointer (some ⟨g, 0, none⟩) := by simpa using hp
  have hq' : tmps[q]?.getD undef = v := by simpa using hq
  have hl : (loadVar ty ⟨g, 0, none⟩).run Try.prog w = .ok (.agg (bk x)) w := by
    have := run_loadVar_mid (P := Try.prog) w g 0 ty (bk x).toList d hr.range hu hd (by simpa [bk_size] using hi)
    simpa using this
  simp [results, h, hp', hq', asAddr, hl]

end Go.Proofs.Ytglgifhpacmhiaa
