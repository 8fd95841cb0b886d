/- Rows in the midst of a block, loaded and stored. Conditions: none beyond each lemma's own premises. -/
import Derived.Test.YtndhagflfbblaaaRows
import Derived.Test.YtndhagflfbblaaaBase
import Derived.Test.YtndhagflfbblaaaBookRow
import Derived.Test.YtndhagflfbblaaaBox
import Derived.Test.YtndhagflfbblaaaSpellMath
import Derived.Test.YtndhagflfbblaaaMeterMath
import Derived.Test.YtndhagflfbblaaaMeterSt
import Derived.Test.YtndhagflfbblaaaMeterChk
import Derived.Test.YtndhagflfbblaaaStretchMath
import Derived.Test.YtndhagflfbblaaaStretchOn
import Derived.Test.YtndhagflfbblaaaStretchSt
import Derived.WalkKit
import Derived.WalkSpells
import Derived.WalkSmall
import Derived.Below
import Derived.Lib.Hide
import Derived.Shelf.Abstract
import Derived.BigQuiet
import Derived.OwnWalk
import Derived.Outline
import Derived.Deep.DeepCutAuto
import Derived.StillTailTactics
import Derived.Maps.RangeWalk
import Derived.OrdersHeld
import Derived.Laws.Tables
import Derived.Laws.Rows
import Derived.Laws.CopyRow
import Derived.Deep.MidRow
import Derived.KernelRfl
namespace Go.Proofs.Ytndhagflfbblaaa
open Go.RowKit

section
variable {P : Program}
theorem exec_load_mid {r : Operand → Value} {o : Oper} {ty : TypeId} {y : Operand} (b off : Nat) (cs : Array Value) (d : TypeDesc) (w : World) (ho : o.op = .load ty y) (hx : r y = .pointer (some ⟨b, off, none⟩)) (hr : w.rangeAt b off cs.toList)
    (hu : P.underlying ty = some d) (hd : d.isRow = true) (hi : (P.info? ty).map (·.size) = some cs.size) : (execOp r o).run P w = .ok (.value (.agg cs)) w := by
  have := run_loadAt_mid (P := P) w b off ty cs.toList d hr hu hd (by simpa using hi)
  rw [Array.toArray_toList] at this
  unfold execOp
  simp only [ho, hx, this, Sem.run_bind, Result.andThen_ok]
  rfl
theorem run_storeVar_part (W : World) (g k : Nat) (t ty : TypeId) (cs vs : Array Value) (h : Bx W g t cs) (hk : k + vs.size ≤ cs.size) (hi : (P.info? ty).map (·.size) = some vs.size) (h1 : vs.all (·.oneCell') = true) :
    (storeVar ty ⟨g, k, none⟩ (.agg vs)).run P W = .ok () (W.setRow g (cs.toList.take k ++ vs.toList ++ cs.toList.drop (k + vs.size)).toArray) := by
  have := run_storeCells_at (P := P) g k t vs.toList 0 cs W h (by simpa using hk) (fun x hx => by
    rw [Array.all_eq_true] at h1
    obtain ⟨i, hi, rfl⟩ := Array.mem_iff_getElem.1 (Array.mem_toList_iff.1 hx)
    exact h1 i hi)
  have hc : (Value.agg vs).cells = vs := rfl
  cases hq : P.info? ty with
  | none => simp [hq] at hi
  | some i =>
    have hs : i.size = vs.size := by simpa [hq] using hi
    simp only [Nat.add_zero, Array.length_toList] at this
    simp [storeVar, sizeOf, typeInfo, hq, hc, hs, this]
theorem wpList_store_part {ops : Array Oper} {rest : List Oper} {o : Oper} {a : Act} {w : World} {Q : Exit → Act → World → Prop} (hgd : Region.wanted o (yielded ops a.tmps) = true) (ty : TypeId) (x y : Operand) (ho : o.op = .store ty x y)
    (g k : Nat) (vs : Array Value) (hx : a.eval x = .pointer (some ⟨g, k, none⟩)) (hy : a.eval y = .agg vs) (h1 : vs.all (·.oneCell') = true) (t : TypeId) (cs : Array Value) (hb : Bx w g t cs) (hk : k + vs.size ≤ cs.size) (hi : (P.info? ty).map (·.size) = some vs.size)
    (h : ∀ W', Upd w g t (cs.toList.take k ++ vs.toList ++ cs.toList.drop (k + vs.size)).toArray W' → wpList P ops Q rest (a.put o.dst undef) W') : wpList P ops Q (o :: rest) a w :=
  wpList_step fun K hK => by
    rw [if_pos hgd]
    unfold Oper.wp execOp
    simp only [ho, hx, hy, Instr.storeAt, Instr.sureAddr, Sem.run_bind, Sem.run_pure, Result.andThen_ok, run_storeVar_part w g k t ty cs vs hb hk hi h1]
    exact hK _ _ (h _ (Upd.of_setRow _ hb))
end
theorem blk_meter (x : Nat → Int) (k : Int) (m m' : Mt) (y : Nat → Int) : ((blk x k m y).toList.take 20 ++ (mt m').toList ++ (blk x k m y).toList.drop (20 + (mt m').size)).toArray = blk x k m' y := rfl

end Go.Proofs.Ytndhagflfbblaaa
