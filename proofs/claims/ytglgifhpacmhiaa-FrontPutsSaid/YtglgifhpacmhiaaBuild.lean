/- Whole rows built, stored in a new block; an operation that yields one value in every world. Conditions: none beyond each lemma's own premises. -/
import Derived.Test.YtglgifhpacmhiaaRows
import Derived.Test.YtglgifhpacmhiaaBase
import Derived.WalkKit
import Derived.WalkSpells
import Derived.WalkSmall
import Derived.Below
import Derived.Lib.Hide
import Derived.Laws.Tables
import Derived.Laws.Rows
import Derived.Deep.MidRow
import Derived.Deep.Quiet
import Derived.OrdersHeld
import Derived.KernelRfl
namespace Go.Proofs.Ytglgifhpacmhiaa
open Go.RowKit

section
variable {P : Program}
theorem setRow_new (W : World) (g : Nat) (old cs : Array Value) (t : TypeId) (hg : g = W.heap.size) : (W.alloc (.cells old t)).setRow g cs = W.alloc (.cells cs t) := by
  subst hg
  unfold World.setRow World.alloc
  congr 1
  apply Array.ext
  · simp
  · intro i h1 h2
    simp only [Array.getElem_modify]
    split
    · rename_i h; subst h; simp
    · rename_i h
      simp at h1
      have hi : i < W.heap.size := by omega
      simp [Array.getElem_push_lt hi]

theorem wpList_build_as {ops : Array Oper} {rest : List Oper} {o : Oper} {a : Act} {w : World} {Q : Exit → Act → World → Prop} (hg : o.guard = none) (t : TypeId) (parts : Array (Nat × Operand)) (ho : o.op = .build t parts) (cells : Array Value)
    (hf : P.built t (parts.map fun (i, x) => (i, a.eval x)).toList = some cells)
    (h : wpList P ops Q rest (a.put o.dst (.agg cells)) w) : wpList P ops Q (o :: rest) a w :=
  wpList_build hg t parts ho (by rw [hf]; rfl) (by rw [hf]; exact h)

theorem wpList_store_new {ops : Array Oper} {rest : List Oper} {o : Oper} {a : Act} {W : World} {old : Array Value} {t : TypeId} {Q : Exit → Act → World → Prop} (hgd : o.guard = none) (ty : TypeId) (x y : Operand) (ho : o.op = .store ty x y)
    (g : Nat) (cells : Array Value) (hx : a.eval x = .pointer (some ⟨g, 0, none⟩)) (hy : a.eval y = .agg cells) (hgg : g = W.heap.size) (hi : (P.info? ty).map (·.size) = some cells.size)
    (hold : old.size = cells.size) (h1 : cells.all (·.oneCell') = true)
    (h : wpList P ops Q rest (a.put o.dst undef) (W.alloc (.cells cells t))) : wpList P ops Q (o :: rest) a (W.alloc (.cells old t)) :=
  wpList_store_row hgd ty x y ho g cells hx hy t old (by subst hgg; exact heap_alloc_new _ _) hi hold h1 (by rw [setRow_new W g old cells t hgg]; exact h)
end

section
variable {ops : Array Oper} {rest : List Oper} {o : Oper} {a : Act} {w : World} {Q : Exit → Act → World → Prop} {K : Act → World → Prop}
/-- An operation that yields v in every world. -/
theorem wpList_yields (hw : Region.wanted o (yielded ops a.tmps) = true) {v : Value} (he : ∀ w, (execOp a.eval o).run Try.prog w = .ok (.value v) w)
    (h : wpList Try.prog ops Q rest (a.put o.dst v) w) : wpList Try.prog ops Q (o :: rest) a w :=
  wpList_step fun K hK => by
    rw [if_pos hw]
    unfold Oper.wp
    rw [he]
    exact hK _ _ h
/-- In the lexical walk. -/
theorem quiet_yields {C : World → Prop} {K : Act → Prop} {v : Value} (he : ∀ w, C w → (execOp a.eval o).run Try.prog w = .ok (.value v) w) (h : K (a.put o.dst v)) : o.quiet Try.prog a C K :=
  ⟨v, fun w hw => by unfold Oper.quietAt; rw [he w hw]; exact ⟨rfl, rfl⟩, h⟩
theorem exec_build {r : Operand → Value} {ty : TypeId} {parts : Array (Nat × Operand)} (cells : Array Value) (w : World) (ho : o.op = .build ty parts) (hf : Try.prog.built ty (parts.map fun (i, x) => (i, r x)).toList = some cells) :
    (execOp r o).run Try.prog w = .ok (.value (.agg cells)) w := by
  unfold execOp
  simp only [ho, Sem.run_bind, run_build w ty _ cells hf, Result.andThen_ok]
  rfl
theorem yieldsIf_exec {S : World → Prop} {v : Value} (hw : Region.wanted o (yielded ops a.tmps) = true) (he : ∀ w, S w → (execOp a.eval o).run Try.prog w = .ok (.value v) w) : YieldsIf Try.prog ops S o v a := .inl ⟨hw, he⟩
end

end Go.Proofs.Ytglgifhpacmhiaa
