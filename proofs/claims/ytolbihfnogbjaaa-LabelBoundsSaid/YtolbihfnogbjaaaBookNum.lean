/- What Numbers of layer 7, the document's own, and its Same return. Conditions: as each theorem says. -/
import Derived.Test.YtolbihfnogbjaaaRows
import Derived.Test.YtolbihfnogbjaaaBase
import Derived.Test.YtolbihfnogbjaaaZ2
import Derived.WalkKit
import Derived.WalkSpells
import Derived.WalkSmall
import Derived.Below
import Derived.Lib.Hide
import Derived.Outline
import Derived.Great.BuildSlice
import Derived.BigQuiet
import Derived.Deep.QuietTactic
namespace Go.Proofs.Ytolbihfnogbjaaa
open Go.RowKit

section
variable {P : Program}
theorem wpList_slice_bk {ops : Array Oper} {rest : List Oper} {o : Oper} {a : Act} {w : World} {Q : Exit → Act → World → Prop} (hg : o.guard = none) (t e : TypeId) (parts : Array (Nat × Operand)) (ho : o.op = .buildSlice t 19 parts) (x : Nat → Int)
    (hu : P.underlying t = some (.slice e)) (hi : (P.info? e).map (fun i => (i.zero, i.size)) = some (some (.int .i64 0), 1))
    (hf : Instr.fill (fun i => some (i * 1, 1)) ((Array.range (19 * 1)).map ((Value.int .i64 0).cells[· % (Value.int .i64 0).cells.size]!)) (parts.map fun (i, x) => (i, a.eval x)).toList = some (bk x))
    (h : wpList P ops Q rest (a.put o.dst (.slice (some ⟨w.heap.size, 0, none⟩) 19 19)) (w.alloc (.cells (bk x) e))) : wpList P ops Q (o :: rest) a w := by
  cases hie : P.info? e with
  | none => simp [hie] at hi
  | some ie =>
    simp only [hie, Option.map_some, Option.some.injEq, Prod.mk.injEq] at hi
    refine wpList_buildSlice hg t e 19 parts ho (bk x) ie (.int .i64 0) hu hie hi.1 (by rw [hi.2]; decide) (by rw [hi.2]; decide) (by rw [hi.2]; exact hf) h
end

set_option maxRecDepth 20000 in
theorem refnum_any (x : Nat → Int) (w : World) :
    Calls Try.prog 31 #[.agg (bk x)] w fun e w' => ∃ g, e = .returned (.slice (some ⟨g, 0, none⟩) 19 19) ∧ w.heap.size ≤ g ∧ RdI w' g 0 x ∧ Below w.heap.size w w' := by
  have z0 := bk_at x 0 (by omega); have z1 := bk_at x 1 (by omega); have z2 := bk_at x 2 (by omega); have z3 := bk_at x 3 (by omega); have z4 := bk_at x 4 (by omega); have z5 := bk_at x 5 (by omega); have z6 := bk_at x 6 (by omega); have z7 := bk_at x 7 (by omega); have z8 := bk_at x 8 (by omega); have z9 := bk_at x 9 (by omega); have z10 := bk_at x 10 (by omega); have z11 := bk_at x 11 (by omega); have z12 := bk_at x 12 (by omega); have z13 := bk_at x 13 (by omega); have z14 := bk_at x 14 (by omega); have z15 := bk_at x 15 (by omega); have z16 := bk_at x 16 (by omega); have z17 := bk_at x 17 (by omega); have z18 := bk_at x 18 (by omega)
  go_enter Try.func31, Try.ntmps31
  go_wp2_with (refine wpList_slice_bk rfl 40 3 _ rfl x Try.underlying40 (by kernel_rfl) (by kernel_rfl) ?_)
  go_ret
  refine ⟨_, rfl, ?_, RdI.new x _ (by first | rfl | (simp; done)), ?_⟩
  · first | omega | (simp; done) | (simp; omega)
  · (repeat (first | exact Below.refl _ _ | (refine b_st ?_ (by first | (simp; done) | (simp; omega))) | (refine b_al ?_ (Nat.le_refl _) _) | refine b_dn ?_ | refine b_dr ?_ | (refine b_cl ?_ (Nat.le_refl _) (by assumption))))

end Go.Proofs.Ytolbihfnogbjaaa
