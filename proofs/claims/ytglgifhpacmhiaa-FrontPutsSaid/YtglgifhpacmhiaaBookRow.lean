/- Nineteen numbers as cells; whole rows built, stored in a new block and read. Conditions: none beyond each lemma's own premises. -/
import Derived.Test.YtglgifhpacmhiaaRows
import Derived.Test.YtglgifhpacmhiaaBase
import Derived.Test.YtglgifhpacmhiaaBuild
import Derived.WalkKit
import Derived.WalkSpells
import Derived.WalkSmall
import Derived.Below
import Derived.Lib.Hide
import Derived.Laws.Tables
import Derived.Laws.Rows
import Derived.Deep.MidRow
import Derived.Deep.Quiet
import Derived.KernelRfl
namespace Go.Proofs.Ytglgifhpacmhiaa
open Go.RowKit

/-- The cells of nineteen numbers. -/
def bk (x : Nat → Int) : Array Value := #[.int .i64 (x 0), .int .i64 (x 1), .int .i64 (x 2), .int .i64 (x 3), .int .i64 (x 4), .int .i64 (x 5), .int .i64 (x 6), .int .i64 (x 7), .int .i64 (x 8), .int .i64 (x 9), .int .i64 (x 10), .int .i64 (x 11), .int .i64 (x 12), .int .i64 (x 13), .int .i64 (x 14), .int .i64 (x 15), .int .i64 (x 16), .int .i64 (x 17), .int .i64 (x 18)]

theorem bk_size (x : Nat → Int) : (bk x).size = 19 := rfl
theorem bk_at (x : Nat → Int) : ∀ i, i < 19 → (bk x)[i]? = some (.int .i64 (x i)) := by
  intro i hi
  have : i = 0 ∨ i = 1 ∨ i = 2 ∨ i = 3 ∨ i = 4 ∨ i = 5 ∨ i = 6 ∨ i = 7 ∨ i = 8 ∨ i = 9 ∨ i = 10 ∨ i = 11 ∨ i = 12 ∨ i = 13 ∨ i = 14 ∨ i = 15 ∨ i = 16 ∨ i = 17 ∨ i = 18 := by omega
  rcases this with rfl | rfl | rfl | rfl | rfl | rfl | rfl | rfl | rfl | rfl | rfl | rfl | rfl | rfl | rfl | rfl | rfl | rfl | rfl <;> rfl
theorem bk_one (x : Nat → Int) : (bk x).all (·.oneCell') = true := by kernel_rfl

/-- Nineteen numbers lie in block b from offset off on. -/
def RdI (w : World) (b off : Nat) (x : Nat → Int) : Prop := b < w.heap.size ∧ ∀ i, i < 19 → w.cell? ⟨b, off + i, none⟩ = some (.int .i64 (x i))

theorem RdI.below {w w' : World} {b off : Nat} {x : Nat → Int} (h : RdI w b off x) (hb : Below w.heap.size w w') : RdI w' b off x :=
  ⟨Nat.lt_of_lt_of_le h.1 hb.size, fun i hi => (hb.cell (p := ⟨b, off + i, none⟩) h.1).trans (h.2 i hi)⟩
theorem RdI.alloc {w : World} {b off : Nat} {x : Nat → Int} (h : RdI w b off x) (o : Obj) : RdI (w.alloc o) b off x :=
  h.below ((Below.refl _ _).alloc (Nat.le_refl _) o)
theorem RdI.new {w : World} {g : Nat} (x : Nat → Int) (t : TypeId) (hg : g = w.heap.size) : RdI (w.alloc (.cells (bk x) t)) g 0 x := by
  subst hg
  refine ⟨by simp, fun i hi => ?_⟩
  rw [Nat.zero_add, cell_of_row _ _ _ _ _ _ (heap_alloc_new w _)]
  exact bk_at x i hi

section
variable {P : Program}
theorem RdI.range {w : World} {b off : Nat} {x : Nat → Int} (h : RdI w b off x) : w.rangeAt b off (bk x).toList := fun j v hj => by
  have hl : j < 19 := by
    have := (List.getElem?_eq_some_iff.1 hj).1
    simpa [bk_size] using this
  have e := bk_at x j hl
  rw [Array.getElem?_toList, e] at hj
  cases hj
  exact h.2 j hl

theorem run_loadAt_bk (w : World) (b off : Nat) (ty : TypeId) (x : Nat → Int) (d : TypeDesc) (h : RdI w b off x)
    (hu : P.underlying ty = some d) (hd : d.isRow = true) (hi : (P.info? ty).map (·.size) = some 19) :
    (Instr.loadAt ty (.pointer (some ⟨b, off, none⟩))).run P w = .ok (.agg (bk x)) w := by
  have := run_loadAt_mid (P := P) w b off ty (bk x).toList d h.range hu hd (by simpa [bk_size] using hi)
  simpa using this

theorem wpList_load_bk {ops : Array Oper} {rest : List Oper} {o : Oper} {a : Act} {w : World} {Q : Exit → Act → World → Prop} (hgd : Region.wanted o (yielded ops a.tmps) = true) (ty : TypeId) (y : Operand) (ho : o.op = .load ty y)
    (b off : Nat) (hx : a.eval y = .pointer (some ⟨b, off, none⟩)) (x : Nat → Int) (d : TypeDesc) (hr : RdI w b off x)
    (hu : P.underlying ty = some d) (hd : d.isRow = true) (hi : (P.info? ty).map (·.size) = some 19)
    (h : wpList P ops Q rest (a.put o.dst (.agg (bk x))) w) : wpList P ops Q (o :: rest) a w :=
  wpList_step fun K hK => by
    rw [if_pos hgd]
    exact wp_load_mid ty y ho b off hx (bk x).toList d hr.range hu hd (by simpa [bk_size] using hi) (hK _ _ (by simpa using h))

theorem results_bk {fn : Func} {p : Tmp} {ty : TypeId} (h : fn.results = #[.cell p ty]) (tmps : Array Value) (w : World) (g : Nat) (x : Nat → Int) (d : TypeDesc)
    (hp : tmps.getD p undef = .pointer (some ⟨g, 0, none⟩)) (hr : RdI w g 0 x)
    (hu : P.underlying ty = some d) (hd : d.isRow = true) (hi : (P.info? ty).map (·.size) = some 19) :
    (results fn tmps).run P w = .ok (.agg (bk x)) w := by
  have hp' : tmps[p]?.getD undef = .pointer (some ⟨g, 0, none⟩) := by simpa using hp
  have hl : (loadVar ty ⟨g, 0, none⟩).run P w = .ok (.agg (bk x)) w := by
    have := run_loadVar_mid (P := P) w g 0 ty (bk x).toList d hr.range hu hd (by simpa [bk_size] using hi)
    simpa using this
  simp [results, h, hp', asAddr, hl]
end

theorem index_any (x : Nat → Int) (w : World) : ∀ k, k < 19 → (Instr.index 66 (.agg (bk x)) (.int .i64 (k : Nat))).run Try.prog w = .ok (.int .i64 (x k)) w := by
  intro i hi
  have : i = 0 ∨ i = 1 ∨ i = 2 ∨ i = 3 ∨ i = 4 ∨ i = 5 ∨ i = 6 ∨ i = 7 ∨ i = 8 ∨ i = 9 ∨ i = 10 ∨ i = 11 ∨ i = 12 ∨ i = 13 ∨ i = 14 ∨ i = 15 ∨ i = 16 ∨ i = 17 ∨ i = 18 := by omega
  rcases this with rfl | rfl | rfl | rfl | rfl | rfl | rfl | rfl | rfl | rfl | rfl | rfl | rfl | rfl | rfl | rfl | rfl | rfl | rfl <;> (show _ = _; kernel_rfl)

end Go.Proofs.Ytglgifhpacmhiaa
