/- How the program's block of layer 14 lies in memory. Conditions: none beyond each lemma's own premises. -/
import Derived.Test.YtndhagflfbblaaaRows
import Derived.Test.YtndhagflfbblaaaBase
import Derived.Test.YtndhagflfbblaaaBookRow
import Derived.Test.YtndhagflfbblaaaBox
import Derived.Test.YtndhagflfbblaaaSpellMath
import Derived.Test.YtndhagflfbblaaaMeterMath
import Derived.Test.YtndhagflfbblaaaMeterSt
import Derived.Test.YtndhagflfbblaaaMeterChk
import Derived.Test.YtndhagflfbblaaaStretchMath
import Derived.Test.YtndhagflfbblaaaStretchOn
import Derived.WalkKit
import Derived.WalkSpells
import Derived.WalkSmall
import Derived.Below
import Derived.Lib.Hide
import Derived.Shelf.Abstract
import Derived.BigQuiet
import Derived.OwnWalk
import Derived.Outline
import Derived.Deep.DeepCutAuto
import Derived.StillTailTactics
import Derived.Maps.RangeWalk
import Derived.OrdersHeld
import Derived.KernelRfl
namespace Go.Proofs.Ytndhagflfbblaaa
open Go.RowKit

/-- The cells of a block: the book, the kind, the meter, the first minutes. -/
def blk (x : Nat → Int) (k : Int) (m : Mt) (y : Nat → Int) : Array Value := #[.int .i64 (x 0), .int .i64 (x 1), .int .i64 (x 2), .int .i64 (x 3), .int .i64 (x 4), .int .i64 (x 5), .int .i64 (x 6), .int .i64 (x 7), .int .i64 (x 8), .int .i64 (x 9), .int .i64 (x 10), .int .i64 (x 11), .int .i64 (x 12), .int .i64 (x 13), .int .i64 (x 14), .int .i64 (x 15), .int .i64 (x 16), .int .i64 (x 17), .int .i64 (x 18), .int .i64 k, .int .i64 m.now, .int .i64 m.acc, .bool m.half, .int .i64 m.lie, .int .i64 m.dawn, .int .i64 m.day, .int .i64 m.longers, .bool m.split, .int .i64 m.reduces, .int .i64 m.sabbath, .bool m.brief, .int .i64 m.week, .int .i64 m.last, .int .i64 m.labour, .int .i64 (y 0), .int .i64 (y 1), .int .i64 (y 2), .int .i64 (y 3), .int .i64 (y 4), .int .i64 (y 5), .int .i64 (y 6), .int .i64 (y 7), .int .i64 (y 8), .int .i64 (y 9)]
theorem blk_size (x : Nat → Int) (k : Int) (m : Mt) (y : Nat → Int) : (blk x k m y).size = 44 := rfl
theorem blk_one (x : Nat → Int) (k : Int) (m : Mt) (y : Nat → Int) : (blk x k m y).all (·.oneCell') = true := by kernel_rfl
theorem blk_fs (x : Nat → Int) (k : Int) (m : Mt) (y : Nat → Int) (a : Int) : ∀ c, c < 10 → (blk x k m y).setIfInBounds (34 + c) (.int .i64 a) = blk x k m (fs y c a) := by
  intro c hc
  have : c = 0 ∨ c = 1 ∨ c = 2 ∨ c = 3 ∨ c = 4 ∨ c = 5 ∨ c = 6 ∨ c = 7 ∨ c = 8 ∨ c = 9 := by omega
  rcases this with rfl | rfl | rfl | rfl | rfl | rfl | rfl | rfl | rfl | rfl <;> rfl
theorem blk_first (x : Nat → Int) (k : Int) (m : Mt) (y : Nat → Int) : ∀ c, c < 10 → (blk x k m y)[34 + c]? = some (.int .i64 (y c)) := by
  intro c hc
  have : c = 0 ∨ c = 1 ∨ c = 2 ∨ c = 3 ∨ c = 4 ∨ c = 5 ∨ c = 6 ∨ c = 7 ∨ c = 8 ∨ c = 9 := by omega
  rcases this with rfl | rfl | rfl | rfl | rfl | rfl | rfl | rfl | rfl | rfl <;> rfl
theorem blk_book (x : Nat → Int) (k : Int) (m : Mt) (y : Nat → Int) : ∀ i, i < 19 → (blk x k m y)[0 + i]? = some (.int .i64 (x i)) := by
  intro i hi
  have : i = 0 ∨ i = 1 ∨ i = 2 ∨ i = 3 ∨ i = 4 ∨ i = 5 ∨ i = 6 ∨ i = 7 ∨ i = 8 ∨ i = 9 ∨ i = 10 ∨ i = 11 ∨ i = 12 ∨ i = 13 ∨ i = 14 ∨ i = 15 ∨ i = 16 ∨ i = 17 ∨ i = 18 := by omega
  rcases this with rfl | rfl | rfl | rfl | rfl | rfl | rfl | rfl | rfl | rfl | rfl | rfl | rfl | rfl | rfl | rfl | rfl | rfl | rfl <;> rfl
/-- The first minutes are ten numbers alone. -/
theorem blk_eq {y z : Nat → Int} (x : Nat → Int) (k : Int) (m : Mt) (h : ∀ c, c < 10 → y c = z c) : blk x k m y = blk x k m z := by
  unfold blk
  rw [h 0 (by omega), h 1 (by omega), h 2 (by omega), h 3 (by omega), h 4 (by omega), h 5 (by omega), h 6 (by omega), h 7 (by omega), h 8 (by omega), h 9 (by omega)]
theorem tn_eq {y z : Nat → Int} (h : ∀ c, c < 10 → y c = z c) : tn y = tn z := by
  unfold tn
  rw [h 0 (by omega), h 1 (by omega), h 2 (by omega), h 3 (by omega), h 4 (by omega), h 5 (by omega), h 6 (by omega), h 7 (by omega), h 8 (by omega), h 9 (by omega)]
theorem tn_one (y : Nat → Int) : (tn y).all (·.oneCell') = true := by kernel_rfl
theorem tn_size (y : Nat → Int) : (tn y).size = 10 := rfl

/-- Block g is a block of layer 14. -/
abbrev Bk (W : World) (g : Nat) (x : Nat → Int) (k : Int) (m : Mt) (y : Nat → Int) : Prop := Bx W g 52 (blk x k m y)
theorem Bk.rdI {W : World} {g : Nat} {x : Nat → Int} {k : Int} {m : Mt} {y : Nat → Int} (h : Bk W g x k m y) : RdI W g 0 x := ⟨h.lt, fun i hi => h.cell (blk_book x k m y i hi)⟩
theorem Bk.meter {W : World} {g : Nat} {x : Nat → Int} {k : Int} {m : Mt} {y : Nat → Int} (h : Bk W g x k m y) : W.rangeAt g 20 (mt m).toList := fun j v hj => by
  rw [cell_of_row W g (20 + j) _ _ (0, 0) h]
  have hl : j < 14 := by
    have := (List.getElem?_eq_some_iff.1 hj).1
    simpa [mt_size] using this
  rw [Array.getElem?_toList] at hj
  have : j = 0 ∨ j = 1 ∨ j = 2 ∨ j = 3 ∨ j = 4 ∨ j = 5 ∨ j = 6 ∨ j = 7 ∨ j = 8 ∨ j = 9 ∨ j = 10 ∨ j = 11 ∨ j = 12 ∨ j = 13 := by omega
  rcases this with rfl | rfl | rfl | rfl | rfl | rfl | rfl | rfl | rfl | rfl | rfl | rfl | rfl | rfl <;> exact hj
theorem Bk.firsts {W : World} {g : Nat} {x : Nat → Int} {k : Int} {m : Mt} {y : Nat → Int} (h : Bk W g x k m y) : W.rangeAt g 34 (tn y).toList := fun j v hj => by
  rw [cell_of_row W g (34 + j) _ _ (0, 0) h]
  have hl : j < 10 := by
    have := (List.getElem?_eq_some_iff.1 hj).1
    simpa [tn_size] using this
  rw [Array.getElem?_toList] at hj
  have : j = 0 ∨ j = 1 ∨ j = 2 ∨ j = 3 ∨ j = 4 ∨ j = 5 ∨ j = 6 ∨ j = 7 ∨ j = 8 ∨ j = 9 := by omega
  rcases this with rfl | rfl | rfl | rfl | rfl | rfl | rfl | rfl | rfl | rfl <;> exact hj
/-- What a call leaves that turns the block. -/
abbrev BkTo (W : World) (g : Nat) (x : Nat → Int) (k : Int) (m : Mt) (y : Nat → Int) (W' : World) : Prop := Chg W g 52 (blk x k m y) W'

theorem wrap14 (c : Int) (h0 : -1000000 ≤ c) (h1 : c ≤ 1000000) : IntKind.i64.wrap c = c := by
  simp [IntKind.wrap, IntKind.bits, IntKind.signed]
  omega
theorem brk_same (y : Nat → Int) (c : Nat) (a t : Int) : brk y c a t c = if a < t ∧ y c < 0 then a else y c := by unfold brk fs; split <;> simp
theorem brk_other (y : Nat → Int) {c d : Nat} (a t : Int) (h : d ≠ c) : brk y c a t d = y d := by unfold brk fs; split <;> simp [h]

end Go.Proofs.Ytndhagflfbblaaa
