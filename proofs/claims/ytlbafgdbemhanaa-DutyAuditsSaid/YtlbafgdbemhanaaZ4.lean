/- Plain facts, several texts in one: StretchSt, StretchLaws, DutySt. Conditions: none beyond each lemma's own premises. -/
import Derived.Test.YtlbafgdbemhanaaRows
import Derived.Test.YtlbafgdbemhanaaBase
import Derived.Test.YtlbafgdbemhanaaZ2
import Derived.Test.YtlbafgdbemhanaaZ3
import Derived.Test.YtlbafgdbemhanaaMeterChk
import Derived.WalkKit
import Derived.WalkSpells
import Derived.WalkSmall
import Derived.Below
import Derived.Lib.Hide
import Derived.Shelf.Abstract
import Derived.BigQuiet
import Derived.OwnWalk
import Derived.Outline
import Derived.Deep.DeepCutAuto
import Derived.StillTailTactics
import Derived.Maps.RangeWalk
import Derived.OrdersHeld
import Derived.KernelRfl
import Derived.Laws.Tables
import Derived.Laws.Rows
import Derived.Laws.CopyRow
import Derived.Deep.MidRow

/- How the program's block of layer 14 lies in memory. Conditions: none beyond each lemma's own premises. -/
namespace Go.Proofs.Ytlbafgdbemhanaa
open Go.RowKit

/-- The cells of a block: the book, the kind, the meter, the first minutes. -/
def blk (x : Nat → Int) (k : Int) (m : Mt) (y : Nat → Int) : Array Value := #[.int .i64 (x 0), .int .i64 (x 1), .int .i64 (x 2), .int .i64 (x 3), .int .i64 (x 4), .int .i64 (x 5), .int .i64 (x 6), .int .i64 (x 7), .int .i64 (x 8), .int .i64 (x 9), .int .i64 (x 10), .int .i64 (x 11), .int .i64 (x 12), .int .i64 (x 13), .int .i64 (x 14), .int .i64 (x 15), .int .i64 (x 16), .int .i64 (x 17), .int .i64 (x 18), .int .i64 k, .int .i64 m.now, .int .i64 m.acc, .bool m.half, .int .i64 m.lie, .int .i64 m.dawn, .int .i64 m.day, .int .i64 m.longers, .bool m.split, .int .i64 m.reduces, .int .i64 m.sabbath, .bool m.brief, .int .i64 m.week, .int .i64 m.last, .int .i64 m.labour, .int .i64 (y 0), .int .i64 (y 1), .int .i64 (y 2), .int .i64 (y 3), .int .i64 (y 4), .int .i64 (y 5), .int .i64 (y 6), .int .i64 (y 7), .int .i64 (y 8), .int .i64 (y 9)]
theorem blk_size (x : Nat → Int) (k : Int) (m : Mt) (y : Nat → Int) : (blk x k m y).size = 44 := rfl
theorem blk_one (x : Nat → Int) (k : Int) (m : Mt) (y : Nat → Int) : (blk x k m y).all (·.oneCell') = true := by kernel_rfl
theorem blk_fs (x : Nat → Int) (k : Int) (m : Mt) (y : Nat → Int) (a : Int) : ∀ c, c < 10 → (blk x k m y).setIfInBounds (34 + c) (.int .i64 a) = blk x k m (fs y c a) := by
  intro c hc
  have : c = 0 ∨ c = 1 ∨ c = 2 ∨ c = 3 ∨ c = 4 ∨ c = 5 ∨ c = 6 ∨ c = 7 ∨ c = 8 ∨ c = 9 := by omega
  rcases this with rfl | rfl | rfl | rfl | rfl | rfl | rfl | rfl | rfl | rfl <;> rfl
theorem blk_first (x : Nat → Int) (k : Int) (m : Mt) (y : Nat → Int) : ∀ c, c < 10 → (blk x k m y)[34 + c]? = some (.int .i64 (y c)) := by
  intro c hc
  have : c = 0 ∨ c = 1 ∨ c = 2 ∨ c = 3 ∨ c = 4 ∨ c = 5 ∨ c = 6 ∨ c = 7 ∨ c = 8 ∨ c = 9 := by omega
  rcases this with rfl | rfl | rfl | rfl | rfl | rfl | rfl | rfl | rfl | rfl <;> rfl
theorem blk_book (x : Nat → Int) (k : Int) (m : Mt) (y : Nat → Int) : ∀ i, i < 19 → (blk x k m y)[0 + i]? = some (.int .i64 (x i)) := by
  intro i hi
  have : i = 0 ∨ i = 1 ∨ i = 2 ∨ i = 3 ∨ i = 4 ∨ i = 5 ∨ i = 6 ∨ i = 7 ∨ i = 8 ∨ i = 9 ∨ i = 10 ∨ i = 11 ∨ i = 12 ∨ i = 13 ∨ i = 14 ∨ i = 15 ∨ i = 16 ∨ i = 17 ∨ i = 18 := by omega
  rcases this with rfl | rfl | rfl | rfl | rfl | rfl | rfl | rfl | rfl | rfl | rfl | rfl | rfl | rfl | rfl | rfl | rfl | rfl | rfl <;> rfl
/-- The first minutes are ten numbers alone. -/
theorem blk_eq {y z : Nat → Int} (x : Nat → Int) (k : Int) (m : Mt) (h : ∀ c, c < 10 → y c = z c) : blk x k m y = blk x k m z := by
  unfold blk
  rw [h 0 (by omega), h 1 (by omega), h 2 (by omega), h 3 (by omega), h 4 (by omega), h 5 (by omega), h 6 (by omega), h 7 (by omega), h 8 (by omega), h 9 (by omega)]
theorem tn_eq {y z : Nat → Int} (h : ∀ c, c < 10 → y c = z c) : tn y = tn z := by
  unfold tn
  rw [h 0 (by omega), h 1 (by omega), h 2 (by omega), h 3 (by omega), h 4 (by omega), h 5 (by omega), h 6 (by omega), h 7 (by omega), h 8 (by omega), h 9 (by omega)]
theorem tn_one (y : Nat → Int) : (tn y).all (·.oneCell') = true := by kernel_rfl
theorem tn_size (y : Nat → Int) : (tn y).size = 10 := rfl

/-- Block g is a block of layer 14. -/
abbrev Bk (W : World) (g : Nat) (x : Nat → Int) (k : Int) (m : Mt) (y : Nat → Int) : Prop := Bx W g 110 (blk x k m y)
theorem Bk.rdI {W : World} {g : Nat} {x : Nat → Int} {k : Int} {m : Mt} {y : Nat → Int} (h : Bk W g x k m y) : RdI W g 0 x := ⟨h.lt, fun i hi => h.cell (blk_book x k m y i hi)⟩
theorem Bk.meter {W : World} {g : Nat} {x : Nat → Int} {k : Int} {m : Mt} {y : Nat → Int} (h : Bk W g x k m y) : W.rangeAt g 20 (mt m).toList := fun j v hj => by
  rw [cell_of_row W g (20 + j) _ _ (0, 0) h]
  have hl : j < 14 := by
    have := (List.getElem?_eq_some_iff.1 hj).1
    simpa [mt_size] using this
  rw [Array.getElem?_toList] at hj
  have : j = 0 ∨ j = 1 ∨ j = 2 ∨ j = 3 ∨ j = 4 ∨ j = 5 ∨ j = 6 ∨ j = 7 ∨ j = 8 ∨ j = 9 ∨ j = 10 ∨ j = 11 ∨ j = 12 ∨ j = 13 := by omega
  rcases this with rfl | rfl | rfl | rfl | rfl | rfl | rfl | rfl | rfl | rfl | rfl | rfl | rfl | rfl <;> exact hj
theorem Bk.firsts {W : World} {g : Nat} {x : Nat → Int} {k : Int} {m : Mt} {y : Nat → Int} (h : Bk W g x k m y) : W.rangeAt g 34 (tn y).toList := fun j v hj => by
  rw [cell_of_row W g (34 + j) _ _ (0, 0) h]
  have hl : j < 10 := by
    have := (List.getElem?_eq_some_iff.1 hj).1
    simpa [tn_size] using this
  rw [Array.getElem?_toList] at hj
  have : j = 0 ∨ j = 1 ∨ j = 2 ∨ j = 3 ∨ j = 4 ∨ j = 5 ∨ j = 6 ∨ j = 7 ∨ j = 8 ∨ j = 9 := by omega
  rcases this with rfl | rfl | rfl | rfl | rfl | rfl | rfl | rfl | rfl | rfl <;> exact hj
/-- What a call leaves that turns the block. -/
abbrev BkTo (W : World) (g : Nat) (x : Nat → Int) (k : Int) (m : Mt) (y : Nat → Int) (W' : World) : Prop := Chg W g 110 (blk x k m y) W'

theorem wrap14 (c : Int) (h0 : -1000000 ≤ c) (h1 : c ≤ 1000000) : IntKind.i64.wrap c = c := by
  simp [IntKind.wrap, IntKind.bits, IntKind.signed]
  omega
theorem brk_same (y : Nat → Int) (c : Nat) (a t : Int) : brk y c a t c = if a < t ∧ y c < 0 then a else y c := by unfold brk fs; split <;> simp
theorem brk_other (y : Nat → Int) {c d : Nat} (a t : Int) (h : d ≠ c) : brk y c a t d = y d := by unfold brk fs; split <;> simp [h]

end Go.Proofs.Ytlbafgdbemhanaa

/- Rows in the midst of a block, loaded and stored. Conditions: none beyond each lemma's own premises. -/
namespace Go.Proofs.Ytlbafgdbemhanaa
open Go.RowKit

section
variable {P : Program}
theorem exec_load_mid {r : Operand → Value} {o : Oper} {ty : TypeId} {y : Operand} (b off : Nat) (cs : Array Value) (d : TypeDesc) (w : World) (ho : o.op = .load ty y) (hx : r y = .pointer (some ⟨b, off, none⟩)) (hr : w.rangeAt b off cs.toList)
    (hu : P.underlying ty = some d) (hd : d.isRow = true) (hi : (P.info? ty).map (·.size) = some cs.size) : (execOp r o).run P w = .ok (.value (.agg cs)) w := by
  have := run_loadAt_mid (P := P) w b off ty cs.toList d hr hu hd (by simpa using hi)
  rw [Array.toArray_toList] at this
  unfold execOp
  simp only [ho, hx, this, Sem.run_bind, Result.andThen_ok]
  rfl
theorem run_storeVar_part (W : World) (g k : Nat) (t ty : TypeId) (cs vs : Array Value) (h : Bx W g t cs) (hk : k + vs.size ≤ cs.size) (hi : (P.info? ty).map (·.size) = some vs.size) (h1 : vs.all (·.oneCell') = true) :
    (storeVar ty ⟨g, k, none⟩ (.agg vs)).run P W = .ok () (W.setRow g (cs.toList.take k ++ vs.toList ++ cs.toList.drop (k + vs.size)).toArray) := by
  have := run_storeCells_at (P := P) g k t vs.toList 0 cs W h (by simpa using hk) (fun x hx => by
    rw [Array.all_eq_true] at h1
    obtain ⟨i, hi, rfl⟩ := Array.mem_iff_getElem.1 (Array.mem_toList_iff.1 hx)
    exact h1 i hi)
  have hc : (Value.agg vs).cells = vs := rfl
  cases hq : P.info? ty with
  | none => simp [hq] at hi
  | some i =>
    have hs : i.size = vs.size := by simpa [hq] using hi
    simp only [Nat.add_zero, Array.length_toList] at this
    simp [storeVar, sizeOf, typeInfo, hq, hc, hs, this]
theorem wpList_store_part {ops : Array Oper} {rest : List Oper} {o : Oper} {a : Act} {w : World} {Q : Exit → Act → World → Prop} (hgd : Region.wanted o (yielded ops a.tmps) = true) (ty : TypeId) (x y : Operand) (ho : o.op = .store ty x y)
    (g k : Nat) (vs : Array Value) (hx : a.eval x = .pointer (some ⟨g, k, none⟩)) (hy : a.eval y = .agg vs) (h1 : vs.all (·.oneCell') = true) (t : TypeId) (cs : Array Value) (hb : Bx w g t cs) (hk : k + vs.size ≤ cs.size) (hi : (P.info? ty).map (·.size) = some vs.size)
    (h : ∀ W', Upd w g t (cs.toList.take k ++ vs.toList ++ cs.toList.drop (k + vs.size)).toArray W' → wpList P ops Q rest (a.put o.dst undef) W') : wpList P ops Q (o :: rest) a w :=
  wpList_step fun K hK => by
    rw [if_pos hgd]
    unfold Oper.wp execOp
    simp only [ho, hx, hy, Instr.storeAt, Instr.sureAddr, Sem.run_bind, Sem.run_pure, Result.andThen_ok, run_storeVar_part w g k t ty cs vs hb hk hi h1]
    exact hK _ _ (h _ (Upd.of_setRow _ hb))
end
theorem blk_meter (x : Nat → Int) (k : Int) (m m' : Mt) (y : Nat → Int) : ((blk x k m y).toList.take 20 ++ (mt m').toList ++ (blk x k m y).toList.drop (20 + (mt m').size)).toArray = blk x k m' y := rfl

end Go.Proofs.Ytlbafgdbemhanaa

/- How the sweep of layer 16 lies in memory. Conditions: none beyond each lemma's own premises. -/
namespace Go.Proofs.Ytlbafgdbemhanaa
open Go.RowKit

/-- The cells of a sweep: the book, the meter, the last break's end. -/
def swp (x : Nat → Int) (m : Mt) (p : Int) : Array Value := #[.int .i64 (x 0), .int .i64 (x 1), .int .i64 (x 2), .int .i64 (x 3), .int .i64 (x 4), .int .i64 (x 5), .int .i64 (x 6), .int .i64 (x 7), .int .i64 (x 8), .int .i64 (x 9), .int .i64 (x 10), .int .i64 (x 11), .int .i64 (x 12), .int .i64 (x 13), .int .i64 (x 14), .int .i64 (x 15), .int .i64 (x 16), .int .i64 (x 17), .int .i64 (x 18), .int .i64 m.now, .int .i64 m.acc, .bool m.half, .int .i64 m.lie, .int .i64 m.dawn, .int .i64 m.day, .int .i64 m.longers, .bool m.split, .int .i64 m.reduces, .int .i64 m.sabbath, .bool m.brief, .int .i64 m.week, .int .i64 m.last, .int .i64 m.labour, .int .i64 p]
theorem swp_size (x : Nat → Int) (m : Mt) (p : Int) : (swp x m p).size = 34 := rfl
theorem swp_one (x : Nat → Int) (m : Mt) (p : Int) : (swp x m p).all (·.oneCell') = true := by kernel_rfl
theorem swp_book (x : Nat → Int) (m : Mt) (p : Int) : ∀ i, i < 19 → (swp x m p)[0 + i]? = some (.int .i64 (x i)) := by
  intro i hi
  have : i = 0 ∨ i = 1 ∨ i = 2 ∨ i = 3 ∨ i = 4 ∨ i = 5 ∨ i = 6 ∨ i = 7 ∨ i = 8 ∨ i = 9 ∨ i = 10 ∨ i = 11 ∨ i = 12 ∨ i = 13 ∨ i = 14 ∨ i = 15 ∨ i = 16 ∨ i = 17 ∨ i = 18 := by omega
  rcases this with rfl | rfl | rfl | rfl | rfl | rfl | rfl | rfl | rfl | rfl | rfl | rfl | rfl | rfl | rfl | rfl | rfl | rfl | rfl <;> rfl
theorem swp_pause (x : Nat → Int) (m : Mt) (p q : Int) : (swp x m p).setIfInBounds 33 (.int .i64 q) = swp x m q := rfl
theorem swp_meter (x : Nat → Int) (m m' : Mt) (p : Int) : ((swp x m p).toList.take 19 ++ (mt m').toList ++ (swp x m p).toList.drop (19 + (mt m').size)).toArray = swp x m' p := rfl

/-- Block g is a sweep. -/
abbrev Sw (W : World) (g : Nat) (x : Nat → Int) (m : Mt) (p : Int) : Prop := Bx W g 53 (swp x m p)
theorem Sw.rdI {W : World} {g : Nat} {x : Nat → Int} {m : Mt} {p : Int} (h : Sw W g x m p) : RdI W g 0 x := ⟨h.lt, fun i hi => h.cell (swp_book x m p i hi)⟩
theorem Sw.meter {W : World} {g : Nat} {x : Nat → Int} {m : Mt} {p : Int} (h : Sw W g x m p) : W.rangeAt g 19 (mt m).toList := fun j v hj => by
  rw [cell_of_row W g (19 + j) _ _ (0, 0) h]
  have hl : j < 14 := by
    have := (List.getElem?_eq_some_iff.1 hj).1
    simpa [mt_size] using this
  rw [Array.getElem?_toList] at hj
  have : j = 0 ∨ j = 1 ∨ j = 2 ∨ j = 3 ∨ j = 4 ∨ j = 5 ∨ j = 6 ∨ j = 7 ∨ j = 8 ∨ j = 9 ∨ j = 10 ∨ j = 11 ∨ j = 12 ∨ j = 13 := by omega
  rcases this with rfl | rfl | rfl | rfl | rfl | rfl | rfl | rfl | rfl | rfl | rfl | rfl | rfl | rfl <;> exact hj
theorem wpList_take_mid {P : Program} {ops : Array Oper} {rest : List Oper} {o : Oper} {a : Act} {w : World} {Q : Exit → Act → World → Prop} (hgd : Region.wanted o (yielded ops a.tmps) = true) (ty : TypeId) (x : Operand) (ho : o.op = .load ty x)
    (g off : Nat) (cs : Array Value) (d : TypeDesc) (hx : a.eval x = .pointer (some ⟨g, off, none⟩)) (hr : w.rangeAt g off cs.toList)
    (hu : P.underlying ty = some d) (hd : d.isRow = true) (hi : (P.info? ty).map (·.size) = some cs.size)
    (h : wpList P ops Q rest (a.put o.dst (.agg cs)) w) : wpList P ops Q (o :: rest) a w :=
  wpList_step fun K hK => by
    rw [if_pos hgd]
    unfold Oper.wp
    rw [exec_load_mid g off cs d w ho hx hr hu hd hi]
    exact hK _ _ h
theorem Chg.keep {W W1 W2 : World} {g b : Nat} {t s : TypeId} {cs ds : Array Value} (c : Chg W g t cs W1) (u : Upd W1 b s ds W2) (hb : W.heap.size ≤ b) (hg : g < W.heap.size) : Chg W g t cs W2 :=
  ⟨by rw [u.size]; exact c.size, u.bx c.box (by omega), fun k hk hl => (u.other k (by omega)).trans (c.other k hk hl), fun n hn hl => (c.bel n hn hl).trans (u.bel n (by omega))⟩
/-- What a call leaves that turns the sweep. -/
abbrev SwTo (W : World) (g : Nat) (x : Nat → Int) (m : Mt) (p : Int) (W' : World) : Prop := Chg W g 53 (swp x m p) W'

end Go.Proofs.Ytlbafgdbemhanaa
