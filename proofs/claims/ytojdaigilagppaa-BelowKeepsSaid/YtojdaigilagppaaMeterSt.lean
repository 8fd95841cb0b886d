/- How the program's count of layer 13 (a book, a meter, a set) lies in memory, and what a call that turns it leaves. Conditions: none beyond each lemma's own premises. -/
import Derived.Test.YtojdaigilagppaaRows
import Derived.Test.YtojdaigilagppaaBase
import Derived.Test.YtojdaigilagppaaBookRow
import Derived.Test.YtojdaigilagppaaBox
import Derived.Test.YtojdaigilagppaaSpellMath
import Derived.Test.YtojdaigilagppaaMeterMath
import Derived.Below
import Derived.KernelRfl
namespace Go.Proofs.Ytojdaigilagppaa
open Go.RowKit

/-- What a call leaves that turns block g and may make memory: g holds cs, all else that lay is as it was. -/
structure Chg (W : World) (g : Nat) (t : TypeId) (cs : Array Value) (W' : World) : Prop where
  size : W.heap.size ≤ W'.heap.size
  box : Bx W' g t cs
  other : ∀ k, k ≠ g → k < W.heap.size → W'.heap[k]? = W.heap[k]?
  bel : ∀ n, n ≤ g → n ≤ W.heap.size → Below n W W'

theorem Chg.refl {W : World} {g : Nat} {t : TypeId} {cs : Array Value} (h : Bx W g t cs) : Chg W g t cs W := ⟨Nat.le_refl _, h, fun _ _ _ => rfl, fun _ _ _ => Below.refl _ _⟩
theorem Chg.upd {W W1 W2 : World} {g : Nat} {t s : TypeId} {cs ds : Array Value} (c : Chg W g t cs W1) (u : Upd W1 g s ds W2) : Chg W g s ds W2 :=
  ⟨by rw [u.size]; exact c.size, u.box, fun k hk hl => (u.other k hk).trans (c.other k hk hl), fun n hn hl => (c.bel n hn hl).trans (u.bel n hn)⟩
theorem Chg.trans {W W1 W2 : World} {g : Nat} {t s : TypeId} {cs ds : Array Value} (c : Chg W g t cs W1) (d : Chg W1 g s ds W2) : Chg W g s ds W2 :=
  ⟨Nat.le_trans c.size d.size, d.box, fun k hk hl => (d.other k hk (Nat.lt_of_lt_of_le hl c.size)).trans (c.other k hk hl), fun n hn hl => (c.bel n hn hl).trans (d.bel n hn (Nat.le_trans hl c.size))⟩
theorem Chg.below {W W1 W2 : World} {g : Nat} {t : TypeId} {cs : Array Value} (c : Chg W g t cs W1) (hb : Below W1.heap.size W1 W2) : Chg W g t cs W2 :=
  ⟨Nat.le_trans c.size hb.size, c.box.below hb, fun k hk hl => (hb.block k (Nat.lt_of_lt_of_le hl c.size)).trans (c.other k hk hl), fun n hn hl => (c.bel n hn hl).trans (hb.mono (Nat.le_trans hl c.size))⟩
theorem Chg.alloc {W W1 : World} {g : Nat} {t : TypeId} {cs : Array Value} (c : Chg W g t cs W1) (o : Obj) : Chg W g t cs (W1.alloc o) := c.below ((Below.refl _ _).alloc (Nat.le_refl _) o)
theorem Chg.drew {W W1 : World} {g : Nat} {t : TypeId} {cs : Array Value} (c : Chg W g t cs W1) : Chg W g t cs W1.drew := ⟨c.size, c.box.drew, c.other, fun n hn hl => b_dr (c.bel n hn hl)⟩
theorem Chg.bx {W W' : World} {g h : Nat} {t s : TypeId} {cs ds : Array Value} (c : Chg W g t cs W') (hb : Bx W h s ds) (hp : h ≠ g) : Bx W' h s ds := (c.other h hp hb.lt).trans hb
theorem Chg.cell {W W' : World} {g : Nat} {t : TypeId} {cs : Array Value} (c : Chg W g t cs W') {p : Addr} (hp : p.block ≠ g) (hl : p.block < W.heap.size) : W'.cell? p = W.cell? p := World.cell?_of_block (w := W) (c.other p.block hp hl)
theorem Chg.rdI {W W' : World} {g b off : Nat} {t : TypeId} {cs : Array Value} {x : Nat → Int} (c : Chg W g t cs W') (h : RdI W b off x) (hp : b ≠ g) : RdI W' b off x :=
  ⟨Nat.lt_of_lt_of_le h.1 c.size, fun i hi => (c.cell (p := ⟨b, off + i, none⟩) hp h.1).trans (h.2 i hi)⟩

/-- The cells of a count: the book, the meter, the set. -/
def cnt (x : Nat → Int) (m : Mt) (n : Nat) : Array Value := #[.int .i64 (x 0), .int .i64 (x 1), .int .i64 (x 2), .int .i64 (x 3), .int .i64 (x 4), .int .i64 (x 5), .int .i64 (x 6), .int .i64 (x 7), .int .i64 (x 8), .int .i64 (x 9), .int .i64 (x 10), .int .i64 (x 11), .int .i64 (x 12), .int .i64 (x 13), .int .i64 (x 14), .int .i64 (x 15), .int .i64 (x 16), .int .i64 (x 17), .int .i64 (x 18),
  .int .i64 m.now, .int .i64 m.acc, .bool m.half, .int .i64 m.lie, .int .i64 m.dawn, .int .i64 m.day, .int .i64 m.longers, .bool m.split, .int .i64 m.reduces, .int .i64 m.sabbath, .bool m.brief, .int .i64 m.week, .int .i64 m.last, .int .i64 m.labour, .int .i64 (n : Int)]
theorem cnt_size (x : Nat → Int) (m : Mt) (n : Nat) : (cnt x m n).size = 34 := rfl
theorem cnt_one (x : Nat → Int) (m : Mt) (n : Nat) : (cnt x m n).all (·.oneCell') = true := by kernel_rfl
theorem cnt_bk (x : Nat → Int) (m : Mt) (n : Nat) : ∀ i, i < 19 → (cnt x m n)[0 + i]? = some (.int .i64 (x i)) := by
  intro i hi
  have : i = 0 ∨ i = 1 ∨ i = 2 ∨ i = 3 ∨ i = 4 ∨ i = 5 ∨ i = 6 ∨ i = 7 ∨ i = 8 ∨ i = 9 ∨ i = 10 ∨ i = 11 ∨ i = 12 ∨ i = 13 ∨ i = 14 ∨ i = 15 ∨ i = 16 ∨ i = 17 ∨ i = 18 := by omega
  rcases this with rfl | rfl | rfl | rfl | rfl | rfl | rfl | rfl | rfl | rfl | rfl | rfl | rfl | rfl | rfl | rfl | rfl | rfl | rfl <;> rfl

/-- Block g is a count. -/
abbrev Cn (W : World) (g : Nat) (x : Nat → Int) (m : Mt) (n : Nat) : Prop := Bx W g 46 (cnt x m n)
theorem Cn.rdI {W : World} {g : Nat} {x : Nat → Int} {m : Mt} {n : Nat} (h : Cn W g x m n) : RdI W g 0 x := ⟨h.lt, fun i hi => h.cell (cnt_bk x m n i hi)⟩

/-- The cells of the meter and the set. -/
theorem Cn.cells {W : World} {g : Nat} {x : Nat → Int} {m : Mt} {n : Nat} (h : Cn W g x m n) :
    W.cell? ⟨g, 19, none⟩ = some (.int .i64 m.now) ∧ W.cell? ⟨g, 20, none⟩ = some (.int .i64 m.acc) ∧ W.cell? ⟨g, 21, none⟩ = some (.bool m.half) ∧ W.cell? ⟨g, 22, none⟩ = some (.int .i64 m.lie) ∧ W.cell? ⟨g, 23, none⟩ = some (.int .i64 m.dawn) ∧ W.cell? ⟨g, 24, none⟩ = some (.int .i64 m.day) ∧ W.cell? ⟨g, 25, none⟩ = some (.int .i64 m.longers) ∧ W.cell? ⟨g, 26, none⟩ = some (.bool m.split) ∧ W.cell? ⟨g, 27, none⟩ = some (.int .i64 m.reduces) ∧ W.cell? ⟨g, 28, none⟩ = some (.int .i64 m.sabbath) ∧ W.cell? ⟨g, 29, none⟩ = some (.bool m.brief) ∧ W.cell? ⟨g, 30, none⟩ = some (.int .i64 m.week) ∧ W.cell? ⟨g, 31, none⟩ = some (.int .i64 m.last) ∧ W.cell? ⟨g, 32, none⟩ = some (.int .i64 m.labour) ∧ W.cell? ⟨g, 33, none⟩ = some (.int .i64 (n : Int)) :=
  ⟨h.cell rfl, h.cell rfl, h.cell rfl, h.cell rfl, h.cell rfl, h.cell rfl, h.cell rfl, h.cell rfl, h.cell rfl, h.cell rfl, h.cell rfl, h.cell rfl, h.cell rfl, h.cell rfl, h.cell rfl⟩

/-- The cells of the book. -/
theorem Cn.book {W : World} {g : Nat} {x : Nat → Int} {m : Mt} {n : Nat} (h : Cn W g x m n) :
    W.cell? ⟨g, 0, none⟩ = some (.int .i64 (x 0)) ∧ W.cell? ⟨g, 4, none⟩ = some (.int .i64 (x 4)) ∧ W.cell? ⟨g, 5, none⟩ = some (.int .i64 (x 5)) ∧ W.cell? ⟨g, 6, none⟩ = some (.int .i64 (x 6)) ∧ W.cell? ⟨g, 8, none⟩ = some (.int .i64 (x 8)) ∧ W.cell? ⟨g, 9, none⟩ = some (.int .i64 (x 9)) ∧ W.cell? ⟨g, 11, none⟩ = some (.int .i64 (x 11)) ∧ W.cell? ⟨g, 14, none⟩ = some (.int .i64 (x 14)) ∧ W.cell? ⟨g, 15, none⟩ = some (.int .i64 (x 15)) ∧ W.cell? ⟨g, 16, none⟩ = some (.int .i64 (x 16)) ∧ W.cell? ⟨g, 17, none⟩ = some (.int .i64 (x 17)) ∧ W.cell? ⟨g, 18, none⟩ = some (.int .i64 (x 18)) :=
  ⟨h.cell rfl, h.cell rfl, h.cell rfl, h.cell rfl, h.cell rfl, h.cell rfl, h.cell rfl, h.cell rfl, h.cell rfl, h.cell rfl, h.cell rfl, h.cell rfl⟩

/-- What a call leaves that turns the count. -/
abbrev CnTo (W : World) (g : Nat) (x : Nat → Int) (m : Mt) (n : Nat) (W' : World) : Prop := Chg W g 46 (cnt x m n) W'

end Go.Proofs.Ytojdaigilagppaa
