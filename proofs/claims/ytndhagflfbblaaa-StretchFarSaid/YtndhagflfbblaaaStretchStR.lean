/- How the document's Over of layer 14 stands in the midst. Conditions: none beyond each lemma's own premises. -/
import Derived.Test.YtndhagflfbblaaaRows
import Derived.Test.YtndhagflfbblaaaBase
import Derived.Test.YtndhagflfbblaaaBookRow
import Derived.Test.YtndhagflfbblaaaBox
import Derived.Test.YtndhagflfbblaaaSpellMath
import Derived.Test.YtndhagflfbblaaaMeterMath
import Derived.Test.YtndhagflfbblaaaMeterSt
import Derived.Test.YtndhagflfbblaaaMeterChk
import Derived.Test.YtndhagflfbblaaaStretchMath
import Derived.Test.YtndhagflfbblaaaStretchOn
import Derived.Test.YtndhagflfbblaaaStretchSt
import Derived.Test.YtndhagflfbblaaaStretchChk
import Derived.WalkKit
import Derived.WalkSpells
import Derived.WalkSmall
import Derived.Below
import Derived.Lib.Hide
import Derived.Shelf.Abstract
import Derived.BigQuiet
import Derived.OwnWalk
import Derived.Outline
import Derived.Deep.DeepCutAuto
import Derived.StillTailTactics
import Derived.Maps.RangeWalk
import Derived.OrdersHeld
namespace Go.Proofs.Ytndhagflfbblaaa
open Go.RowKit

/-- The book, the meter, the results and the first minutes lie in the call's own five blocks. -/
structure RfS (w : World) (x : Nat → Int) (m : Mt) (y : Nat → Int) (W : World) : Prop where
  bel : Below w.heap.size w W
  rd : RdI W w.heap.size 0 x
  cur : Bx W (w.heap.size + 1) 25 (mt m)
  res : Bx W (w.heap.size + 2) 25 (mt .zero)
  ref : Bx W (w.heap.size + 3) 28 (tn zeroF)
  fst : Bx W (w.heap.size + 4) 28 (tn y)
theorem RfS.rdo {W W' : World} {b off g : Nat} {x : Nat → Int} {T : TypeId} {cs : Array Value} (h : RdI W b off x) (u : Upd W g T cs W') (hne : b ≠ g) : RdI W' b off x :=
  ⟨by rw [u.size]; exact h.1, fun i hi => (u.cell (p := ⟨b, off + i, none⟩) hne).trans (h.2 i hi)⟩
theorem RfS.below {w : World} {x : Nat → Int} {m : Mt} {y : Nat → Int} {W W' : World} (C : RfS w x m y W) (hb : Below W.heap.size W W') : RfS w x m y W' :=
  ⟨b_cl C.bel (Nat.le_refl _) hb, C.rd.below hb, C.cur.below hb, C.res.below hb, C.ref.below hb, C.fst.below hb⟩
theorem RfS.alloc {w : World} {x : Nat → Int} {m : Mt} {y : Nat → Int} {W : World} (C : RfS w x m y W) (o : Obj) : RfS w x m y (W.alloc o) := C.below ((Below.refl _ _).alloc (Nat.le_refl _) o)
theorem RfS.drew {w : World} {x : Nat → Int} {m : Mt} {y : Nat → Int} {W : World} (C : RfS w x m y W) : RfS w x m y W.drew := C.below (b_dr (Below.refl _ _))
theorem RfS.updm {w : World} {x : Nat → Int} {m m' : Mt} {y : Nat → Int} {W W' : World} (C : RfS w x m y W) (u : Upd W (w.heap.size + 1) 25 (mt m') W') : RfS w x m' y W' :=
  ⟨C.bel.trans (u.bel _ (by omega)), RfS.rdo C.rd u (by omega), u.box, u.bx C.res (by omega), u.bx C.ref (by omega), u.bx C.fst (by omega)⟩
theorem RfS.updf {w : World} {x : Nat → Int} {m : Mt} {y z : Nat → Int} {W W' : World} (C : RfS w x m y W) (u : Upd W (w.heap.size + 4) 28 (tn z) W') : RfS w x m z W' :=
  ⟨C.bel.trans (u.bel _ (by omega)), RfS.rdo C.rd u (by omega), u.bx C.cur (by omega), u.bx C.res (by omega), u.bx C.ref (by omega), u.box⟩
theorem RfS.other {w : World} {x : Nat → Int} {m : Mt} {y : Nat → Int} {W W' : World} {g : Nat} {t : TypeId} {cs : Array Value} (C : RfS w x m y W) (u : Upd W g t cs W') (hg : w.heap.size + 4 < g) : RfS w x m y W' :=
  ⟨C.bel.trans (u.bel _ (by omega)), RfS.rdo C.rd u (by omega), u.bx C.cur (by omega), u.bx C.res (by omega), u.bx C.ref (by omega), u.bx C.fst (by omega)⟩
theorem RfS.new (w : World) (x : Nat → Int) (m : Mt) : RfS w x m zeroF (((((w.alloc (.cells (bk x) 23)).alloc (.cells (mt m) 25)).alloc (.cells (mt .zero) 25)).alloc (.cells (tn zeroF) 28)).alloc (.cells (tn zeroF) 28)) :=
  ⟨b_al (b_al (b_al (b_al (b_al (Below.refl _ _) (Nat.le_refl _) _) (Nat.le_refl _) _) (Nat.le_refl _) _) (Nat.le_refl _) _) (Nat.le_refl _) _,
    ((((RdI.new x 23 rfl).alloc _).alloc _).alloc _).alloc _,
    (((Bx.new (W := w.alloc (.cells (bk x) 23)) _ _ (by simp)).alloc _).alloc _).alloc _,
    ((Bx.new (W := (w.alloc (.cells (bk x) 23)).alloc (.cells (mt m) 25)) _ _ (by simp)).alloc _).alloc _,
    (Bx.new (W := ((w.alloc (.cells (bk x) 23)).alloc (.cells (mt m) 25)).alloc (.cells (mt .zero) 25)) _ _ (by simp)).alloc _,
    Bx.new (W := (((w.alloc (.cells (bk x) 23)).alloc (.cells (mt m) 25)).alloc (.cells (mt .zero) 25)).alloc (.cells (tn zeroF) 28)) _ _ (by simp)⟩
theorem tn_fs (y : Nat → Int) (a : Int) : ∀ c, c < 10 → (tn y).setIfInBounds c (.int .i64 a) = tn (fs y c a) := by
  intro c hc
  have : c = 0 ∨ c = 1 ∨ c = 2 ∨ c = 3 ∨ c = 4 ∨ c = 5 ∨ c = 6 ∨ c = 7 ∨ c = 8 ∨ c = 9 := by omega
  rcases this with rfl | rfl | rfl | rfl | rfl | rfl | rfl | rfl | rfl | rfl <;> rfl
/-- The first minutes with the clauses below c looked at. -/
def yIn (s : Nat) (y : Nat → Int) (a : Int) (c : Nat) : Nat → Int := fun i => if i < c then recB s y a i else y i
theorem yIn_zero (s : Nat) (y : Nat → Int) (a : Int) : yIn s y a 0 = y := by funext i; simp [yIn]
theorem yIn_at (s : Nat) (y : Nat → Int) (a : Int) (c : Nat) : yIn s y a c c = y c := by unfold yIn; rw [if_neg (by omega)]
theorem yIn_yes {s : Nat} {y : Nat → Int} {a : Int} {c : Nat} (h : s.testBit c = true) (hy : y c < 0) : fs (yIn s y a c) c a = yIn s y a (c + 1) := by
  funext i
  unfold fs yIn
  by_cases hi : i = c
  · subst hi
    rw [if_pos rfl, if_pos (by omega)]
    unfold recB
    rw [if_pos ⟨h, hy⟩]
  · rw [if_neg hi]
    by_cases hl : i < c
    · rw [if_pos hl, if_pos (by omega)]
    · rw [if_neg hl, if_neg (by omega)]
theorem yIn_no {s : Nat} {y : Nat → Int} {a : Int} {c : Nat} (h : ¬ (s.testBit c = true ∧ y c < 0)) : yIn s y a c = yIn s y a (c + 1) := by
  funext i
  unfold yIn
  by_cases hi : i = c
  · subst hi
    rw [if_neg (by omega), if_pos (by omega)]
    unfold recB
    rw [if_neg h]
  · by_cases hl : i < c
    · rw [if_pos hl, if_pos (by omega)]
    · rw [if_neg hl, if_neg (by omega)]
theorem yIn_ten {s : Nat} {y : Nat → Int} {a : Int} (h : s < 1024) : yIn s y a 10 = recB s y a := by
  funext i
  unfold yIn
  split
  · rfl
  · unfold recB
    rw [if_neg]
    intro hh
    rw [Nat.testBit_lt_two_pow (Nat.lt_of_lt_of_le h (Nat.pow_le_pow_right (n := 2) (by omega) (by omega : 10 ≤ i)))] at hh
    cases hh.1
/-- -1 in the first c places. -/
def yMin (c : Nat) : Nat → Int := fun i => if i < c then -1 else 0
theorem yMin_next (c : Nat) : fs (yMin c) c (-1) = yMin (c + 1) := by
  funext i
  unfold fs yMin
  by_cases hi : i = c
  · subst hi; rw [if_pos rfl, if_pos (by omega)]
  · rw [if_neg hi]
    by_cases hl : i < c
    · rw [if_pos hl, if_pos (by omega)]
    · rw [if_neg hl, if_neg (by omega)]
theorem yMin_zero : yMin 0 = zeroF := by funext i; simp [yMin, zeroF]
theorem yMin_ten : tn (yMin 10) = tn noneF := rfl
theorem bit_rem (r : Nat) : ((r : Int) % 2 == 1) = r.testBit 0 := by
  rw [Nat.testBit_zero]
  by_cases h : r % 2 = 1
  · have : (r : Int) % 2 = 1 := by omega
    simp [h, this]
  · have h2 : (r : Int) % 2 = 0 := by omega
    have h3 : r % 2 = 0 := by omega
    simp [h2, h3]
theorem bit_div (s c : Nat) : (s / 2 ^ c).testBit 0 = s.testBit c := by rw [Nat.testBit_div_two_pow, Nat.zero_add]
theorem div_next (s c : Nat) : s / 2 ^ c / 2 = s / 2 ^ (c + 1) := by rw [Nat.div_div_eq_div_mul, Nat.pow_succ]

end Go.Proofs.Ytndhagflfbblaaa
