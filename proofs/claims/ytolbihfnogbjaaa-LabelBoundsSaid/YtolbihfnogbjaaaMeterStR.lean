/- How the document's ends and Step of layer 13 stand in the midst. Conditions: none beyond each lemma's own premises. -/
import Derived.Test.YtolbihfnogbjaaaRows
import Derived.Test.YtolbihfnogbjaaaBase
import Derived.Test.YtolbihfnogbjaaaZ2
import Derived.Test.YtolbihfnogbjaaaZ4
import Derived.Test.YtolbihfnogbjaaaMeterBit
import Derived.WalkKit
import Derived.WalkSpells
import Derived.WalkSmall
import Derived.Below
import Derived.Lib.Hide
import Derived.Shelf.Abstract
import Derived.BigQuiet
import Derived.OwnWalk
import Derived.Outline
import Derived.Deep.DeepCutAuto
import Derived.StillTailTactics
import Derived.Maps.RangeWalk
namespace Go.Proofs.Ytolbihfnogbjaaa
open Go.RowKit

/-- The book lies in the first block that the call has made, the meter in the second, the result's variable in the third. -/
structure MtW (w : World) (x : Nat → Int) (m : Mt) (W : World) : Prop where
  bel : Below w.heap.size w W
  rd : RdI W w.heap.size 0 x
  cur : Bx W (w.heap.size + 1) 26 (mt m)
  res : Bx W (w.heap.size + 2) 26 (mt .zero)

theorem MtW.upd {w : World} {x : Nat → Int} {m m' : Mt} {W W' : World} (C : MtW w x m W) (u : Upd W (w.heap.size + 1) 26 (mt m') W') : MtW w x m' W' :=
  ⟨C.bel.trans (u.bel _ (by omega)), ⟨by rw [u.size]; exact C.rd.1, fun i hi => (u.cell (p := ⟨w.heap.size, 0 + i, none⟩) (by show w.heap.size ≠ _; omega)).trans (C.rd.2 i hi)⟩, u.box, u.bx C.res (by omega)⟩
theorem MtW.below {w : World} {x : Nat → Int} {m : Mt} {W W' : World} (C : MtW w x m W) (hb : Below W.heap.size W W') : MtW w x m W' := ⟨b_cl C.bel (Nat.le_refl _) hb, C.rd.below hb, C.cur.below hb, C.res.below hb⟩
theorem MtW.alloc {w : World} {x : Nat → Int} {m : Mt} {W : World} (C : MtW w x m W) (o : Obj) : MtW w x m (W.alloc o) := C.below ((Below.refl _ _).alloc (Nat.le_refl _) o)
theorem MtW.other {w : World} {x : Nat → Int} {m : Mt} {W W' : World} {g : Nat} {t : TypeId} {cs : Array Value} (C : MtW w x m W) (u : Upd W g t cs W') (hg : w.heap.size + 2 < g) : MtW w x m W' :=
  ⟨C.bel.trans (u.bel _ (by omega)), ⟨by rw [u.size]; exact C.rd.1, fun i hi => (u.cell (p := ⟨w.heap.size, 0 + i, none⟩) (by show w.heap.size ≠ _; omega)).trans (C.rd.2 i hi)⟩, u.bx C.cur (by omega), u.bx C.res (by omega)⟩
theorem MtW.book {w : World} {x : Nat → Int} {m : Mt} {W : World} (C : MtW w x m W) (i : Nat) (hi : i < 19) : W.cell? ⟨w.heap.size, i, none⟩ = some (.int .i64 (x i)) := by
  have := C.rd.2 i hi
  rwa [Nat.zero_add] at this
theorem MtW.new (w : World) (x : Nat → Int) (m : Mt) : MtW w x m (((w.alloc (.cells (bk x) 23)).alloc (.cells (mt m) 26)).alloc (.cells (mt .zero) 26)) :=
  ⟨b_al (b_al (b_al (Below.refl _ _) (Nat.le_refl _) _) (Nat.le_refl _) _) (Nat.le_refl _) _, ((RdI.new x 23 rfl).alloc _).alloc _, (Bx.new (W := w.alloc (.cells (bk x) 23)) _ _ (by simp)).alloc _, Bx.new (W := (w.alloc (.cells (bk x) 23)).alloc (.cells (mt m) 26)) _ _ (by simp)⟩

end Go.Proofs.Ytolbihfnogbjaaa
