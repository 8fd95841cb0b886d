/- How Of of layer 12, and the document's, stand in the midst: the boxes, and what has been worked out so far. Conditions: none beyond each lemma's own premises. -/
import Derived.Test.YtojdaigilagppaaRows
import Derived.Test.YtojdaigilagppaaBase
import Derived.Test.YtojdaigilagppaaBookRow
import Derived.Test.YtojdaigilagppaaBookLeaf
import Derived.Test.YtojdaigilagppaaBookNum
import Derived.Test.YtojdaigilagppaaBookBel
import Derived.Test.YtojdaigilagppaaBookOrd
import Derived.Test.YtojdaigilagppaaBookLim
import Derived.Test.YtojdaigilagppaaBookMayR
import Derived.Test.YtojdaigilagppaaBookLaws
import Derived.Test.YtojdaigilagppaaIvalLeaf
import Derived.Test.YtojdaigilagppaaBox
import Derived.Test.YtojdaigilagppaaSpellMath
import Derived.WalkKit
import Derived.WalkSpells
import Derived.WalkSmall
import Derived.Below
import Derived.Lib.Hide
import Derived.Shelf.Abstract
import Derived.BigQuiet
import Derived.OwnWalk
import Derived.Outline
import Derived.Deep.DeepCutAuto
namespace Go.Proofs.Ytojdaigilagppaa
open Go.RowKit

/-- The book lies in block g, the span in h, the result's variable in r, what is being worked out in c. -/
structure SpW (w : World) (g h r c : Nat) (T : TypeId) (x : Nat → Int) (f t : Int) (s : Wo) (W : World) : Prop where
  bel : Below w.heap.size w W
  lt : g < c ∧ h < c ∧ r < c ∧ w.heap.size ≤ c ∧ w.heap.size ≤ r
  bk : RdI W g 0 x
  sp0 : W.cell? ⟨h, 0, none⟩ = some (.int .i64 f)
  sp1 : W.cell? ⟨h, 1, none⟩ = some (.int .i64 t)
  res : Bx W r T (wo .zero)
  cur : Bx W c T (wo s)

theorem SpW.put {w : World} {g h r c : Nat} {T : TypeId} {x : Nat → Int} {f t : Int} {s : Wo} {W W' : World} (S : SpW w g h r c T x f t s W) {k : Nat} {b : Bool} (hk : k < 7) (u : Upd W c T ((wo s).setIfInBounds k (.bool b)) W') :
    SpW w g h r c T x f t (s.set k b) W' := by
  obtain ⟨l1, l2, l3, l4, l5⟩ := S.lt
  refine ⟨S.bel.trans (u.bel _ l4), S.lt, ⟨by rw [u.size]; exact S.bk.1, fun i hi => ?_⟩, ?_, ?_, u.bx S.res (by omega), ?_⟩
  · exact (u.cell (p := ⟨g, 0 + i, none⟩) (Nat.ne_of_lt l1)).trans (S.bk.2 i hi)
  · exact (u.cell (p := ⟨h, 0, none⟩) (Nat.ne_of_lt l2)).trans S.sp0
  · exact (u.cell (p := ⟨h, 1, none⟩) (Nat.ne_of_lt l2)).trans S.sp1
  · rw [← wo_set s k b hk]; exact u.box

theorem SpW.cast {w : World} {g h r c : Nat} {T : TypeId} {x : Nat → Int} {f t : Int} {s s' : Wo} {W : World} (S : SpW w g h r c T x f t s W) (e : s = s') : SpW w g h r c T x f t s' W := e ▸ S

theorem SpW.facts {w : World} {g h r c : Nat} {T : TypeId} {x : Nat → Int} {f t : Int} {a0 a1 a2 a3 a4 a5 a6 : Bool} {W : World} (S : SpW w g h r c T x f t ⟨a0, a1, a2, a3, a4, a5, a6⟩ W) :
    W.cell? ⟨g, 1, none⟩ = some (.int .i64 (x 1)) ∧ W.cell? ⟨g, 2, none⟩ = some (.int .i64 (x 2)) ∧ W.cell? ⟨g, 3, none⟩ = some (.int .i64 (x 3)) ∧ W.cell? ⟨g, 7, none⟩ = some (.int .i64 (x 7)) ∧ W.cell? ⟨g, 8, none⟩ = some (.int .i64 (x 8)) ∧ W.cell? ⟨g, 10, none⟩ = some (.int .i64 (x 10)) ∧ W.cell? ⟨g, 11, none⟩ = some (.int .i64 (x 11)) ∧ W.cell? ⟨g, 12, none⟩ = some (.int .i64 (x 12)) ∧ W.cell? ⟨g, 13, none⟩ = some (.int .i64 (x 13)) ∧ W.cell? ⟨c, 0, none⟩ = some (.bool a0) ∧ W.cell? ⟨c, 1, none⟩ = some (.bool a1) ∧ W.cell? ⟨c, 2, none⟩ = some (.bool a2) ∧ W.cell? ⟨c, 3, none⟩ = some (.bool a3) ∧ W.cell? ⟨c, 4, none⟩ = some (.bool a4) ∧ W.cell? ⟨c, 5, none⟩ = some (.bool a5) ∧ W.cell? ⟨c, 6, none⟩ = some (.bool a6) := by
  have hb : ∀ i, i < 19 → W.cell? ⟨g, i, none⟩ = some (.int .i64 (x i)) := fun i hi => by have := S.bk.2 i hi; rwa [Nat.zero_add] at this
  exact ⟨hb 1 (by omega), hb 2 (by omega), hb 3 (by omega), hb 7 (by omega), hb 8 (by omega), hb 10 (by omega), hb 11 (by omega), hb 12 (by omega), hb 13 (by omega), S.cur.cell rfl, S.cur.cell rfl, S.cur.cell rfl, S.cur.cell rfl, S.cur.cell rfl, S.cur.cell rfl, S.cur.cell rfl⟩

theorem SpW.put0 {w : World} {g h r c : Nat} {T : TypeId} {x : Nat → Int} {f t : Int} {a0 a1 a2 a3 a4 a5 a6 b : Bool} {W W' : World} (S : SpW w g h r c T x f t ⟨a0, a1, a2, a3, a4, a5, a6⟩ W) (u : Upd W c T ((wo ⟨a0, a1, a2, a3, a4, a5, a6⟩).setIfInBounds 0 (.bool b)) W') :
    SpW w g h r c T x f t ⟨b, a1, a2, a3, a4, a5, a6⟩ W' := S.put (k := 0) (by omega) u

theorem SpW.put1 {w : World} {g h r c : Nat} {T : TypeId} {x : Nat → Int} {f t : Int} {a0 a1 a2 a3 a4 a5 a6 b : Bool} {W W' : World} (S : SpW w g h r c T x f t ⟨a0, a1, a2, a3, a4, a5, a6⟩ W) (u : Upd W c T ((wo ⟨a0, a1, a2, a3, a4, a5, a6⟩).setIfInBounds 1 (.bool b)) W') :
    SpW w g h r c T x f t ⟨a0, b, a2, a3, a4, a5, a6⟩ W' := S.put (k := 1) (by omega) u

theorem SpW.put2 {w : World} {g h r c : Nat} {T : TypeId} {x : Nat → Int} {f t : Int} {a0 a1 a2 a3 a4 a5 a6 b : Bool} {W W' : World} (S : SpW w g h r c T x f t ⟨a0, a1, a2, a3, a4, a5, a6⟩ W) (u : Upd W c T ((wo ⟨a0, a1, a2, a3, a4, a5, a6⟩).setIfInBounds 2 (.bool b)) W') :
    SpW w g h r c T x f t ⟨a0, a1, b, a3, a4, a5, a6⟩ W' := S.put (k := 2) (by omega) u

theorem SpW.put3 {w : World} {g h r c : Nat} {T : TypeId} {x : Nat → Int} {f t : Int} {a0 a1 a2 a3 a4 a5 a6 b : Bool} {W W' : World} (S : SpW w g h r c T x f t ⟨a0, a1, a2, a3, a4, a5, a6⟩ W) (u : Upd W c T ((wo ⟨a0, a1, a2, a3, a4, a5, a6⟩).setIfInBounds 3 (.bool b)) W') :
    SpW w g h r c T x f t ⟨a0, a1, a2, b, a4, a5, a6⟩ W' := S.put (k := 3) (by omega) u

theorem SpW.put4 {w : World} {g h r c : Nat} {T : TypeId} {x : Nat → Int} {f t : Int} {a0 a1 a2 a3 a4 a5 a6 b : Bool} {W W' : World} (S : SpW w g h r c T x f t ⟨a0, a1, a2, a3, a4, a5, a6⟩ W) (u : Upd W c T ((wo ⟨a0, a1, a2, a3, a4, a5, a6⟩).setIfInBounds 4 (.bool b)) W') :
    SpW w g h r c T x f t ⟨a0, a1, a2, a3, b, a5, a6⟩ W' := S.put (k := 4) (by omega) u

theorem SpW.put5 {w : World} {g h r c : Nat} {T : TypeId} {x : Nat → Int} {f t : Int} {a0 a1 a2 a3 a4 a5 a6 b : Bool} {W W' : World} (S : SpW w g h r c T x f t ⟨a0, a1, a2, a3, a4, a5, a6⟩ W) (u : Upd W c T ((wo ⟨a0, a1, a2, a3, a4, a5, a6⟩).setIfInBounds 5 (.bool b)) W') :
    SpW w g h r c T x f t ⟨a0, a1, a2, a3, a4, b, a6⟩ W' := S.put (k := 5) (by omega) u

theorem SpW.put6 {w : World} {g h r c : Nat} {T : TypeId} {x : Nat → Int} {f t : Int} {a0 a1 a2 a3 a4 a5 a6 b : Bool} {W W' : World} (S : SpW w g h r c T x f t ⟨a0, a1, a2, a3, a4, a5, a6⟩ W) (u : Upd W c T ((wo ⟨a0, a1, a2, a3, a4, a5, a6⟩).setIfInBounds 6 (.bool b)) W') :
    SpW w g h r c T x f t ⟨a0, a1, a2, a3, a4, a5, b⟩ W' := S.put (k := 6) (by omega) u

end Go.Proofs.Ytojdaigilagppaa
