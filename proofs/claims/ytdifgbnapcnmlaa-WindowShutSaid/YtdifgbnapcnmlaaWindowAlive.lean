/- The chapter's example of layer 18 is answered as it is written. Conditions: none. -/
import Derived.Test.YtdifgbnapcnmlaaRows
import Derived.Test.YtdifgbnapcnmlaaBase
import Derived.Test.YtdifgbnapcnmlaaRow
import Derived.Test.YtdifgbnapcnmlaaIvalsWords
import Derived.Test.YtdifgbnapcnmlaaWindowMath
import Derived.Test.YtdifgbnapcnmlaaWindowRef
import Derived.Test.YtdifgbnapcnmlaaWindowC
import Derived.WalkKit
import Derived.WalkSpells
import Derived.WalkSmall
import Derived.Below
import Derived.Lib.Hide
namespace Go.Proofs.Ytdifgbnapcnmlaa
open Go.RowKit

theorem rds_two18 {w : World} {g : Nat} {t : TypeId} {a b c d : Int} (h : w.heap[g]? = some (.cells #[.int .i64 a, .int .i64 b, .int .i64 c, .int .i64 d] t (0, 0))) : RdS w (some ⟨g, 0, none⟩) [(a, b), (c, d)] := fun _ => by
  refine ⟨g, 0, rfl, ?_, fun k hk => ?_⟩
  · rcases Nat.lt_or_ge g w.heap.size with h1 | h1
    · exact h1
    · rw [Array.getElem?_eq_none h1] at h; cases h
  · rw [Nat.zero_add, cell_of_row w g _ _ t (0, 0) h, cell_of_row w g _ _ t (0, 0) h]
    match k, hk with
    | 0, _ => exact ⟨rfl, rfl⟩
    | 1, _ => exact ⟨rfl, rfl⟩

theorem bd_two18 : Bd [(480, 720), (840, 960)] := by
  intro s hs
  simp at hs
  rcases hs with rfl | rfl <;> decide

theorem next_two18 : nextL [(480, 720), (840, 960)] 800 = (840, true) := by decide
theorem last_two18 : lastL [(480, 720), (840, 960)] = (959, true) := by decide

theorem alive18_any (w : World) :
    Calls Try.prog 6 #[] w fun e w' => e = .returned (.bool true) ∧ Below w.heap.size w w' := by
  have C1 := fun W (h : RdS W (some ⟨w.heap.size, 0, none⟩) [(480, 720), (840, 960)]) => next18_any (some ⟨w.heap.size, 0, none⟩) 2 [(480, 720), (840, 960)] 800 W h (by decide) bd_two18
  have C2 := fun W (h : RdS W (some ⟨w.heap.size, 0, none⟩) [(480, 720), (840, 960)]) => last18_any (some ⟨w.heap.size, 0, none⟩) 2 [(480, 720), (840, 960)] W h (by decide) bd_two18
  rw [next_two18] at C1
  rw [last_two18] at C2
  have hr := rds_two18 (heap_alloc_new w (.cells #[.int .i64 480, .int .i64 720, .int .i64 840, .int .i64 960] 31))
  have HR := Lib.hid hr
  clear hr
  have h1 := (Below.refl w.heap.size w).alloc (Nat.le_refl _) (.cells #[.int .i64 480, .int .i64 720, .int .i64 840, .int .i64 960] 31)
  go_enter Try.func6, Try.ntmps6
  go_wp2_with (first
    | (go_at_call 7; refine (C1 _ HR.out).mono ?_; rintro e w1 ⟨rfl, hb1⟩)
    | (go_at_call 9; refine (C2 _ (HR.out.below hb1)).mono ?_; rintro e w2 ⟨rfl, hb2⟩))
  go_ret
  have h2 := h1.trans (hb1.mono h1.size)
  exact ⟨by simp, h2.trans (hb2.mono h2.size)⟩

end Go.Proofs.Ytdifgbnapcnmlaa
