/- What Shut of windows returns, for any slice of spans that can be read. Conditions: as each theorem says. -/
import Derived.Test.YtdifgbnapcnmlaaRows
import Derived.Test.YtdifgbnapcnmlaaBase
import Derived.Test.YtdifgbnapcnmlaaRow
import Derived.Test.YtdifgbnapcnmlaaIvalsMath
import Derived.Test.YtdifgbnapcnmlaaIvalsMath2
import Derived.Test.YtdifgbnapcnmlaaIvalsWords
import Derived.Test.YtdifgbnapcnmlaaIvalsOwn
import Derived.Test.YtdifgbnapcnmlaaIvalsGapsC
import Derived.WalkKit
import Derived.WalkSpells
import Derived.WalkSmall
import Derived.Below
import Derived.Lib.Hide
namespace Go.Proofs.Ytdifgbnapcnmlaa
open Go.RowKit

/-- One span that is written out. -/
theorem rds_one18 {w : World} {g : Nat} {t : TypeId} {a b : Int} (h : w.heap[g]? = some (.cells #[.int .i64 a, .int .i64 b] t (0, 0))) : RdS w (some ⟨g, 0, none⟩) [(a, b)] := fun _ => by
  refine ⟨g, 0, rfl, ?_, fun k hk => ?_⟩
  · rcases Nat.lt_or_ge g w.heap.size with h1 | h1
    · exact h1
    · rw [Array.getElem?_eq_none h1] at h; cases h
  · rw [Nat.zero_add, cell_of_row w g _ _ t (0, 0) h, cell_of_row w g _ _ t (0, 0) h]
    match k, hk with
    | 0, _ => exact ⟨rfl, rfl⟩

theorem shut18_any (A : Option Addr) (c : Nat) (l : List Sp) (x y : Int) (w : World) (h : RdS w A l) (hl : l.length ≤ 900) :
    Calls Try.prog 15 #[.slice A l.length c, .agg #[.int .i64 x, .int .i64 y]] w fun e w' => ∃ v, e = .returned v ∧ Own w.heap.size w' v (minusOf [(x, y)] l) ∧ Below w.heap.size w w' := by
  have h1 := (Below.refl w.heap.size w).alloc (Nat.le_refl _) (.cells #[.int .i64 x, .int .i64 y] 31)
  have h2 := h1.alloc h1.size (.cells #[.int .i64 x, .int .i64 y] 31)
  have hr : RdS ((w.alloc (.cells #[.int .i64 x, .int .i64 y] 31)).alloc (.cells #[.int .i64 x, .int .i64 y] 31)) (some ⟨w.heap.size + 1, 0, none⟩) [(x, y)] := rds_one18 (by
    have := heap_alloc_new (w.alloc (.cells #[.int .i64 x, .int .i64 y] 31)) (.cells #[.int .i64 x, .int .i64 y] 31)
    rwa [show (w.alloc (.cells #[.int .i64 x, .int .i64 y] 31)).heap.size = w.heap.size + 1 by simp] at this)
  have C1 := minusl_any (some ⟨w.heap.size + 1, 0, none⟩) A 1 c [(x, y)] l _ hr (h.below h2) (by simp) hl
  have CM := Lib.hid C1
  clear hr h C1
  generalize minusOf [(x, y)] l = s at *
  go_enter Try.func15, Try.ntmps15
  go_wp2_with (go_at_call 27; refine CM.out.mono ?_; rintro e w1 ⟨v, rfl, ho, hb1⟩)
  go_ret
  exact ⟨_, rfl, ho.more h2.size, h2.trans (hb1.mono h2.size)⟩

end Go.Proofs.Ytdifgbnapcnmlaa
