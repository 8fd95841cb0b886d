/- The chapter's example of layer 8 is answered as it is written. Conditions: none. -/
import Derived.Test.YtbfjhhijhkhnkaaRows
import Derived.Test.YtbfjhhijhkhnkaaBase
import Derived.Test.YtbfjhhijhkhnkaaRow
import Derived.Test.YtbfjhhijhkhnkaaRecMath
import Derived.Test.YtbfjhhijhkhnkaaRecHeap
import Derived.Test.YtbfjhhijhkhnkaaRecSame
import Derived.Test.YtbfjhhijhkhnkaaRecNormal
import Derived.WalkKit
import Derived.WalkSpells
import Derived.WalkSmall
import Derived.Below
import Derived.Outline
import Derived.OwnWalk
import Derived.Lib.Hide
import Derived.BigQuiet
import Derived.Deep.QuietTactic
namespace Go.Proofs.Ytbfjhhijhkhnkaa
open Go.RowKit

/-- Records that are written out. -/
theorem rdr_two {w : World} {g : Nat} {t : TypeId} {a b c d e f : Int} (h : w.heap[g]? = some (.cells #[.int .i64 a, .int .i64 b, .int .i64 c, .int .i64 d, .int .i64 e, .int .i64 f] t (0, 0))) : RdR w (some ⟨g, 0, none⟩) [(a, b, c), (d, e, f)] := fun _ => by
  refine ⟨g, 0, rfl, ?_, fun k hk => ?_⟩
  · rcases Nat.lt_or_ge g w.heap.size with h1 | h1
    · exact h1
    · rw [Array.getElem?_eq_none h1] at h; cases h
  · rw [Nat.zero_add, cell_of_row w g _ _ t (0, 0) h, cell_of_row w g _ _ t (0, 0) h, cell_of_row w g _ _ t (0, 0) h]
    match k, hk with
    | 0, _ => exact ⟨rfl, rfl, rfl⟩
    | 1, _ => exact ⟨rfl, rfl, rfl⟩

theorem rdr_one {w : World} {g : Nat} {t : TypeId} {a b c : Int} (h : w.heap[g]? = some (.cells #[.int .i64 a, .int .i64 b, .int .i64 c] t (0, 0))) : RdR w (some ⟨g, 0, none⟩) [(a, b, c)] := fun _ => by
  refine ⟨g, 0, rfl, ?_, fun k hk => ?_⟩
  · rcases Nat.lt_or_ge g w.heap.size with h1 | h1
    · exact h1
    · rw [Array.getElem?_eq_none h1] at h; cases h
  · rw [Nat.zero_add, cell_of_row w g _ _ t (0, 0) h, cell_of_row w g _ _ t (0, 0) h, cell_of_row w g _ _ t (0, 0) h]
    match k, hk with
    | 0, _ => exact ⟨rfl, rfl, rfl⟩

theorem example_check : checkV [(3, 0, 5), (3, 5, 7)] = (0, 0) := by decide
theorem example_norm : nrmV [(3, 0, 5), (3, 5, 7)] = [(3, 0, 7)] := by decide

set_option maxHeartbeats 1000000 in
theorem alive8_any (w : World) :
    Calls Try.prog 7 #[] w fun e w' => e = .returned (.bool true) ∧ Below w.heap.size w w' := by
  have NM := normal_any (some ⟨w.heap.size, 0, none⟩) 2 [(3, 0, 5), (3, 5, 7)] (w.alloc (.cells #[.int .i64 3, .int .i64 0, .int .i64 5, .int .i64 3, .int .i64 5, .int .i64 7] 47)) (rdr_two (heap_alloc_new w _)) (by decide)
  rw [example_check, example_norm] at NM
  go_enter Try.func7, Try.ntmps7
  go_wp2_with (first
    | (go_at_call 10; refine NM.mono ?_; rintro e w1 ⟨v, rfl, ho, hb1⟩; obtain ⟨A, c, rfl, hr0, _⟩ := ho.read; have hr := Lib.hid hr0; clear ho hr0)
    | (go_at_call 12; refine (sameR_any A (some ⟨w1.heap.size, 0, none⟩) c 1 1 1 [(3, 0, 7)] [(3, 0, 7)] (w1.alloc (.cells #[.int .i64 3, .int .i64 0, .int .i64 7] 47)) (Lib.hid rfl) (Lib.hid rfl) (hr.out.below ((Below.refl _ _).alloc (Nat.le_refl _) _)) (rdr_one (heap_alloc_new w1 _)) (by decide)).mono ?_; rintro e w2 ⟨rfl, hb2⟩))
  go_ret
  have h1 := (((Below.refl w.heap.size w).alloc (Nat.le_refl _) (.cells #[.int .i64 3, .int .i64 0, .int .i64 5, .int .i64 3, .int .i64 5, .int .i64 7] 47)).trans (hb1.mono (by simp)))
  exact ⟨by simp, (h1.alloc h1.size _).trans (hb2.mono (by have := h1.size; simp; omega))⟩

end Go.Proofs.Ytbfjhhijhkhnkaa
