/- The chapter's example of layer 3 is answered as it is written. Conditions: none. -/
import Derived.Test.YtiaiehflhloefaaRows
import Derived.Test.YtiaiehflhloefaaBase
import Derived.Test.YtiaiehflhloefaaIvalsWords
import Derived.Test.YtiaiehflhloefaaIvalsOwn
import Derived.Test.YtiaiehflhloefaaIvalsSame
import Derived.Test.YtiaiehflhloefaaIvalsMakeC
import Derived.WalkKit
import Derived.WalkSpells
import Derived.WalkSmall
import Derived.Below
import Derived.Outline
import Derived.Lib.Hide
namespace Go.Proofs.Ytiaiehflhloefaa
open Go.RowKit

theorem example_set : setOf [(2, 4), (7, 9), (4, 5)] = [(2, 5), (7, 9)] := by
  refine (set_is ⟨?_, ?_⟩ fun m => ?_).symm
  · intro s hs; simp at hs; rcases hs with rfl | rfl <;> decide
  · simp
  · rw [Bool.eq_iff_iff, hasL_iff, hasL_iff]
    simp
    omega

/-- Spans that are written out. -/
theorem rds_lit3 {w : World} {g : Nat} {t : TypeId} {a b c d e f : Int} (h : w.heap[g]? = some (.cells #[.int .i64 a, .int .i64 b, .int .i64 c, .int .i64 d, .int .i64 e, .int .i64 f] t (0, 0))) : RdS w (some ⟨g, 0, none⟩) [(a, b), (c, d), (e, f)] := fun _ => by
  refine ⟨g, 0, rfl, ?_, fun k hk => ?_⟩
  · rcases Nat.lt_or_ge g w.heap.size with h1 | h1
    · exact h1
    · rw [Array.getElem?_eq_none h1] at h; cases h
  · rw [Nat.zero_add, cell_of_row w g _ _ t (0, 0) h, cell_of_row w g _ _ t (0, 0) h]
    match k, hk with
    | 0, _ => exact ⟨rfl, rfl⟩
    | 1, _ => exact ⟨rfl, rfl⟩
    | 2, _ => exact ⟨rfl, rfl⟩

theorem rds_lit2 {w : World} {g : Nat} {t : TypeId} {a b c d : Int} (h : w.heap[g]? = some (.cells #[.int .i64 a, .int .i64 b, .int .i64 c, .int .i64 d] t (0, 0))) : RdS w (some ⟨g, 0, none⟩) [(a, b), (c, d)] := fun _ => by
  refine ⟨g, 0, rfl, ?_, fun k hk => ?_⟩
  · rcases Nat.lt_or_ge g w.heap.size with h1 | h1
    · exact h1
    · rw [Array.getElem?_eq_none h1] at h; cases h
  · rw [Nat.zero_add, cell_of_row w g _ _ t (0, 0) h, cell_of_row w g _ _ t (0, 0) h]
    match k, hk with
    | 0, _ => exact ⟨rfl, rfl⟩
    | 1, _ => exact ⟨rfl, rfl⟩

set_option maxHeartbeats 400000 in
theorem alive3_any (w : World) :
    Calls Try.prog 8 #[] w fun e w' => e = .returned (.bool true) ∧ Below w.heap.size w w' := by
  have hm := makel_any (some ⟨w.heap.size, 0, none⟩) 3 [(2, 4), (7, 9), (4, 5)] (w.alloc (.cells #[.int .i64 2, .int .i64 4, .int .i64 7, .int .i64 9, .int .i64 4, .int .i64 5] 33)) (rds_lit3 (heap_alloc_new w _)) (by decide)
  rw [example_set] at hm
  go_enter Try.func8, Try.ntmps8
  go_wp2_with (first
    | (go_at_call 10; refine hm.mono ?_; rintro e w1 ⟨v, rfl, ho, hb1⟩; obtain ⟨A, c, rfl, hr0, _, _⟩ := ho.form; have hr := Lib.hid hr0; clear ho hr0)
    | (go_at_call 9; refine (same_any A (some ⟨w1.heap.size, 0, none⟩) c 2 [(2, 5), (7, 9)] [(2, 5), (7, 9)] (w1.alloc (.cells #[.int .i64 2, .int .i64 5, .int .i64 7, .int .i64 9] 33)) (hr.out.below ((Below.refl _ _).alloc (Nat.le_refl _) _)) (rds_lit2 (heap_alloc_new w1 _)) (by decide)).mono ?_; rintro e w2 ⟨rfl, hb2⟩))
  go_ret
  have h1 := (((Below.refl w.heap.size w).alloc (Nat.le_refl _) (.cells #[.int .i64 2, .int .i64 4, .int .i64 7, .int .i64 9, .int .i64 4, .int .i64 5] 33)).trans (hb1.mono (by simp)))
  exact ⟨by simp, (h1.alloc h1.size _).trans (hb2.mono (by have := h1.size; simp; omega))⟩

end Go.Proofs.Ytiaiehflhloefaa
