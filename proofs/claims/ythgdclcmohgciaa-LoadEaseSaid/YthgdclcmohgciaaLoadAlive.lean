/- The chapter's example of layer 21 is answered as it is written. Conditions: none. -/
import Derived.Test.YthgdclcmohgciaaRows
import Derived.Test.YthgdclcmohgciaaBase
import Derived.Test.YthgdclcmohgciaaRow
import Derived.Test.YthgdclcmohgciaaRecMath
import Derived.Test.YthgdclcmohgciaaRecHeap
import Derived.Test.YthgdclcmohgciaaIntsSame
import Derived.Test.YthgdclcmohgciaaLoadMath
import Derived.Test.YthgdclcmohgciaaLoadC
import Derived.WalkKit
import Derived.WalkSpells
import Derived.WalkSmall
import Derived.Below
import Derived.Outline
import Derived.OwnWalk
import Derived.Laws.OwnMore
import Derived.Lib.Hide
namespace Go.Proofs.Ythgdclcmohgciaa
open Go.RowKit

theorem lit_three (w : World) (a b c : Int) : RdN (w.alloc (.cells #[.int .i64 a, .int .i64 b, .int .i64 c] 3)) (some ⟨w.heap.size, 0, none⟩) [a, b, c] := by
  obtain ⟨A, q, e, h⟩ := OwnN.read (l := [a, b, c]) (World.ownsRow_lit (base := 0) (e := 3) (size := 1) w #[.int .i64 a, .int .i64 b, .int .i64 c] 3 (Nat.zero_le _) (by unfold maxLen; omega) rfl)
  injection e with e1 _ _
  rw [e1]; exact h
theorem lit_four (w : World) (a b c d : Int) : RdN (w.alloc (.cells #[.int .i64 a, .int .i64 b, .int .i64 c, .int .i64 d] 3)) (some ⟨w.heap.size, 0, none⟩) [a, b, c, d] := by
  obtain ⟨A, q, e, h⟩ := OwnN.read (l := [a, b, c, d]) (World.ownsRow_lit (base := 0) (e := 3) (size := 1) w #[.int .i64 a, .int .i64 b, .int .i64 c, .int .i64 d] 4 (Nat.zero_le _) (by unfold maxLen; omega) rfl)
  injection e with e1 _ _
  rw [e1]; exact h

theorem example_chk21 : chkL [5, -3, 2] = 0 := by decide
theorem example_legs21 : legsE [5, -3, 2] = [7, 2, 5, 3] := by decide

set_option maxHeartbeats 1000000 in
theorem alive21_any (w : World) :
    Calls Try.prog 6 #[] w fun e w' => e = .returned (.bool true) ∧ Below w.heap.size w w' := by
  have LG := legs21_any (some ⟨w.heap.size, 0, none⟩) 3 3 [5, -3, 2] (w.alloc (.cells #[.int .i64 5, .int .i64 (-3), .int .i64 2] 3)) (Lib.hid rfl) (lit_three w 5 (-3) 2)
  rw [example_chk21, example_legs21] at LG
  go_enter Try.func6, Try.ntmps6
  go_wp2_with (first
    | (go_at_call 7; (with_reducible refine LG.mono ?_); rintro e w1 ⟨v, rfl, ho, hb1⟩; obtain ⟨A, c, rfl, hr0⟩ := ho.read; have hr := Lib.hid hr0; clear ho hr0)
    | (go_at_call 11; (with_reducible refine (sameN_any A (some ⟨w1.heap.size, 0, none⟩) c 4 4 4 [7, 2, 5, 3] [7, 2, 5, 3] (w1.alloc (.cells #[.int .i64 7, .int .i64 2, .int .i64 5, .int .i64 3] 3)) (Lib.hid rfl) (Lib.hid rfl) (hr.out.below ((Below.refl _ _).alloc (Nat.le_refl _) _)) (lit_four w1 7 2 5 3) (by decide) (by decide)).mono ?_); rintro e w2 ⟨rfl, hb2⟩))
  go_ret
  have h1 := (((Below.refl w.heap.size w).alloc (Nat.le_refl _) (.cells #[.int .i64 5, .int .i64 (-3), .int .i64 2] 3)).trans (hb1.mono (by simp)))
  exact ⟨by simp, (h1.alloc h1.size _).trans (hb2.mono (by have := h1.size; simp; omega))⟩

end Go.Proofs.Ythgdclcmohgciaa
