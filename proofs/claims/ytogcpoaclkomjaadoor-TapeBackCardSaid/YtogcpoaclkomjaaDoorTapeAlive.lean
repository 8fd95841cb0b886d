/- The chapter's example of layer 10 is answered as it is written. Conditions: the program's listed variables are laid. -/
import Derived.Test.YtogcpoaclkomjaaDoorTapePrint
import Derived.WalkKit
import Derived.WalkSpells
import Derived.WalkSmall
import Derived.Outline
import Derived.OwnWalk
import Derived.Lib.Hide
import Derived.Lib.SlicesS
namespace Go.Proofs.YtogcpoaclkomjaaDoor
open Go.RowKit

theorem example_line : (lineB 3 0 5).data.toList = [68, 32, 48, 45, 53] := by
  rw [line_list, told_list, itoa_pos (by decide), itoa_pos (by decide), show (0 : Int).toNat = 0 from rfl, show (5 : Int).toNat = 5 from rfl, dec_small (by decide), dec_small (by decide)]
  rfl

theorem example_tape : printV [(3, 0, 5)] = (⟨#[68, 32, 48, 45, 53, 10]⟩, 0) := by
  rw [print_ok (by rw [check_one]; decide)]
  have e : textL [(3, 0, 5)] = (lineB 3 0 5).data.toList ++ [10] := by simp [textL, endedL, lineR]
  rw [e, example_line]
  rfl

set_option maxHeartbeats 1000000 in
theorem alive10_any (w : World) (hl : Laid6 w) :
    Calls Tryd.prog 6 #[] w fun e w' => e = .returned (.bool true) ∧ Below w.heap.size w w' := by
  have OF := print10_any (some ⟨w.heap.size, 0, none⟩) 1 [(3, 0, 5)] (w.alloc (.cells #[.int .i64 3, .int .i64 0, .int .i64 5] 23)) (hl.below ((Below.refl _ _).alloc (Nat.le_refl _) _)) (one_read (by simp) (by simp) (by simp)) (by decide)
  rw [example_tape] at OF
  have e1 : ((⟨#[68, 32, 48, 45, 53, 10]⟩ : ByteArray) == (⟨#[68, 32, 48, 45, 53, 10]⟩ : ByteArray)) = true := by rfl
  go_enter Tryd.func6, Tryd.ntmps6
  go_wp2_with (go_at_call 11; refine OF.mono ?_; rintro e w1 ⟨rfl, hb1⟩)
  go_ret
  exact ⟨rfl, (((Below.refl w.heap.size w).alloc (Nat.le_refl _) (.cells #[.int .i64 3, .int .i64 0, .int .i64 5] 23)).trans (hb1.mono (by simp)))⟩

end Go.Proofs.YtogcpoaclkomjaaDoor
