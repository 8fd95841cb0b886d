/- The chapter's example of layer 23. Conditions: none. -/
import Derived.Test.YtpfmkggnnilknaaRows
import Derived.Test.YtpfmkggnnilknaaBase
import Derived.Test.YtpfmkggnnilknaaRow
import Derived.Test.YtpfmkggnnilknaaRecMath
import Derived.Test.YtpfmkggnnilknaaTriLt
import Derived.Test.YtpfmkggnnilknaaBox
import Derived.Test.YtpfmkggnnilknaaFindHeap
import Derived.Test.YtpfmkggnnilknaaTriHeap
import Derived.Test.YtpfmkggnnilknaaHeapMath
import Derived.Test.YtpfmkggnnilknaaHeapHeap
import Derived.Test.YtpfmkggnnilknaaHeapLeaf
import Derived.Test.YtpfmkggnnilknaaHeapApp
import Derived.Test.YtpfmkggnnilknaaHeapPile
import Derived.Test.YtpfmkggnnilknaaHeapLib
import Derived.Test.YtpfmkggnnilknaaHeapPush
import Derived.Test.YtpfmkggnnilknaaHeapLib2
import Derived.Test.YtpfmkggnnilknaaHeapC
import Derived.Test.YtpfmkggnnilknaaHeapC2
import Derived.Test.YtpfmkggnnilknaaHeapC3
import Derived.Test.YtpfmkggnnilknaaHeapC4
import Derived.WalkKit
import Derived.WalkSpells
import Derived.WalkSmall
import Derived.Below
import Derived.Lib.Hide
import Derived.BigQuiet
import Derived.Outline
import Derived.OwnWalk
import Derived.Deep.QuietTactic
import Derived.Deep.DeepCutAuto
import Derived.Deep.RegionWith
import Derived.Deep.LoopGhost
import Derived.Laws.CopyRow
import Derived.Laws.OwnMore
namespace Go.Proofs.Ytpfmkggnnilknaa
open Go.RowKit

theorem srt_example : srt [(5, 0, 0), (2, 0, 0), (9, 0, 0)] = [(2, 0, 0), (5, 0, 0), (9, 0, 0)] := by decide

theorem alive23_any (w : World) : Calls Try.prog 6 #[] w fun e w' => e = .returned (.bool true) ∧ Below w.heap.size w w' := by
  have HQ := Bx.new (W := w) 28 #[.int .i64 5, .int .i64 0, .int .i64 0, .int .i64 2, .int .i64 0, .int .i64 0, .int .i64 9, .int .i64 0, .int .i64 0] rfl
  have HR : RdF (w.alloc (.cells #[.int .i64 5, .int .i64 0, .int .i64 0, .int .i64 2, .int .i64 0, .int .i64 0, .int .i64 9, .int .i64 0, .int .i64 0] 28)) (some ⟨w.heap.size, 0, none⟩) [(5, 0, 0), (2, 0, 0), (9, 0, 0)] := fun _ => ⟨w.heap.size, 0, rfl, HQ.lt, fun k hk => by
    have hk3 : k < 3 := hk
    rcases (show k = 0 ∨ k = 1 ∨ k = 2 by omega) with rfl | rfl | rfl
    · exact ⟨HQ.cell (k := 0) rfl, HQ.cell (k := 1) rfl, HQ.cell (k := 2) rfl⟩
    · exact ⟨HQ.cell (k := 3) rfl, HQ.cell (k := 4) rfl, HQ.cell (k := 5) rfl⟩
    · exact ⟨HQ.cell (k := 6) rfl, HQ.cell (k := 7) rfl, HQ.cell (k := 8) rfl⟩⟩
  have CN := new23_any (some ⟨w.heap.size, 0, none⟩) 3 3 _ _ rfl HR (by omega)
  rw [srt_example] at CN
  have HB := Lib.hid (show Below w.heap.size w (w.alloc (.cells #[.int .i64 5, .int .i64 0, .int .i64 0, .int .i64 2, .int .i64 0, .int .i64 0, .int .i64 9, .int .i64 0, .int .i64 0] 28)) from b_al (Below.refl _ _) (Nat.le_refl _) _)
  clear HQ HR
  go_enter Try.func6, Try.ntmps6
  go_wp2_with (first
    | (go_at_call 12; refine CN.mono ?_; rintro e w1 ⟨g, b, rfl, h1, h2, h3, h4⟩; have H1 := Lib.hid h1; have HB1 := Lib.hid (b_cl HB.out (Nat.le_refl _) h2); clear h1 h2)
    | (go_at_call 9; refine (peek23_some H1.out).mono ?_; unfold itV; rintro e w2 ⟨rfl, h2⟩; have HB2 := Lib.hid (b_cl HB1.out (Nat.le_refl _) h2); clear h2))
  go_ret
  exact ⟨rfl, b_al HB2.out (Nat.le_refl _) _⟩

end Go.Proofs.Ytpfmkggnnilknaa
