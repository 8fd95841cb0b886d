/- The chapter's examples of layer 1 hold: 'alive' returns true. No conditions. -/
import Derived.Test.YtpnfdeconinaoaaRows
import Derived.Test.YtpnfdeconinaoaaMath
import Derived.Test.YtpnfdeconinaoaaDiv
import Derived.Test.YtpnfdeconinaoaaAdd
import Derived.Test.YtpnfdeconinaoaaUp
import Derived.WalkKit
import Derived.WalkSpells
import Derived.WalkSmall
import Derived.Lib.Hide
namespace Go.Proofs.Ytpnfdeconinaoaa
open Go.RowKit

theorem alive_div (w : World) :
    Calls Try.prog 12 #[.int .i64 (-7), .int .i64 5] w fun e w' => e = .returned (.tuple #[.int .i64 (-2), .int .i64 3, .int .i64 0]) ∧ ∃ n, w' = w.drewN n := by
  have h := div_any (-7) 5 w (by decide) (by decide)
  rwa [show dv (-7) 5 = (-2, 3, 0) by decide] at h
theorem alive_up (w : World) :
    Calls Try.prog 16 #[.int .i64 7, .int .i64 5] w fun e w' => e = .returned (.tuple #[.int .i64 10, .int .i64 0]) ∧ Below w.heap.size w w' := by
  have h := up_any 7 5 w (by decide) (by decide)
  rwa [show upv 7 5 = (10, 0) by decide] at h
theorem alive_add (b cap : Nat) (w : World) (h0 : w.cell? ⟨b, 0, none⟩ = some (.int .i64 9223372036854775807)) (h1 : w.cell? ⟨b, 1, none⟩ = some (.int .i64 1)) :
    Calls Try.prog 8 #[.slice (some ⟨b, 0, none⟩) 2 cap] w fun e w' => e = .returned (.tuple #[.int .i64 0, .int .i64 19]) ∧ w = w' := by
  have h := add_two b cap 9223372036854775807 1 w h0 h1 (by decide) (by decide)
  rwa [fit_hi _ (by decide)] at h
theorem alive_any (w : World) :
    Calls Try.prog 7 #[] w fun e w' => e = .returned (.bool true) ∧ Below w.heap.size w w' := by
  go_enter Try.func7, Try.ntmps7
  go_wp2_with (first | (go_at_call 12; refine (alive_div _).mono ?_; rintro e w' ⟨rfl, k, rfl⟩) | (go_at_call 16; refine (alive_up _).mono ?_; rintro e w1 ⟨rfl, hb⟩) | (go_at_call 8; go_must (refine (alive_add _ _ _ (by exact (two_cells w1 _ _ _).1) (by exact (two_cells w1 _ _ _).2)).mono ?_); rintro e w' ⟨rfl, rfl⟩))
  go_ret
  exact ⟨rfl, ((below_drewN (Below.refl _ _) k).trans hb).alloc hb.size _⟩

end Go.Proofs.Ytpnfdeconinaoaa
