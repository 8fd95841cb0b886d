/- The chapter's examples of layer 2 hold: alive returns true. No conditions. -/
import Derived.Test.YteijjkdfffmikaaRows
import Derived.Test.YteijjkdfffmikaaBase
import Derived.Test.YteijjkdfffmikaaIvalLeaf
import Derived.Test.YteijjkdfffmikaaIvalTwo
import Derived.WalkKit
import Derived.WalkSpells
import Derived.WalkSmall
import Derived.Below
import Derived.Lib.Hide
import Derived.Outline
import Derived.OwnWalk
import Derived.Deep.RegionHeld3
namespace Go.Proofs.Yteijjkdfffmikaa
open Go.RowKit

theorem alive2_both (w : World) :
    Calls Try.prog 6 #[.agg #[.int .i64 2, .int .i64 5], .agg #[.int .i64 4, .int .i64 9]] w fun e w' => e = .returned (.tuple #[.agg #[.int .i64 4, .int .i64 5], .bool true]) ∧ Below w.heap.size w w' := by
  have h := both_any 2 5 4 9 w
  rwa [show bothv 2 5 4 9 = (4, 5, true) by decide] at h

theorem alive2_meets (w : World) :
    Calls Try.prog 10 #[.agg #[.int .i64 2, .int .i64 4], .agg #[.int .i64 4, .int .i64 6]] w fun e w' => e = .returned (.bool false) ∧ Below w.heap.size w w' := by
  have h := meets_any 2 4 4 6 w
  rwa [show bothv 2 4 4 6 = (0, 0, false) by decide] at h

theorem alive2_any (w : World) :
    Calls Try.prog 15 #[] w fun e w' => e = .returned (.bool true) ∧ Below w.heap.size w w' := by
  go_enter Try.func15, Try.ntmps15
  go_wp2_with (first | (go_at_call 6; refine (alive2_both _).mono ?_; rintro e w1 ⟨rfl, hb1⟩; obtain ⟨hc1, hf1⟩ := bcell hb1; have hz1 := hb1.size; (try simp at hz1)) | (go_at_call 10; refine (alive2_meets _).mono ?_; rintro e w2 ⟨rfl, hb2⟩; obtain ⟨hc2, hf2⟩ := bcell hb2; have hz2 := hb2.size; (try simp at hz2)))
  go_ret
  refine ⟨rfl, ?_⟩
  (repeat (first | exact Below.refl _ _ | (refine b_st ?_ (by first | (simp; done) | (simp; omega))) | (refine b_al ?_ (Nat.le_refl _) _) | refine b_dn ?_ | refine b_dr ?_ | (refine b_cl ?_ (Nat.le_refl _) (by assumption))))

end Go.Proofs.Yteijjkdfffmikaa
