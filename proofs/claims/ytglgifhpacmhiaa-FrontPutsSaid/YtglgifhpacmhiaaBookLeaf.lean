/- What laid, made, fixed, Europe and Numbers of layer 7 return, and the document's own, for any book. Conditions: none beyond each theorem's own premises. -/
import Derived.Test.YtglgifhpacmhiaaRows
import Derived.Test.YtglgifhpacmhiaaBase
import Derived.Test.YtglgifhpacmhiaaBookRow
import Derived.WalkKit
import Derived.WalkSpells
import Derived.WalkSmall
import Derived.Below
import Derived.Lib.Hide
import Derived.Outline
import Derived.Great.BuildSlice
namespace Go.Proofs.Ytglgifhpacmhiaa
open Go.RowKit

/-- What of a book must be the same in another. -/
def fixV (x : Nat → Int) : Nat → Int
  | 1 => x 1
  | 2 => x 2
  | 3 => x 3
  | 7 => x 7
  | 8 => x 8
  | 10 => x 10
  | 12 => x 12
  | 13 => x 13
  | 18 => x 18
  | _ => 0

/-- The European book's numbers. -/
def euV : Nat → Int
  | 0 => 270
  | 1 => 45
  | 2 => 15
  | 3 => 30
  | 4 => 540
  | 5 => 600
  | 6 => 2
  | 7 => 660
  | 8 => 540
  | 9 => 3
  | 10 => 180
  | 11 => 1440
  | 12 => 2700
  | 13 => 1440
  | 14 => 8640
  | 15 => 3360
  | 16 => 5400
  | 17 => 3600
  | 18 => 10080
  | _ => 0

set_option maxRecDepth 20000 in
theorem laid_any (x : Nat → Int) (w : World) :
    Calls Try.prog 34 #[.agg (bk x)] w fun e w' => e = .returned (.agg (bk x)) ∧ Below w.heap.size w w' := by
  have z0 := bk_at x 0 (by omega); have z1 := bk_at x 1 (by omega); have z2 := bk_at x 2 (by omega); have z3 := bk_at x 3 (by omega); have z4 := bk_at x 4 (by omega); have z5 := bk_at x 5 (by omega); have z6 := bk_at x 6 (by omega); have z7 := bk_at x 7 (by omega); have z8 := bk_at x 8 (by omega); have z9 := bk_at x 9 (by omega); have z10 := bk_at x 10 (by omega); have z11 := bk_at x 11 (by omega); have z12 := bk_at x 12 (by omega); have z13 := bk_at x 13 (by omega); have z14 := bk_at x 14 (by omega); have z15 := bk_at x 15 (by omega); have z16 := bk_at x 16 (by omega); have z17 := bk_at x 17 (by omega); have z18 := bk_at x 18 (by omega)
  go_enter Try.func34, Try.ntmps34
  go_wp2_with (first | refine wpList_build_as rfl 66 _ rfl (bk x) (by kernel_rfl) ?_ | refine wpList_store_new rfl 66 _ _ rfl _ (bk x) rfl rfl (by first | rfl | (simp; done)) (by kernel_rfl) rfl (bk_one x) ?_)
  refine bodyPost_ret (v := .agg (bk x)) (results_bk Try.results34 _ _ _ x _ (by rfl) (RdI.new x _ (by first | rfl | (simp; done))) Try.underlying66 rfl (by kernel_rfl)) rfl ⟨rfl, ?_⟩
  (repeat (first | exact Below.refl _ _ | (refine b_st ?_ (by first | (simp; done) | (simp; omega))) | (refine b_al ?_ (Nat.le_refl _) _) | refine b_dn ?_ | refine b_dr ?_ | (refine b_cl ?_ (Nat.le_refl _) (by assumption))))

set_option maxRecDepth 20000 in
theorem refeurope_any  (w : World) :
    Calls Try.prog 17 #[] w fun e w' => e = .returned (.agg (bk euV)) ∧ Below w.heap.size w w' := by
  go_enter Try.func17, Try.ntmps17
  go_wp2_with (first | refine wpList_build_as rfl 23 _ rfl (bk euV) (by kernel_rfl) ?_ | refine wpList_store_new rfl 23 _ _ rfl _ (bk euV) rfl rfl (by first | rfl | (simp; done)) (by kernel_rfl) rfl (bk_one euV) ?_)
  refine bodyPost_ret (v := .agg (bk euV)) (results_bk Try.results17 _ _ _ euV _ (by rfl) (RdI.new euV _ (by first | rfl | (simp; done))) Try.underlying23 rfl (by kernel_rfl)) rfl ⟨rfl, ?_⟩
  (repeat (first | exact Below.refl _ _ | (refine b_st ?_ (by first | (simp; done) | (simp; omega))) | (refine b_al ?_ (Nat.le_refl _) _) | refine b_dn ?_ | refine b_dr ?_ | (refine b_cl ?_ (Nat.le_refl _) (by assumption))))

end Go.Proofs.Ytglgifhpacmhiaa
