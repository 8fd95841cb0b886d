/- What Step of layer 13 returns. Conditions: none. -/
import Derived.Test.YtojdaigilagppaaRows
import Derived.Test.YtojdaigilagppaaBase
import Derived.Test.YtojdaigilagppaaRow
import Derived.Test.YtojdaigilagppaaBookRow
import Derived.Test.YtojdaigilagppaaBookLim
import Derived.Test.YtojdaigilagppaaBookLaws
import Derived.Test.YtojdaigilagppaaRecMath
import Derived.Test.YtojdaigilagppaaRecHeap
import Derived.Test.YtojdaigilagppaaBox
import Derived.Test.YtojdaigilagppaaSpellMath
import Derived.Test.YtojdaigilagppaaMeterMath
import Derived.Test.YtojdaigilagppaaMeterRun
import Derived.WalkKit
import Derived.WalkSpells
import Derived.WalkSmall
import Derived.Below
import Derived.Lib.Hide
import Derived.BigQuiet
import Derived.OwnWalk
import Derived.Outline
import Derived.Great.BuildSlice
import Derived.Maps.RangeWalk
namespace Go.Proofs.Ytojdaigilagppaa
open Go.RowKit

theorem rdN_one {W : World} {g : Nat} {k : Int} (h : W.cell? ⟨g, 0, none⟩ = some (.int .i64 k)) : RdN W (some ⟨g, 0, none⟩) [k] := fun _ => by
  refine ⟨g, 0, rfl, c_lt h, fun j hj => ?_⟩
  have : j = 0 := by simpa using hj
  subst this
  exact h

set_option maxRecDepth 20000 in
theorem step13_any (x : Nat → Int) (m : Mt) (k : Int) (w : World) :
    Calls Try.prog 9 #[.agg (bk x), .agg (mt m), .int .i64 k] w fun e w' => e = .returned (.tuple #[.agg (mt (meterV x m [k]).1), .int .i64 ((meterV x m [k]).2.1 : Nat), .int .i64 (meterV x m [k]).2.2]) ∧ Below w.heap.size w w' := by
  have RN := fun W g h => run_any x m (some ⟨g, 0, none⟩) 1 [k] W (rdN_one h) (by simp)
  simp only [List.length_singleton] at RN
  generalize meterV x m [k] = V at RN ⊢
  obtain ⟨m', n', e'⟩ := V
  dsimp only at RN ⊢
  have RB : RdI (((w.alloc (.cells (bk x) 23)).alloc (.cells (mt m) 25)).alloc (.cells (mt .zero) 25)) w.heap.size 0 x := ((RdI.new x 23 rfl).alloc _).alloc _
  have BM : Bx (((w.alloc (.cells (bk x) 23)).alloc (.cells (mt m) 25)).alloc (.cells (mt .zero) 25)) (w.heap.size + 1) 25 (mt m) := (Bx.new (W := w.alloc (.cells (bk x) 23)) _ _ (by simp)).alloc _
  have BR : Bx (((w.alloc (.cells (bk x) 23)).alloc (.cells (mt m) 25)).alloc (.cells (mt .zero) 25)) (w.heap.size + 2) 25 (mt .zero) := Bx.new (W := (w.alloc (.cells (bk x) 23)).alloc (.cells (mt m) 25)) _ _ (by simp)
  have hB0 : Below w.heap.size w (((w.alloc (.cells (bk x) 23)).alloc (.cells (mt m) 25)).alloc (.cells (mt .zero) 25)) := b_al (b_al (b_al (Below.refl _ _) (Nat.le_refl _) _) (Nat.le_refl _) _) (Nat.le_refl _) _
  have CK : ((((w.alloc (.cells (bk x) 23)).alloc (.cells (mt m) 25)).alloc (.cells (mt .zero) 25)).alloc (.cells #[.int .i64 k] 3)).cell? ⟨w.heap.size + 1 + 1 + 1, 0, none⟩ = some (.int .i64 k) := (Bx.new (W := (((w.alloc (.cells (bk x) 23)).alloc (.cells (mt m) 25)).alloc (.cells (mt .zero) 25))) 3 #[.int .i64 k] (by simp)).cell rfl
  go_enter Try.func9, Try.ntmps9
  go_wp2_with (first
    | refine wpList_load_bk (by rfl) 23 _ rfl _ _ rfl x _ (RB) Try.underlying23 rfl (by kernel_rfl) ?_
    | refine wpList_load_box (by rfl) 25 _ rfl (w.heap.size + 1) rfl 25 _ _ BM Try.underlying25 rfl (by kernel_rfl) ?_
    | (go_at_call 18; (refine (RN _ _ CK).mono ?_); rintro e w1 ⟨rfl, hb1⟩; have BR1 := (BR.alloc _).below hb1)
    | refine wpList_store_box rfl 25 _ _ rfl (w.heap.size + 2) (mt m') rfl rfl 25 (mt .zero) BR1 (by kernel_rfl) rfl (mt_one _) (fun w2 u => ?_))
  refine bodyPost_ret (results_box3 Try.results9 _ _ (w.heap.size + 2) 25 (mt m') _ (.int .i64 (n' : Int)) (.int .i64 e') rfl u.box rfl rfl Try.underlying25 rfl (by kernel_rfl)) rfl ⟨rfl, ?_⟩
  exact (b_cl (b_al hB0 (by simp) _) (Nat.le_refl _) hb1).trans (u.bel _ (by omega))

end Go.Proofs.Ytojdaigilagppaa
