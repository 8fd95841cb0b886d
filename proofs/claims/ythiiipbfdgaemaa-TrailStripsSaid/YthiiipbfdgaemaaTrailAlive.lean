/- The chapter's example of layer 20 is answered as it is written. Conditions: none. -/
import Derived.Test.YthiiipbfdgaemaaRows
import Derived.Test.YthiiipbfdgaemaaZ1
import Derived.Test.YthiiipbfdgaemaaZ2
import Derived.Test.YthiiipbfdgaemaaErrandPast
import Derived.Test.YthiiipbfdgaemaaErrandFits
import Derived.Test.YthiiipbfdgaemaaErrandSpot
import Derived.Test.YthiiipbfdgaemaaErrandLeftC
import Derived.Test.YthiiipbfdgaemaaErrandOverC
import Derived.Test.YthiiipbfdgaemaaZ4
import Derived.Test.YthiiipbfdgaemaaTrailLeaf
import Derived.Test.YthiiipbfdgaemaaZ5
import Derived.Test.YthiiipbfdgaemaaTrailFollows
import Derived.Test.YthiiipbfdgaemaaTrailVis
import Derived.Test.YthiiipbfdgaemaaTrailVisitsC
import Derived.WalkKit
import Derived.WalkSpells
import Derived.WalkSmall
import Derived.Below
import Derived.Lib.Hide
import Derived.Outline
import Derived.Deep.DeepCutAuto
import Derived.OwnWalk
import Derived.BigQuiet
import Derived.Deep.QuietTactic
import Derived.Deep.LoopGhost
import Derived.WalkMore
import Derived.OrdersHeld
import Derived.Deep.RegionHeld3
namespace Go.Proofs.Ythiiipbfdgaemaa
open Go.RowKit

def exL : List Tk := [(2, 1, [(5, 9)])]
def exR : List Rc := [(3, 0, 2), (0, 2, 5), (2, 5, 6)]
theorem ex20_vis : visV exL (0, 0, 0) exR = ([(0, 5, 6)], 0) := by decide +kernel
theorem ex20_aud : audV exL (0, 0, 0) exR = ((1, 0, 0), [], 0) := by decide +kernel
theorem ex20_few : Few exL := by
  intro t ht
  unfold exL at ht
  simp at ht
  subst ht
  decide
/-- The world in which the example's lists lie. -/
abbrev exW (w : World) : World := ((w.alloc (.cells #[.int .i64 5, .int .i64 9] 56)).alloc (.cells #[.int .i64 2, .int .i64 1, .slice (some ⟨w.heap.size, 0, none⟩) 1 1] 53)).alloc (.cells #[.int .i64 3, .int .i64 0, .int .i64 2, .int .i64 0, .int .i64 2, .int .i64 5, .int .i64 2, .int .i64 5, .int .i64 6] 59)
theorem ex20_tasks (w : World) : RdK (exW w) (some ⟨w.heap.size + 1, 0, none⟩) exL := fun _ => by
  refine ⟨w.heap.size + 1, 0, rfl, by simp, fun k hk => ?_⟩
  obtain rfl : k = 0 := by unfold exL at hk; simp at hk; exact hk
  have hX : Bx (exW w) (w.heap.size + 1) 53 #[.int .i64 2, .int .i64 1, .slice (some ⟨w.heap.size, 0, none⟩) 1 1] := (Bx.new (W := w.alloc (.cells #[.int .i64 5, .int .i64 9] 56)) _ _ (by simp)).alloc _
  have hY : Bx (exW w) w.heap.size 56 #[.int .i64 5, .int .i64 9] := ((Bx.new (W := w) _ _ rfl).alloc _).alloc _
  refine ⟨some ⟨w.heap.size, 0, none⟩, 1, hX.cell (k := 0) rfl, hX.cell (k := 1) rfl, hX.cell (k := 2) rfl, fun _ => ⟨w.heap.size, 0, rfl, by simp; omega, fun j hj => ?_⟩⟩
  obtain rfl : j = 0 := by
    have : j < 1 := hj
    omega
  exact ⟨hY.cell (k := 0) rfl, hY.cell (k := 1) rfl⟩
theorem ex20_recs (w : World) : RdR (exW w) (some ⟨w.heap.size + 1 + 1, 0, none⟩) exR := fun _ => by
  have hX : Bx (exW w) (w.heap.size + 1 + 1) 59 #[.int .i64 3, .int .i64 0, .int .i64 2, .int .i64 0, .int .i64 2, .int .i64 5, .int .i64 2, .int .i64 5, .int .i64 6] := Bx.new (W := (w.alloc (.cells #[.int .i64 5, .int .i64 9] 56)).alloc (.cells #[.int .i64 2, .int .i64 1, .slice (some ⟨w.heap.size, 0, none⟩) 1 1] 53)) _ _ (by simp)
  refine ⟨w.heap.size + 1 + 1, 0, rfl, hX.lt, fun k hk => ?_⟩
  have hk3 : k < 3 := hk
  have : k = 0 ∨ k = 1 ∨ k = 2 := by omega
  rcases this with rfl | rfl | rfl
  · exact ⟨hX.cell (k := 0) rfl, hX.cell (k := 1) rfl, hX.cell (k := 2) rfl⟩
  · exact ⟨hX.cell (k := 3) rfl, hX.cell (k := 4) rfl, hX.cell (k := 5) rfl⟩
  · exact ⟨hX.cell (k := 6) rfl, hX.cell (k := 7) rfl, hX.cell (k := 8) rfl⟩

set_option maxRecDepth 20000 in
set_option maxHeartbeats 2000000 in
theorem alive20_any (w : World) :
    Calls Try.prog 7 #[] w fun e w' => e = .returned (.bool true) ∧ Below w.heap.size w w' := by
  have HK := Lib.hid (ex20_tasks w)
  have HR := Lib.hid (ex20_recs w)
  have HB0 := Lib.hid (show Below w.heap.size w (exW w) by (repeat (first | exact Below.refl _ _ | (refine b_st ?_ (by first | (simp; done) | (simp; omega))) | (refine b_al ?_ (Nat.le_refl _) _) | refine b_dn ?_ | refine b_dr ?_ | (refine b_cl ?_ (Nat.le_refl _) (by assumption)))))
  have CV := fun W (h : RdK W (some ⟨w.heap.size + 1, 0, none⟩) exL) (hr : RdR W (some ⟨w.heap.size + 1 + 1, 0, none⟩) exR) => visits20_any (some ⟨w.heap.size + 1, 0, none⟩) 1 1 exL rfl 0 0 0 (some ⟨w.heap.size + 1 + 1, 0, none⟩) 3 3 exR rfl W h ex20_few (by omega) (fun h => by cases h) (by omega) (by omega) hr (by omega) ex20_vis (m := 1) rfl
  have CF := fun W (h : RdK W (some ⟨w.heap.size + 1, 0, none⟩) exL) (hr : RdR W (some ⟨w.heap.size + 1 + 1, 0, none⟩) exR) => follows20_any (some ⟨w.heap.size + 1, 0, none⟩) 1 1 exL rfl 0 0 0 (some ⟨w.heap.size + 1 + 1, 0, none⟩) 3 3 exR rfl W h ex20_few (by omega) (fun h => by cases h) (by omega) (by omega) hr (by omega) ex20_aud
  simp only [and_self, decide_true] at CF
  go_enter Try.func7, Try.ntmps7
  go_wp2_with (first
    | go_skip
    | (go_at_call 12; refine (CV _ HK.out HR.out).mono ?_; rintro e w1 ⟨A2, c2, rfl, hrd, _, hb1⟩; obtain ⟨b, off, x, y, z, rfl, hbb, d0, d1, d2, hs⟩ := hrd.at_ (k := 0) (by decide); have hs2 := hs.out; simp at hs2; obtain ⟨rfl, rfl, rfl⟩ := hs2; (simp only [Nat.zero_mul, Nat.add_zero] at d0 d1 d2); have HB1 := Lib.hid (b_cl HB0.out (Nat.le_refl _) hb1); have HK1 := Lib.hid (HK.out.below hb1); have HR1 := Lib.hid (HR.out.below hb1); clear hrd hs hb1)
    | (go_at_call 11; refine (CF _ HK1.out HR1.out).mono ?_; rintro e w2 ⟨rfl, hb2⟩))
  go_ret
  exact ⟨rfl, b_cl HB1.out (Nat.le_refl _) hb2⟩

end Go.Proofs.Ythiiipbfdgaemaa
