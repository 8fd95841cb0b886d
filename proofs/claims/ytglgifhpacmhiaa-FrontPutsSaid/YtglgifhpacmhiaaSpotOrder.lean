/- What order of layer 24 returns, and that it makes memory alone. Conditions: none. -/
import Derived.Test.YtglgifhpacmhiaaRows
import Derived.Test.YtglgifhpacmhiaaBase
import Derived.Test.YtglgifhpacmhiaaRow
import Derived.Test.YtglgifhpacmhiaaRecHeap
import Derived.Test.YtglgifhpacmhiaaSortMath
import Derived.Test.YtglgifhpacmhiaaSortOrder
import Derived.WalkKit
import Derived.WalkSpells
import Derived.WalkSmall
import Derived.Below
import Derived.Outline
import Derived.OwnWalk
import Derived.Lib.Hide
import Derived.BigQuiet
import Derived.BigRegion
import Derived.Deep.RegionHeld3
import Derived.Sort.Grow
namespace Go.Proofs.Ytglgifhpacmhiaa
open Go.RowKit

set_option maxHeartbeats 1000000 in
theorem order_sp (a b c d e f : Int) (w : World) :
    Calls Try.prog 25 #[.agg #[.int .i64 a, .int .i64 b, .int .i64 c], .agg #[.int .i64 d, .int .i64 e, .int .i64 f]] w fun r w' => r = .returned (.int .i64 (ordF (a, b, c) (d, e, f))) ∧ Gr w w' := by
  have C1 := fun W => compare_any a d W
  have C2 := fun W => compare_any b e W
  have C3 := fun W => compare_any c f W
  have CO : ∀ (W : World) (N : Nat), W.cell? ⟨N, 0, none⟩ = some (.int .i64 (cmpv a d)) → W.cell? ⟨N, 1, none⟩ = some (.int .i64 (cmpv b e)) → W.cell? ⟨N, 2, none⟩ = some (.int .i64 (cmpv c f)) →
      Calls Try.prog 41 #[.slice (some ⟨N, 0, none⟩) 3 3] W fun r w' => r = .returned (.int .i64 (ordF (a, b, c) (d, e, f))) ∧ W = w' := fun W N h0 h1 h2 => or_any (some ⟨N, 0, none⟩) 3 3 _ W rfl (three_ints h0 h1 h2) (by omega)
  generalize ordF (a, b, c) (d, e, f) = z at CO
  generalize cmpv a d = x1 at C1 CO
  generalize cmpv b e = x2 at C2 CO
  generalize cmpv c f = x3 at C3 CO
  have HG : Hid (Gr w ((w.alloc (.cells #[.int .i64 a, .int .i64 b, .int .i64 c] 26)).alloc (.cells #[.int .i64 d, .int .i64 e, .int .i64 f] 26))) := Lib.hid (((Gr.refl w).alloc _).alloc _)
  have k0 : ((w.alloc (.cells #[.int .i64 a, .int .i64 b, .int .i64 c] 26)).alloc (.cells #[.int .i64 d, .int .i64 e, .int .i64 f] 26)).cell? ⟨w.heap.size, 0, none⟩ = some (.int .i64 a) := by simp
  have k1 : ((w.alloc (.cells #[.int .i64 a, .int .i64 b, .int .i64 c] 26)).alloc (.cells #[.int .i64 d, .int .i64 e, .int .i64 f] 26)).cell? ⟨w.heap.size, 1, none⟩ = some (.int .i64 b) := by simp
  have k2 : ((w.alloc (.cells #[.int .i64 a, .int .i64 b, .int .i64 c] 26)).alloc (.cells #[.int .i64 d, .int .i64 e, .int .i64 f] 26)).cell? ⟨w.heap.size, 2, none⟩ = some (.int .i64 c) := by simp
  have k3 : ((w.alloc (.cells #[.int .i64 a, .int .i64 b, .int .i64 c] 26)).alloc (.cells #[.int .i64 d, .int .i64 e, .int .i64 f] 26)).cell? ⟨w.heap.size + 1, 0, none⟩ = some (.int .i64 d) := by simp
  have k4 : ((w.alloc (.cells #[.int .i64 a, .int .i64 b, .int .i64 c] 26)).alloc (.cells #[.int .i64 d, .int .i64 e, .int .i64 f] 26)).cell? ⟨w.heap.size + 1, 1, none⟩ = some (.int .i64 e) := by simp
  have k5 : ((w.alloc (.cells #[.int .i64 a, .int .i64 b, .int .i64 c] 26)).alloc (.cells #[.int .i64 d, .int .i64 e, .int .i64 f] 26)).cell? ⟨w.heap.size + 1, 2, none⟩ = some (.int .i64 f) := by simp
  go_enter Try.func25, Try.ntmps25
  go_wp2
  refine wp_region_noPanic ?_
  refine wp_region_held_drew (S := fun w' => Gr ((w.alloc (.cells #[.int .i64 a, .int .i64 b, .int .i64 c] 26)).alloc (.cells #[.int .i64 d, .int .i64 e, .int .i64 f] 26)) w') (by kernel_rfl) ?_ (fun hHeld => ?_)
  · exact (Gr.refl _).drew
  refine wpAnyH_take (i := 0) (oi := ⟨some 5, _, _, _, _, _⟩) (v := ?_) rfl (by kernel_rfl) (by kernel_rfl) (by kernel_rfl) (fun _ _ _ h => h) (Or.inl ⟨by rfl, ?_⟩) (by assumption) ?_
  rotate_left
  · (intro w' hSw; (try dsimp only at hSw); have c0 := c_cl k0 (Gr.below hSw); have c1 := c_cl k1 (Gr.below hSw); have c2 := c_cl k2 (Gr.below hSw); have c3 := c_cl k3 (Gr.below hSw); have c4 := c_cl k4 (Gr.below hSw); have c5 := c_cl k5 (Gr.below hSw); go_simp; try (with_reducible rfl))
  (try simp only [Act.put, List.setIfInBounds_toArray, List.set_cons_zero, List.set_cons_succ])
  refine wpAnyH_take (i := 1) (oi := ⟨some 6, _, _, _, _, _⟩) (v := ?_) rfl (by kernel_rfl) (by kernel_rfl) (by kernel_rfl) (fun _ _ _ h => h) (Or.inl ⟨by rfl, ?_⟩) (by assumption) ?_
  rotate_left
  · (intro w' hSw; (try dsimp only at hSw); have c0 := c_cl k0 (Gr.below hSw); have c1 := c_cl k1 (Gr.below hSw); have c2 := c_cl k2 (Gr.below hSw); have c3 := c_cl k3 (Gr.below hSw); have c4 := c_cl k4 (Gr.below hSw); have c5 := c_cl k5 (Gr.below hSw); go_simp; try (with_reducible rfl))
  (try simp only [Act.put, List.setIfInBounds_toArray, List.set_cons_zero, List.set_cons_succ])
  refine wpAnyH_take (i := 2) (oi := ⟨some 7, _, _, _, _, _⟩) (v := ?_) rfl (by kernel_rfl) (by kernel_rfl) (by kernel_rfl) (fun _ _ _ h => h) (Or.inl ⟨by rfl, ?_⟩) (by assumption) ?_
  rotate_left
  · (intro w' hSw; (try dsimp only at hSw); have c0 := c_cl k0 (Gr.below hSw); have c1 := c_cl k1 (Gr.below hSw); have c2 := c_cl k2 (Gr.below hSw); have c3 := c_cl k3 (Gr.below hSw); have c4 := c_cl k4 (Gr.below hSw); have c5 := c_cl k5 (Gr.below hSw); go_simp; try (with_reducible rfl))
  (try simp only [Act.put, List.setIfInBounds_toArray, List.set_cons_zero, List.set_cons_succ])
  refine wpAnyH_take (i := 3) (oi := ⟨some 8, _, _, _, _, _⟩) (v := ?_) rfl (by kernel_rfl) (by kernel_rfl) (by kernel_rfl) (fun _ _ _ h => h) (Or.inl ⟨by rfl, ?_⟩) (by assumption) ?_
  rotate_left
  · (intro w' hSw; (try dsimp only at hSw); have c0 := c_cl k0 (Gr.below hSw); have c1 := c_cl k1 (Gr.below hSw); have c2 := c_cl k2 (Gr.below hSw); have c3 := c_cl k3 (Gr.below hSw); have c4 := c_cl k4 (Gr.below hSw); have c5 := c_cl k5 (Gr.below hSw); go_simp; try (with_reducible rfl))
  (try simp only [Act.put, List.setIfInBounds_toArray, List.set_cons_zero, List.set_cons_succ])
  refine wpAnyH_take (i := 5) (oi := ⟨some 10, _, _, _, _, _⟩) (v := ?_) rfl (by kernel_rfl) (by kernel_rfl) (by kernel_rfl) (fun _ _ _ h => h) (Or.inl ⟨by rfl, ?_⟩) (by assumption) ?_
  rotate_left
  · (intro w' hSw; (try dsimp only at hSw); have c0 := c_cl k0 (Gr.below hSw); have c1 := c_cl k1 (Gr.below hSw); have c2 := c_cl k2 (Gr.below hSw); have c3 := c_cl k3 (Gr.below hSw); have c4 := c_cl k4 (Gr.below hSw); have c5 := c_cl k5 (Gr.below hSw); go_simp; try (with_reducible rfl))
  (try simp only [Act.put, List.setIfInBounds_toArray, List.set_cons_zero, List.set_cons_succ])
  refine wpAnyH_take (i := 6) (oi := ⟨some 11, _, _, _, _, _⟩) (v := ?_) rfl (by kernel_rfl) (by kernel_rfl) (by kernel_rfl) (fun _ _ _ h => h) (Or.inl ⟨by rfl, ?_⟩) (by assumption) ?_
  rotate_left
  · (intro w' hSw; (try dsimp only at hSw); have c0 := c_cl k0 (Gr.below hSw); have c1 := c_cl k1 (Gr.below hSw); have c2 := c_cl k2 (Gr.below hSw); have c3 := c_cl k3 (Gr.below hSw); have c4 := c_cl k4 (Gr.below hSw); have c5 := c_cl k5 (Gr.below hSw); go_simp; try (with_reducible rfl))
  (try simp only [Act.put, List.setIfInBounds_toArray, List.set_cons_zero, List.set_cons_succ])
  refine wpAnyH_take (i := 7) (oi := ⟨some 12, _, _, _, _, _⟩) (v := ?_) rfl (by kernel_rfl) (by kernel_rfl) (by kernel_rfl) (fun _ _ _ h => h) (Or.inl ⟨by rfl, ?_⟩) (by assumption) ?_
  rotate_left
  · (intro w' hSw; (try dsimp only at hSw); have c0 := c_cl k0 (Gr.below hSw); have c1 := c_cl k1 (Gr.below hSw); have c2 := c_cl k2 (Gr.below hSw); have c3 := c_cl k3 (Gr.below hSw); have c4 := c_cl k4 (Gr.below hSw); have c5 := c_cl k5 (Gr.below hSw); go_simp; try (with_reducible rfl))
  (try simp only [Act.put, List.setIfInBounds_toArray, List.set_cons_zero, List.set_cons_succ])
  refine wpAnyH_take (i := 8) (oi := ⟨some 13, _, _, _, _, _⟩) (v := ?_) rfl (by kernel_rfl) (by kernel_rfl) (by kernel_rfl) (fun _ _ _ h => h) (Or.inl ⟨by rfl, ?_⟩) (by assumption) ?_
  rotate_left
  · (intro w' hSw; (try dsimp only at hSw); have c0 := c_cl k0 (Gr.below hSw); have c1 := c_cl k1 (Gr.below hSw); have c2 := c_cl k2 (Gr.below hSw); have c3 := c_cl k3 (Gr.below hSw); have c4 := c_cl k4 (Gr.below hSw); have c5 := c_cl k5 (Gr.below hSw); go_simp; try (with_reducible rfl))
  (try simp only [Act.put, List.setIfInBounds_toArray, List.set_cons_zero, List.set_cons_succ])
  refine wpAnyH_take (i := 10) (oi := ⟨some 15, _, _, _, _, _⟩) (v := ?_) rfl (by kernel_rfl) (by kernel_rfl) (by kernel_rfl) (fun _ _ _ h => h) (Or.inl ⟨by rfl, ?_⟩) (by assumption) ?_
  rotate_left
  · (intro w' hSw; (try dsimp only at hSw); have c0 := c_cl k0 (Gr.below hSw); have c1 := c_cl k1 (Gr.below hSw); have c2 := c_cl k2 (Gr.below hSw); have c3 := c_cl k3 (Gr.below hSw); have c4 := c_cl k4 (Gr.below hSw); have c5 := c_cl k5 (Gr.below hSw); go_simp; try (with_reducible rfl))
  (try simp only [Act.put, List.setIfInBounds_toArray, List.set_cons_zero, List.set_cons_succ])
  refine wpAnyH_take (i := 11) (oi := ⟨some 16, _, _, _, _, _⟩) (v := ?_) rfl (by kernel_rfl) (by kernel_rfl) (by kernel_rfl) (fun _ _ _ h => h) (Or.inl ⟨by rfl, ?_⟩) (by assumption) ?_
  rotate_left
  · (intro w' hSw; (try dsimp only at hSw); have c0 := c_cl k0 (Gr.below hSw); have c1 := c_cl k1 (Gr.below hSw); have c2 := c_cl k2 (Gr.below hSw); have c3 := c_cl k3 (Gr.below hSw); have c4 := c_cl k4 (Gr.below hSw); have c5 := c_cl k5 (Gr.below hSw); go_simp; try (with_reducible rfl))
  (try simp only [Act.put, List.setIfInBounds_toArray, List.set_cons_zero, List.set_cons_succ])
  refine wpAnyH_take (i := 12) (oi := ⟨some 17, _, _, _, _, _⟩) (v := ?_) rfl (by kernel_rfl) (by kernel_rfl) (by kernel_rfl) (fun _ _ _ h => h) (Or.inl ⟨by rfl, ?_⟩) (by assumption) ?_
  rotate_left
  · (intro w' hSw; (try dsimp only at hSw); have c0 := c_cl k0 (Gr.below hSw); have c1 := c_cl k1 (Gr.below hSw); have c2 := c_cl k2 (Gr.below hSw); have c3 := c_cl k3 (Gr.below hSw); have c4 := c_cl k4 (Gr.below hSw); have c5 := c_cl k5 (Gr.below hSw); go_simp; try (with_reducible rfl))
  (try simp only [Act.put, List.setIfInBounds_toArray, List.set_cons_zero, List.set_cons_succ])
  refine wpAnyH_take (i := 13) (oi := ⟨some 18, _, _, _, _, _⟩) (v := ?_) rfl (by kernel_rfl) (by kernel_rfl) (by kernel_rfl) (fun _ _ _ h => h) (Or.inl ⟨by rfl, ?_⟩) (by assumption) ?_
  rotate_left
  · (intro w' hSw; (try dsimp only at hSw); have c0 := c_cl k0 (Gr.below hSw); have c1 := c_cl k1 (Gr.below hSw); have c2 := c_cl k2 (Gr.below hSw); have c3 := c_cl k3 (Gr.below hSw); have c4 := c_cl k4 (Gr.below hSw); have c5 := c_cl k5 (Gr.below hSw); go_simp; try (with_reducible rfl))
  (try simp only [Act.put, List.setIfInBounds_toArray, List.set_cons_zero, List.set_cons_succ])
  refine wpAnyH_ready (rs := [4]) (by kernel_rfl) (by simp) ?_
  refine AllReadyH.cons (o := ⟨some 9, _, _, _, _, _⟩) rfl (fun K hK => ?_) AllReadyH.nil
  go_simp
  (go_at_call 42; (with_reducible refine (C1 _).mono ?_); rintro e w2 ⟨rfl, rfl⟩)
  try go_wp2_with fail
  refine hK.out _ _ (by (repeat (first | assumption | exact Gr.refl _ | refine Gr.alloc ?_ _ | refine Gr.drew ?_))) (fun hHeld => ?_)
  clear hK K
  (try simp only [Act.put, List.setIfInBounds_toArray, List.set_cons_zero, List.set_cons_succ])
  refine wpAnyH_ready (rs := [9]) (by kernel_rfl) (by simp) ?_
  refine AllReadyH.cons (o := ⟨some 14, _, _, _, _, _⟩) rfl (fun K hK => ?_) AllReadyH.nil
  go_simp
  (go_at_call 42; (with_reducible refine (C2 _).mono ?_); rintro e w2 ⟨rfl, rfl⟩)
  try go_wp2_with fail
  refine hK.out _ _ (by (repeat (first | assumption | exact Gr.refl _ | refine Gr.alloc ?_ _ | refine Gr.drew ?_))) (fun hHeld => ?_)
  clear hK K
  (try simp only [Act.put, List.setIfInBounds_toArray, List.set_cons_zero, List.set_cons_succ])
  refine wpAnyH_ready (rs := [14]) (by kernel_rfl) (by simp) ?_
  refine AllReadyH.cons (o := ⟨some 19, _, _, _, _, _⟩) rfl (fun K hK => ?_) AllReadyH.nil
  go_simp
  (go_at_call 42; (with_reducible refine (C3 _).mono ?_); rintro e w2 ⟨rfl, rfl⟩)
  try go_wp2_with fail
  refine hK.out _ _ (by (repeat (first | assumption | exact Gr.refl _ | refine Gr.alloc ?_ _ | refine Gr.drew ?_))) (fun hHeld => ?_)
  clear hK K
  (try simp only [Act.put, List.setIfInBounds_toArray, List.set_cons_zero, List.set_cons_succ])
  refine wpAnyH_ready (rs := [15]) (by kernel_rfl) (by simp) ?_
  refine AllReadyH.cons (o := ⟨some 20, _, _, _, _, _⟩) rfl (fun K hK => ?_) AllReadyH.nil
  go_simp
  try go_wp2_with fail
  refine hK.out _ _ (by (repeat (first | assumption | exact Gr.refl _ | refine Gr.alloc ?_ _ | refine Gr.drew ?_))) (fun hHeld => ?_)
  clear hK K
  (try simp only [Act.put, List.setIfInBounds_toArray, List.set_cons_zero, List.set_cons_succ])
  refine wpAnyH_ready (rs := [16]) (by kernel_rfl) (by simp) ?_
  refine AllReadyH.cons (o := ⟨some 21, _, _, _, _, _⟩) rfl (fun K hK => ?_) AllReadyH.nil
  go_simp
  (go_at_call 41; (with_reducible refine (CO _ _ ?_ ?_ ?_).mono ?_); (focus exact (new3 (by simp)).1); (focus exact (new3 (by simp)).2.1); (focus exact (new3 (by simp)).2.2); rintro e w3 ⟨rfl, rfl⟩)
  try go_wp2_with fail
  refine hK.out _ _ (by (repeat (first | assumption | exact Gr.refl _ | refine Gr.alloc ?_ _ | refine Gr.drew ?_))) (fun hHeld => ?_)
  clear hK K
  (try simp only [Act.put, List.setIfInBounds_toArray, List.set_cons_zero, List.set_cons_succ])
  refine wpAnyH_ready (rs := [17]) (by kernel_rfl) (by simp) ?_
  refine AllReadyH.cons (o := ⟨some 4, _, _, _, _, _⟩) rfl (fun K hK => ?_) AllReadyH.nil
  go_simp
  try go_wp2_with fail
  refine hK.out _ _ (by (repeat (first | assumption | exact Gr.refl _ | refine Gr.alloc ?_ _ | refine Gr.drew ?_))) (fun hHeld => ?_)
  clear hK K
  (try simp only [Act.put, List.setIfInBounds_toArray, List.set_cons_zero, List.set_cons_succ])
  refine wpAnyH_done (by kernel_rfl) ?_ _
  refine NoPanic.normal ?_
  go_wp2
  go_ret
  exact ⟨rfl, HG.out.trans (by (repeat (first | assumption | exact Gr.refl _ | refine Gr.alloc ?_ _ | refine Gr.drew ?_)))⟩

end Go.Proofs.Ytglgifhpacmhiaa
