/- The order of layer 17: ways by a book that may be. Conditions: each theorem's own. -/
import Derived.Test.YtojdaigilagppaaRows
import Derived.Test.YtojdaigilagppaaBase
import Derived.Test.YtojdaigilagppaaRow
import Derived.Test.YtojdaigilagppaaBookRow
import Derived.Test.YtojdaigilagppaaBookLim
import Derived.Test.YtojdaigilagppaaBookLaws
import Derived.Test.YtojdaigilagppaaBox
import Derived.Test.YtojdaigilagppaaSpellMath
import Derived.Test.YtojdaigilagppaaMeterMath
import Derived.Test.YtojdaigilagppaaMeterChk
import Derived.Test.YtojdaigilagppaaBookMayR
import Derived.Test.YtojdaigilagppaaMeterMayR
import Derived.Test.YtojdaigilagppaaMeterLaws
import Derived.Test.YtojdaigilagppaaBelowC
import Derived.Test.YtojdaigilagppaaBelowAlive
import Derived.Test.YtojdaigilagppaaBelowBoth
import Derived.Test.YtojdaigilagppaaBelowMath
import Derived.WalkKit
import Derived.WalkSpells
import Derived.WalkSmall
import Derived.Below
import Derived.Lib.Hide
import Derived.BigQuiet
import Derived.OwnWalk
import Derived.Outline
import Derived.Maps.RangeWalk
import Derived.Deep.DeepCutAuto
import Derived.OrdersHeld
import Derived.Deep.RegionHeld3
namespace Go.Proofs.Ytojdaigilagppaa
open Go.RowKit
namespace belowOrder
set_option linter.unusedVariables false

open Classical in
set_option maxRecDepth 100000 in
set_option maxHeartbeats 4000000 in
theorem may_a (w : World) (x0 : Nat → Int) (s1 t1 m2 : Mt) (hx : May x0) (p : ¬ Un x0 s1 t1) :
    Calls Try.prog 5 #[.agg (bk x0), .agg (bo s1 t1), .agg (mt m2)] w fun e w' => e = .returned (.bool true) ∧ Below w.heap.size w w' := by
  have XB : Bx (((w.alloc (.cells (bk x0) 23)).alloc (.cells (bo s1 t1) 29)).alloc (.cells (mt m2) 25)) w.heap.size 23 (bk x0) := ((Bx.new (W := w) _ _ rfl).alloc _).alloc _
  have XT : Bx (((w.alloc (.cells (bk x0) 23)).alloc (.cells (bo s1 t1) 29)).alloc (.cells (mt m2) 25)) (w.heap.size + 1) 29 (bo s1 t1) := (Bx.new (W := w.alloc (.cells (bk x0) 23)) _ _ (by simp)).alloc _
  have XZ : Bx (((w.alloc (.cells (bk x0) 23)).alloc (.cells (bo s1 t1) 29)).alloc (.cells (mt m2) 25)) (w.heap.size + 1 + 1) 25 (mt m2) := Bx.new (W := (w.alloc (.cells (bk x0) 23)).alloc (.cells (bo s1 t1) 29)) _ _ (by simp)
  have B0 : Below w.heap.size w (((w.alloc (.cells (bk x0) 23)).alloc (.cells (bo s1 t1) 29)).alloc (.cells (mt m2) 25)) := b_al (b_al (b_al (Below.refl _ _) (Nat.le_refl _) _) (Nat.le_refl _) _) (Nat.le_refl _) _
  have M1 := fun W => refmay_any x0 W
  simp only [if_pos hx] at M1
  have M2 := fun W => refmay13_any m2 W
  have U0 := fun W => under17_any x0 m2 m2 W
  have ez : tf (Un x0 m2 m2) = (if MayM m2 then true else false) := by
    by_cases hz : MayM m2
    · rw [if_pos hz, tf_yes (Un.self.2 ⟨hx, hz⟩)]
    · rw [if_neg hz, tf_no (fun h => hz (Un.self.1 h).2)]
  rw [ez] at U0
  generalize (if MayM m2 then true else false) = vz at U0 M2
  clear ez
  have U1 := fun W => under17_any x0 s1 t1 W
  simp only [tf_no p] at U1
  have U2 := fun W => under17_any x0 s1 t1 W
  simp only [tf_no p] at U2
  clear hx p
  go_enter Try.func5, Try.ntmps5
  go_upto_region 1 with fail
  (try go_frame)
  generalize (((w.alloc (.cells (bk x0) 23)).alloc (.cells (bo s1 t1) 29)).alloc (.cells (mt m2) 25)) = w0 at *
  refine wp_region_noPanic ?_
  refine wp_region_held_drew (S := fun w' => Below w0.heap.size w0 w') (by kernel_rfl) ?_ (fun hHeld => ?_)
  · exact b_dr (Below.refl _ _)
  refine wpAnyH_take (i := 0) (oi := ⟨some 7, _, _, _, _, _⟩) (v := .agg (bk x0)) rfl (by kernel_rfl) (by kernel_rfl) (by kernel_rfl) (fun _ _ _ h => h) (Or.inl ⟨by rfl, fun w' hSw => exec_load_box (w.heap.size) 23 (bk x0) _ w' rfl rfl (XB.keep hSw XB.lt) Try.underlying23 rfl (by kernel_rfl)⟩) (by assumption) ?_
  (try simp only [Act.put, List.setIfInBounds_toArray, List.set_cons_zero, List.set_cons_succ])
  refine wpAnyH_take (i := 1) (oi := ⟨some 8, _, _, _, _, _⟩) (v := .agg (mt m2)) rfl (by kernel_rfl) (by kernel_rfl) (by kernel_rfl) (fun _ _ _ h => h) (Or.inl ⟨by rfl, fun w' hSw => exec_load_box (w.heap.size + 1 + 1) 25 (mt m2) _ w' rfl rfl (XZ.keep hSw XZ.lt) Try.underlying25 rfl (by kernel_rfl)⟩) (by assumption) ?_
  (try simp only [Act.put, List.setIfInBounds_toArray, List.set_cons_zero, List.set_cons_succ])
  refine wpAnyH_take (i := 2) (oi := ⟨some 9, _, _, _, _, _⟩) (v := .agg (mt m2)) rfl (by kernel_rfl) (by kernel_rfl) (by kernel_rfl) (fun _ _ _ h => h) (Or.inl ⟨by rfl, fun w' hSw => exec_load_box (w.heap.size + 1 + 1) 25 (mt m2) _ w' rfl rfl (XZ.keep hSw XZ.lt) Try.underlying25 rfl (by kernel_rfl)⟩) (by assumption) ?_
  (try simp only [Act.put, List.setIfInBounds_toArray, List.set_cons_zero, List.set_cons_succ])
  refine wpAnyH_take (i := 4) (oi := ⟨some 11, _, _, _, _, _⟩) (v := .agg (bk x0)) rfl (by kernel_rfl) (by kernel_rfl) (by kernel_rfl) (fun _ _ _ h => h) (Or.inl ⟨by rfl, fun w' hSw => exec_load_box (w.heap.size) 23 (bk x0) _ w' rfl rfl (XB.keep hSw XB.lt) Try.underlying23 rfl (by kernel_rfl)⟩) (by assumption) ?_
  (try simp only [Act.put, List.setIfInBounds_toArray, List.set_cons_zero, List.set_cons_succ])
  refine wpAnyH_ready (rs := [3]) (by kernel_rfl) (by simp) ?_
  refine AllReadyH.cons (o := ⟨some 10, _, _, _, _, _⟩) rfl (fun K hK => ?_) AllReadyH.nil
  go_simp
  (go_at_call 6; (with_reducible refine (U0 _).mono ?_); rintro e w1 ⟨rfl, hb1⟩)
  go_wp2_with fail
  refine hK.out _ _ (b_cl hHeld (Nat.le_refl _) (by assumption)) (fun hHeld => ?_)
  clear hK K
  (try simp only [Act.put, List.setIfInBounds_toArray, List.set_cons_zero, List.set_cons_succ])
  refine wpAnyH_ready (rs := [5]) (by kernel_rfl) (by simp) ?_
  refine AllReadyH.cons (o := ⟨some 12, _, _, _, _, _⟩) rfl (fun K hK => ?_) AllReadyH.nil
  go_simp
  (go_at_call 10; (with_reducible refine (M1 _).mono ?_); rintro e w2 ⟨rfl, hb2⟩)
  go_wp2_with fail
  refine hK.out _ _ (b_cl hHeld (Nat.le_refl _) (by assumption)) (fun hHeld => ?_)
  clear hK K
  (try simp only [Act.put, List.setIfInBounds_toArray, List.set_cons_zero, List.set_cons_succ])
  refine wpAnyH_take (i := 6) (oi := ⟨some 13, _, _, _, _, _⟩) (v := ?_) rfl (by kernel_rfl) (by kernel_rfl) (by kernel_rfl) (fun _ _ _ h => h) (Or.inl ⟨by rfl, ?_⟩) (by assumption) ?_
  rotate_left
  · (intro w' hSw; clear hSw; go_simp; try (with_reducible rfl))
  (try simp only [Act.put, List.setIfInBounds_toArray, List.set_cons_zero, List.set_cons_succ])
  refine wpAnyH_take (i := 7) (oi := ⟨some 14, _, _, _, _, _⟩) (v := .agg (mt m2)) rfl (by kernel_rfl) (by kernel_rfl) (by kernel_rfl) (fun _ _ _ h => h) (Or.inl ⟨by rfl, fun w' hSw => exec_load_box (w.heap.size + 1 + 1) 25 (mt m2) _ w' rfl rfl (XZ.keep hSw XZ.lt) Try.underlying25 rfl (by kernel_rfl)⟩) (by assumption) ?_
  (try simp only [Act.put, List.setIfInBounds_toArray, List.set_cons_zero, List.set_cons_succ])
  refine wpAnyH_ready (rs := [8]) (by kernel_rfl) (by simp) ?_
  refine AllReadyH.cons (o := ⟨some 15, _, _, _, _, _⟩) rfl (fun K hK => ?_) AllReadyH.nil
  go_simp
  (go_at_call 11; (with_reducible refine (M2 _).mono ?_); rintro e w3 ⟨rfl, hb3⟩)
  go_wp2_with fail
  refine hK.out _ _ (b_cl hHeld (Nat.le_refl _) (by assumption)) (fun hHeld => ?_)
  clear hK K
  (try simp only [Act.put, List.setIfInBounds_toArray, List.set_cons_zero, List.set_cons_succ])
  refine wpAnyH_take (i := 9) (oi := ⟨some 16, _, _, _, _, _⟩) (v := ?_) rfl (by kernel_rfl) (by kernel_rfl) (by kernel_rfl) (fun _ _ _ h => h) (Or.inl ⟨by rfl, ?_⟩) (by assumption) ?_
  rotate_left
  · (intro w' hSw; clear hSw; go_simp; try (with_reducible rfl))
  (try simp only [Act.put, List.setIfInBounds_toArray, List.set_cons_zero, List.set_cons_succ])
  refine wpAnyH_take (i := 10) (oi := ⟨some 17, _, _, _, _, _⟩) (v := ?_) rfl (by kernel_rfl) (by kernel_rfl) (by kernel_rfl) (fun _ _ _ h => h) (Or.inl ⟨by rfl, ?_⟩) (by assumption) ?_
  rotate_left
  · (intro w' hSw; clear hSw; go_simp; try (with_reducible rfl))
  (try simp only [Act.put, List.setIfInBounds_toArray, List.set_cons_zero, List.set_cons_succ])
  refine wpAnyH_done (by kernel_rfl) ?_ _
  refine NoPanic.normal ?_
  have XB4 := XB.keep hHeld XB.lt
  have XT4 := XT.keep hHeld XT.lt
  have XZ4 := XZ.keep hHeld XZ.lt
  have B4 := b_cl B0 (Nat.le_refl _) hHeld
  clear hHeld XB XT XZ B0
  go_wp2_with (first
      | go_skip
      | refine wpList_load_box (by rfl) 23 _ rfl (w.heap.size) rfl 23 (bk x0) _ (by assumption) Try.underlying23 rfl (by kernel_rfl) ?_
      | refine wpList_load_of17 (by rfl) 25 _ rfl (w.heap.size + 1) 0 rfl (mt s1) _ (bo_fst (T := 29) (s := s1) (t := t1) (by assumption)) Try.underlying25 rfl (by kernel_rfl) ?_
      | refine wpList_load_of17 (by rfl) 25 _ rfl (w.heap.size + 1) 14 rfl (mt t1) _ (bo_snd (T := 29) (s := s1) (t := t1) (by assumption)) Try.underlying25 rfl (by kernel_rfl) ?_
      | refine wpList_load_box (by rfl) 25 _ rfl (w.heap.size + 1 + 1) rfl 25 (mt m2) _ (by assumption) Try.underlying25 rfl (by kernel_rfl) ?_
      | (go_at_call 6; (with_reducible refine (U1 _).mono ?_); rintro e w5 ⟨rfl, hb5⟩; have XB5 := XB4.below hb5; have XT5 := XT4.below hb5; have XZ5 := XZ4.below hb5; have B5 := b_cl B4 (Nat.le_refl _) hb5; clear U1)
      | (go_at_call 6; (with_reducible refine (U2 _).mono ?_); rintro e w6 ⟨rfl, hb6⟩; have XB6 := XB5.below hb6; have XT6 := XT5.below hb6; have XZ6 := XZ5.below hb6; have B6 := b_cl B5 (Nat.le_refl _) hb6; clear U2)
      | refine wpList_neq_mt (by rfl) rfl s1 s1 true rfl rfl (Mt.eqB_self _) ?_
      | (go_at_call 8; (with_reducible refine (alive17_any _).mono ?_); rintro e w99 ⟨rfl, hb99⟩))
  go_ret
  exact ⟨rfl, b_cl (by assumption) (Nat.le_refl _) hb99⟩

open Classical in
set_option maxRecDepth 100000 in
set_option maxHeartbeats 4000000 in
theorem may_b (w : World) (x0 : Nat → Int) (s1 t1 m2 : Mt) (hx : May x0) (p : Un x0 s1 t1) (p2 : ¬ Un x0 t1 s1) (q : ¬ Un x0 t1 m2) :
    Calls Try.prog 5 #[.agg (bk x0), .agg (bo s1 t1), .agg (mt m2)] w fun e w' => e = .returned (.bool true) ∧ Below w.heap.size w w' := by
  have XB : Bx (((w.alloc (.cells (bk x0) 23)).alloc (.cells (bo s1 t1) 29)).alloc (.cells (mt m2) 25)) w.heap.size 23 (bk x0) := ((Bx.new (W := w) _ _ rfl).alloc _).alloc _
  have XT : Bx (((w.alloc (.cells (bk x0) 23)).alloc (.cells (bo s1 t1) 29)).alloc (.cells (mt m2) 25)) (w.heap.size + 1) 29 (bo s1 t1) := (Bx.new (W := w.alloc (.cells (bk x0) 23)) _ _ (by simp)).alloc _
  have XZ : Bx (((w.alloc (.cells (bk x0) 23)).alloc (.cells (bo s1 t1) 29)).alloc (.cells (mt m2) 25)) (w.heap.size + 1 + 1) 25 (mt m2) := Bx.new (W := (w.alloc (.cells (bk x0) 23)).alloc (.cells (bo s1 t1) 29)) _ _ (by simp)
  have B0 : Below w.heap.size w (((w.alloc (.cells (bk x0) 23)).alloc (.cells (bo s1 t1) 29)).alloc (.cells (mt m2) 25)) := b_al (b_al (b_al (Below.refl _ _) (Nat.le_refl _) _) (Nat.le_refl _) _) (Nat.le_refl _) _
  have M1 := fun W => refmay_any x0 W
  simp only [if_pos hx] at M1
  have M2 := fun W => refmay13_any m2 W
  have U0 := fun W => under17_any x0 m2 m2 W
  have ez : tf (Un x0 m2 m2) = (if MayM m2 then true else false) := by
    by_cases hz : MayM m2
    · rw [if_pos hz, tf_yes (Un.self.2 ⟨hx, hz⟩)]
    · rw [if_neg hz, tf_no (fun h => hz (Un.self.1 h).2)]
  rw [ez] at U0
  generalize (if MayM m2 then true else false) = vz at U0 M2
  clear ez
  have U1 := fun W => under17_any x0 s1 t1 W
  simp only [tf_yes p] at U1
  have U2 := fun W => under17_any x0 t1 m2 W
  simp only [tf_no q] at U2
  have U3 := fun W => under17_any x0 s1 t1 W
  simp only [tf_yes p] at U3
  have U4 := fun W => under17_any x0 t1 s1 W
  simp only [tf_no p2] at U4
  clear hx p p2 q
  go_enter Try.func5, Try.ntmps5
  go_upto_region 1 with fail
  (try go_frame)
  generalize (((w.alloc (.cells (bk x0) 23)).alloc (.cells (bo s1 t1) 29)).alloc (.cells (mt m2) 25)) = w0 at *
  refine wp_region_noPanic ?_
  refine wp_region_held_drew (S := fun w' => Below w0.heap.size w0 w') (by kernel_rfl) ?_ (fun hHeld => ?_)
  · exact b_dr (Below.refl _ _)
  refine wpAnyH_take (i := 0) (oi := ⟨some 7, _, _, _, _, _⟩) (v := .agg (bk x0)) rfl (by kernel_rfl) (by kernel_rfl) (by kernel_rfl) (fun _ _ _ h => h) (Or.inl ⟨by rfl, fun w' hSw => exec_load_box (w.heap.size) 23 (bk x0) _ w' rfl rfl (XB.keep hSw XB.lt) Try.underlying23 rfl (by kernel_rfl)⟩) (by assumption) ?_
  (try simp only [Act.put, List.setIfInBounds_toArray, List.set_cons_zero, List.set_cons_succ])
  refine wpAnyH_take (i := 1) (oi := ⟨some 8, _, _, _, _, _⟩) (v := .agg (mt m2)) rfl (by kernel_rfl) (by kernel_rfl) (by kernel_rfl) (fun _ _ _ h => h) (Or.inl ⟨by rfl, fun w' hSw => exec_load_box (w.heap.size + 1 + 1) 25 (mt m2) _ w' rfl rfl (XZ.keep hSw XZ.lt) Try.underlying25 rfl (by kernel_rfl)⟩) (by assumption) ?_
  (try simp only [Act.put, List.setIfInBounds_toArray, List.set_cons_zero, List.set_cons_succ])
  refine wpAnyH_take (i := 2) (oi := ⟨some 9, _, _, _, _, _⟩) (v := .agg (mt m2)) rfl (by kernel_rfl) (by kernel_rfl) (by kernel_rfl) (fun _ _ _ h => h) (Or.inl ⟨by rfl, fun w' hSw => exec_load_box (w.heap.size + 1 + 1) 25 (mt m2) _ w' rfl rfl (XZ.keep hSw XZ.lt) Try.underlying25 rfl (by kernel_rfl)⟩) (by assumption) ?_
  (try simp only [Act.put, List.setIfInBounds_toArray, List.set_cons_zero, List.set_cons_succ])
  refine wpAnyH_take (i := 4) (oi := ⟨some 11, _, _, _, _, _⟩) (v := .agg (bk x0)) rfl (by kernel_rfl) (by kernel_rfl) (by kernel_rfl) (fun _ _ _ h => h) (Or.inl ⟨by rfl, fun w' hSw => exec_load_box (w.heap.size) 23 (bk x0) _ w' rfl rfl (XB.keep hSw XB.lt) Try.underlying23 rfl (by kernel_rfl)⟩) (by assumption) ?_
  (try simp only [Act.put, List.setIfInBounds_toArray, List.set_cons_zero, List.set_cons_succ])
  refine wpAnyH_ready (rs := [3]) (by kernel_rfl) (by simp) ?_
  refine AllReadyH.cons (o := ⟨some 10, _, _, _, _, _⟩) rfl (fun K hK => ?_) AllReadyH.nil
  go_simp
  (go_at_call 6; (with_reducible refine (U0 _).mono ?_); rintro e w1 ⟨rfl, hb1⟩)
  go_wp2_with fail
  refine hK.out _ _ (b_cl hHeld (Nat.le_refl _) (by assumption)) (fun hHeld => ?_)
  clear hK K
  (try simp only [Act.put, List.setIfInBounds_toArray, List.set_cons_zero, List.set_cons_succ])
  refine wpAnyH_ready (rs := [5]) (by kernel_rfl) (by simp) ?_
  refine AllReadyH.cons (o := ⟨some 12, _, _, _, _, _⟩) rfl (fun K hK => ?_) AllReadyH.nil
  go_simp
  (go_at_call 10; (with_reducible refine (M1 _).mono ?_); rintro e w2 ⟨rfl, hb2⟩)
  go_wp2_with fail
  refine hK.out _ _ (b_cl hHeld (Nat.le_refl _) (by assumption)) (fun hHeld => ?_)
  clear hK K
  (try simp only [Act.put, List.setIfInBounds_toArray, List.set_cons_zero, List.set_cons_succ])
  refine wpAnyH_take (i := 6) (oi := ⟨some 13, _, _, _, _, _⟩) (v := ?_) rfl (by kernel_rfl) (by kernel_rfl) (by kernel_rfl) (fun _ _ _ h => h) (Or.inl ⟨by rfl, ?_⟩) (by assumption) ?_
  rotate_left
  · (intro w' hSw; clear hSw; go_simp; try (with_reducible rfl))
  (try simp only [Act.put, List.setIfInBounds_toArray, List.set_cons_zero, List.set_cons_succ])
  refine wpAnyH_take (i := 7) (oi := ⟨some 14, _, _, _, _, _⟩) (v := .agg (mt m2)) rfl (by kernel_rfl) (by kernel_rfl) (by kernel_rfl) (fun _ _ _ h => h) (Or.inl ⟨by rfl, fun w' hSw => exec_load_box (w.heap.size + 1 + 1) 25 (mt m2) _ w' rfl rfl (XZ.keep hSw XZ.lt) Try.underlying25 rfl (by kernel_rfl)⟩) (by assumption) ?_
  (try simp only [Act.put, List.setIfInBounds_toArray, List.set_cons_zero, List.set_cons_succ])
  refine wpAnyH_ready (rs := [8]) (by kernel_rfl) (by simp) ?_
  refine AllReadyH.cons (o := ⟨some 15, _, _, _, _, _⟩) rfl (fun K hK => ?_) AllReadyH.nil
  go_simp
  (go_at_call 11; (with_reducible refine (M2 _).mono ?_); rintro e w3 ⟨rfl, hb3⟩)
  go_wp2_with fail
  refine hK.out _ _ (b_cl hHeld (Nat.le_refl _) (by assumption)) (fun hHeld => ?_)
  clear hK K
  (try simp only [Act.put, List.setIfInBounds_toArray, List.set_cons_zero, List.set_cons_succ])
  refine wpAnyH_take (i := 9) (oi := ⟨some 16, _, _, _, _, _⟩) (v := ?_) rfl (by kernel_rfl) (by kernel_rfl) (by kernel_rfl) (fun _ _ _ h => h) (Or.inl ⟨by rfl, ?_⟩) (by assumption) ?_
  rotate_left
  · (intro w' hSw; clear hSw; go_simp; try (with_reducible rfl))
  (try simp only [Act.put, List.setIfInBounds_toArray, List.set_cons_zero, List.set_cons_succ])
  refine wpAnyH_take (i := 10) (oi := ⟨some 17, _, _, _, _, _⟩) (v := ?_) rfl (by kernel_rfl) (by kernel_rfl) (by kernel_rfl) (fun _ _ _ h => h) (Or.inl ⟨by rfl, ?_⟩) (by assumption) ?_
  rotate_left
  · (intro w' hSw; clear hSw; go_simp; try (with_reducible rfl))
  (try simp only [Act.put, List.setIfInBounds_toArray, List.set_cons_zero, List.set_cons_succ])
  refine wpAnyH_done (by kernel_rfl) ?_ _
  refine NoPanic.normal ?_
  have XB4 := XB.keep hHeld XB.lt
  have XT4 := XT.keep hHeld XT.lt
  have XZ4 := XZ.keep hHeld XZ.lt
  have B4 := b_cl B0 (Nat.le_refl _) hHeld
  clear hHeld XB XT XZ B0
  go_wp2_with (first
      | go_skip
      | refine wpList_load_box (by rfl) 23 _ rfl (w.heap.size) rfl 23 (bk x0) _ (by assumption) Try.underlying23 rfl (by kernel_rfl) ?_
      | refine wpList_load_of17 (by rfl) 25 _ rfl (w.heap.size + 1) 0 rfl (mt s1) _ (bo_fst (T := 29) (s := s1) (t := t1) (by assumption)) Try.underlying25 rfl (by kernel_rfl) ?_
      | refine wpList_load_of17 (by rfl) 25 _ rfl (w.heap.size + 1) 14 rfl (mt t1) _ (bo_snd (T := 29) (s := s1) (t := t1) (by assumption)) Try.underlying25 rfl (by kernel_rfl) ?_
      | refine wpList_load_box (by rfl) 25 _ rfl (w.heap.size + 1 + 1) rfl 25 (mt m2) _ (by assumption) Try.underlying25 rfl (by kernel_rfl) ?_
      | (go_at_call 6; (with_reducible refine (U1 _).mono ?_); rintro e w5 ⟨rfl, hb5⟩; have XB5 := XB4.below hb5; have XT5 := XT4.below hb5; have XZ5 := XZ4.below hb5; have B5 := b_cl B4 (Nat.le_refl _) hb5; clear U1)
      | (go_at_call 6; (with_reducible refine (U2 _).mono ?_); rintro e w6 ⟨rfl, hb6⟩; have XB6 := XB5.below hb6; have XT6 := XT5.below hb6; have XZ6 := XZ5.below hb6; have B6 := b_cl B5 (Nat.le_refl _) hb6; clear U2)
      | (go_at_call 6; (with_reducible refine (U3 _).mono ?_); rintro e w7 ⟨rfl, hb7⟩; have XB7 := XB6.below hb7; have XT7 := XT6.below hb7; have XZ7 := XZ6.below hb7; have B7 := b_cl B6 (Nat.le_refl _) hb7; clear U3)
      | (go_at_call 6; (with_reducible refine (U4 _).mono ?_); rintro e w8 ⟨rfl, hb8⟩; have XB8 := XB7.below hb8; have XT8 := XT7.below hb8; have XZ8 := XZ7.below hb8; have B8 := b_cl B7 (Nat.le_refl _) hb8; clear U4)
      | refine wpList_neq_mt (by rfl) rfl s1 s1 true rfl rfl (Mt.eqB_self _) ?_
      | (go_at_call 8; (with_reducible refine (alive17_any _).mono ?_); rintro e w99 ⟨rfl, hb99⟩))
  go_ret
  exact ⟨rfl, b_cl (by assumption) (Nat.le_refl _) hb99⟩

open Classical in
set_option maxRecDepth 100000 in
set_option maxHeartbeats 4000000 in
theorem may_c (w : World) (x0 : Nat → Int) (s1 t1 m2 : Mt) (hx : May x0) (p : Un x0 s1 t1) (p2 : ¬ Un x0 t1 s1) (q : Un x0 t1 m2) (r : Un x0 s1 m2) :
    Calls Try.prog 5 #[.agg (bk x0), .agg (bo s1 t1), .agg (mt m2)] w fun e w' => e = .returned (.bool true) ∧ Below w.heap.size w w' := by
  have XB : Bx (((w.alloc (.cells (bk x0) 23)).alloc (.cells (bo s1 t1) 29)).alloc (.cells (mt m2) 25)) w.heap.size 23 (bk x0) := ((Bx.new (W := w) _ _ rfl).alloc _).alloc _
  have XT : Bx (((w.alloc (.cells (bk x0) 23)).alloc (.cells (bo s1 t1) 29)).alloc (.cells (mt m2) 25)) (w.heap.size + 1) 29 (bo s1 t1) := (Bx.new (W := w.alloc (.cells (bk x0) 23)) _ _ (by simp)).alloc _
  have XZ : Bx (((w.alloc (.cells (bk x0) 23)).alloc (.cells (bo s1 t1) 29)).alloc (.cells (mt m2) 25)) (w.heap.size + 1 + 1) 25 (mt m2) := Bx.new (W := (w.alloc (.cells (bk x0) 23)).alloc (.cells (bo s1 t1) 29)) _ _ (by simp)
  have B0 : Below w.heap.size w (((w.alloc (.cells (bk x0) 23)).alloc (.cells (bo s1 t1) 29)).alloc (.cells (mt m2) 25)) := b_al (b_al (b_al (Below.refl _ _) (Nat.le_refl _) _) (Nat.le_refl _) _) (Nat.le_refl _) _
  have M1 := fun W => refmay_any x0 W
  simp only [if_pos hx] at M1
  have M2 := fun W => refmay13_any m2 W
  have U0 := fun W => under17_any x0 m2 m2 W
  have ez : tf (Un x0 m2 m2) = (if MayM m2 then true else false) := by
    by_cases hz : MayM m2
    · rw [if_pos hz, tf_yes (Un.self.2 ⟨hx, hz⟩)]
    · rw [if_neg hz, tf_no (fun h => hz (Un.self.1 h).2)]
  rw [ez] at U0
  generalize (if MayM m2 then true else false) = vz at U0 M2
  clear ez
  have U1 := fun W => under17_any x0 s1 t1 W
  simp only [tf_yes p] at U1
  have U2 := fun W => under17_any x0 t1 m2 W
  simp only [tf_yes q] at U2
  have U3 := fun W => under17_any x0 s1 m2 W
  simp only [tf_yes r] at U3
  have U4 := fun W => under17_any x0 s1 t1 W
  simp only [tf_yes p] at U4
  have U5 := fun W => under17_any x0 t1 s1 W
  simp only [tf_no p2] at U5
  clear hx p p2 q r
  go_enter Try.func5, Try.ntmps5
  go_upto_region 1 with fail
  (try go_frame)
  generalize (((w.alloc (.cells (bk x0) 23)).alloc (.cells (bo s1 t1) 29)).alloc (.cells (mt m2) 25)) = w0 at *
  refine wp_region_noPanic ?_
  refine wp_region_held_drew (S := fun w' => Below w0.heap.size w0 w') (by kernel_rfl) ?_ (fun hHeld => ?_)
  · exact b_dr (Below.refl _ _)
  refine wpAnyH_take (i := 0) (oi := ⟨some 7, _, _, _, _, _⟩) (v := .agg (bk x0)) rfl (by kernel_rfl) (by kernel_rfl) (by kernel_rfl) (fun _ _ _ h => h) (Or.inl ⟨by rfl, fun w' hSw => exec_load_box (w.heap.size) 23 (bk x0) _ w' rfl rfl (XB.keep hSw XB.lt) Try.underlying23 rfl (by kernel_rfl)⟩) (by assumption) ?_
  (try simp only [Act.put, List.setIfInBounds_toArray, List.set_cons_zero, List.set_cons_succ])
  refine wpAnyH_take (i := 1) (oi := ⟨some 8, _, _, _, _, _⟩) (v := .agg (mt m2)) rfl (by kernel_rfl) (by kernel_rfl) (by kernel_rfl) (fun _ _ _ h => h) (Or.inl ⟨by rfl, fun w' hSw => exec_load_box (w.heap.size + 1 + 1) 25 (mt m2) _ w' rfl rfl (XZ.keep hSw XZ.lt) Try.underlying25 rfl (by kernel_rfl)⟩) (by assumption) ?_
  (try simp only [Act.put, List.setIfInBounds_toArray, List.set_cons_zero, List.set_cons_succ])
  refine wpAnyH_take (i := 2) (oi := ⟨some 9, _, _, _, _, _⟩) (v := .agg (mt m2)) rfl (by kernel_rfl) (by kernel_rfl) (by kernel_rfl) (fun _ _ _ h => h) (Or.inl ⟨by rfl, fun w' hSw => exec_load_box (w.heap.size + 1 + 1) 25 (mt m2) _ w' rfl rfl (XZ.keep hSw XZ.lt) Try.underlying25 rfl (by kernel_rfl)⟩) (by assumption) ?_
  (try simp only [Act.put, List.setIfInBounds_toArray, List.set_cons_zero, List.set_cons_succ])
  refine wpAnyH_take (i := 4) (oi := ⟨some 11, _, _, _, _, _⟩) (v := .agg (bk x0)) rfl (by kernel_rfl) (by kernel_rfl) (by kernel_rfl) (fun _ _ _ h => h) (Or.inl ⟨by rfl, fun w' hSw => exec_load_box (w.heap.size) 23 (bk x0) _ w' rfl rfl (XB.keep hSw XB.lt) Try.underlying23 rfl (by kernel_rfl)⟩) (by assumption) ?_
  (try simp only [Act.put, List.setIfInBounds_toArray, List.set_cons_zero, List.set_cons_succ])
  refine wpAnyH_ready (rs := [3]) (by kernel_rfl) (by simp) ?_
  refine AllReadyH.cons (o := ⟨some 10, _, _, _, _, _⟩) rfl (fun K hK => ?_) AllReadyH.nil
  go_simp
  (go_at_call 6; (with_reducible refine (U0 _).mono ?_); rintro e w1 ⟨rfl, hb1⟩)
  go_wp2_with fail
  refine hK.out _ _ (b_cl hHeld (Nat.le_refl _) (by assumption)) (fun hHeld => ?_)
  clear hK K
  (try simp only [Act.put, List.setIfInBounds_toArray, List.set_cons_zero, List.set_cons_succ])
  refine wpAnyH_ready (rs := [5]) (by kernel_rfl) (by simp) ?_
  refine AllReadyH.cons (o := ⟨some 12, _, _, _, _, _⟩) rfl (fun K hK => ?_) AllReadyH.nil
  go_simp
  (go_at_call 10; (with_reducible refine (M1 _).mono ?_); rintro e w2 ⟨rfl, hb2⟩)
  go_wp2_with fail
  refine hK.out _ _ (b_cl hHeld (Nat.le_refl _) (by assumption)) (fun hHeld => ?_)
  clear hK K
  (try simp only [Act.put, List.setIfInBounds_toArray, List.set_cons_zero, List.set_cons_succ])
  refine wpAnyH_take (i := 6) (oi := ⟨some 13, _, _, _, _, _⟩) (v := ?_) rfl (by kernel_rfl) (by kernel_rfl) (by kernel_rfl) (fun _ _ _ h => h) (Or.inl ⟨by rfl, ?_⟩) (by assumption) ?_
  rotate_left
  · (intro w' hSw; clear hSw; go_simp; try (with_reducible rfl))
  (try simp only [Act.put, List.setIfInBounds_toArray, List.set_cons_zero, List.set_cons_succ])
  refine wpAnyH_take (i := 7) (oi := ⟨some 14, _, _, _, _, _⟩) (v := .agg (mt m2)) rfl (by kernel_rfl) (by kernel_rfl) (by kernel_rfl) (fun _ _ _ h => h) (Or.inl ⟨by rfl, fun w' hSw => exec_load_box (w.heap.size + 1 + 1) 25 (mt m2) _ w' rfl rfl (XZ.keep hSw XZ.lt) Try.underlying25 rfl (by kernel_rfl)⟩) (by assumption) ?_
  (try simp only [Act.put, List.setIfInBounds_toArray, List.set_cons_zero, List.set_cons_succ])
  refine wpAnyH_ready (rs := [8]) (by kernel_rfl) (by simp) ?_
  refine AllReadyH.cons (o := ⟨some 15, _, _, _, _, _⟩) rfl (fun K hK => ?_) AllReadyH.nil
  go_simp
  (go_at_call 11; (with_reducible refine (M2 _).mono ?_); rintro e w3 ⟨rfl, hb3⟩)
  go_wp2_with fail
  refine hK.out _ _ (b_cl hHeld (Nat.le_refl _) (by assumption)) (fun hHeld => ?_)
  clear hK K
  (try simp only [Act.put, List.setIfInBounds_toArray, List.set_cons_zero, List.set_cons_succ])
  refine wpAnyH_take (i := 9) (oi := ⟨some 16, _, _, _, _, _⟩) (v := ?_) rfl (by kernel_rfl) (by kernel_rfl) (by kernel_rfl) (fun _ _ _ h => h) (Or.inl ⟨by rfl, ?_⟩) (by assumption) ?_
  rotate_left
  · (intro w' hSw; clear hSw; go_simp; try (with_reducible rfl))
  (try simp only [Act.put, List.setIfInBounds_toArray, List.set_cons_zero, List.set_cons_succ])
  refine wpAnyH_take (i := 10) (oi := ⟨some 17, _, _, _, _, _⟩) (v := ?_) rfl (by kernel_rfl) (by kernel_rfl) (by kernel_rfl) (fun _ _ _ h => h) (Or.inl ⟨by rfl, ?_⟩) (by assumption) ?_
  rotate_left
  · (intro w' hSw; clear hSw; go_simp; try (with_reducible rfl))
  (try simp only [Act.put, List.setIfInBounds_toArray, List.set_cons_zero, List.set_cons_succ])
  refine wpAnyH_done (by kernel_rfl) ?_ _
  refine NoPanic.normal ?_
  have XB4 := XB.keep hHeld XB.lt
  have XT4 := XT.keep hHeld XT.lt
  have XZ4 := XZ.keep hHeld XZ.lt
  have B4 := b_cl B0 (Nat.le_refl _) hHeld
  clear hHeld XB XT XZ B0
  go_wp2_with (first
      | go_skip
      | refine wpList_load_box (by rfl) 23 _ rfl (w.heap.size) rfl 23 (bk x0) _ (by assumption) Try.underlying23 rfl (by kernel_rfl) ?_
      | refine wpList_load_of17 (by rfl) 25 _ rfl (w.heap.size + 1) 0 rfl (mt s1) _ (bo_fst (T := 29) (s := s1) (t := t1) (by assumption)) Try.underlying25 rfl (by kernel_rfl) ?_
      | refine wpList_load_of17 (by rfl) 25 _ rfl (w.heap.size + 1) 14 rfl (mt t1) _ (bo_snd (T := 29) (s := s1) (t := t1) (by assumption)) Try.underlying25 rfl (by kernel_rfl) ?_
      | refine wpList_load_box (by rfl) 25 _ rfl (w.heap.size + 1 + 1) rfl 25 (mt m2) _ (by assumption) Try.underlying25 rfl (by kernel_rfl) ?_
      | (go_at_call 6; (with_reducible refine (U1 _).mono ?_); rintro e w5 ⟨rfl, hb5⟩; have XB5 := XB4.below hb5; have XT5 := XT4.below hb5; have XZ5 := XZ4.below hb5; have B5 := b_cl B4 (Nat.le_refl _) hb5; clear U1)
      | (go_at_call 6; (with_reducible refine (U2 _).mono ?_); rintro e w6 ⟨rfl, hb6⟩; have XB6 := XB5.below hb6; have XT6 := XT5.below hb6; have XZ6 := XZ5.below hb6; have B6 := b_cl B5 (Nat.le_refl _) hb6; clear U2)
      | (go_at_call 6; (with_reducible refine (U3 _).mono ?_); rintro e w7 ⟨rfl, hb7⟩; have XB7 := XB6.below hb7; have XT7 := XT6.below hb7; have XZ7 := XZ6.below hb7; have B7 := b_cl B6 (Nat.le_refl _) hb7; clear U3)
      | (go_at_call 6; (with_reducible refine (U4 _).mono ?_); rintro e w8 ⟨rfl, hb8⟩; have XB8 := XB7.below hb8; have XT8 := XT7.below hb8; have XZ8 := XZ7.below hb8; have B8 := b_cl B7 (Nat.le_refl _) hb8; clear U4)
      | (go_at_call 6; (with_reducible refine (U5 _).mono ?_); rintro e w9 ⟨rfl, hb9⟩; have XB9 := XB8.below hb9; have XT9 := XT8.below hb9; have XZ9 := XZ8.below hb9; have B9 := b_cl B8 (Nat.le_refl _) hb9; clear U5)
      | refine wpList_neq_mt (by rfl) rfl s1 s1 true rfl rfl (Mt.eqB_self _) ?_
      | (go_at_call 8; (with_reducible refine (alive17_any _).mono ?_); rintro e w99 ⟨rfl, hb99⟩))
  go_ret
  exact ⟨rfl, b_cl (by assumption) (Nat.le_refl _) hb99⟩

open Classical in
set_option maxRecDepth 100000 in
set_option maxHeartbeats 4000000 in
theorem may_d (w : World) (x0 : Nat → Int) (s1 m2 : Mt) (hx : May x0) (p : Un x0 s1 s1) (q : ¬ Un x0 s1 m2) :
    Calls Try.prog 5 #[.agg (bk x0), .agg (bo s1 s1), .agg (mt m2)] w fun e w' => e = .returned (.bool true) ∧ Below w.heap.size w w' := by
  have XB : Bx (((w.alloc (.cells (bk x0) 23)).alloc (.cells (bo s1 s1) 29)).alloc (.cells (mt m2) 25)) w.heap.size 23 (bk x0) := ((Bx.new (W := w) _ _ rfl).alloc _).alloc _
  have XT : Bx (((w.alloc (.cells (bk x0) 23)).alloc (.cells (bo s1 s1) 29)).alloc (.cells (mt m2) 25)) (w.heap.size + 1) 29 (bo s1 s1) := (Bx.new (W := w.alloc (.cells (bk x0) 23)) _ _ (by simp)).alloc _
  have XZ : Bx (((w.alloc (.cells (bk x0) 23)).alloc (.cells (bo s1 s1) 29)).alloc (.cells (mt m2) 25)) (w.heap.size + 1 + 1) 25 (mt m2) := Bx.new (W := (w.alloc (.cells (bk x0) 23)).alloc (.cells (bo s1 s1) 29)) _ _ (by simp)
  have B0 : Below w.heap.size w (((w.alloc (.cells (bk x0) 23)).alloc (.cells (bo s1 s1) 29)).alloc (.cells (mt m2) 25)) := b_al (b_al (b_al (Below.refl _ _) (Nat.le_refl _) _) (Nat.le_refl _) _) (Nat.le_refl _) _
  have M1 := fun W => refmay_any x0 W
  simp only [if_pos hx] at M1
  have M2 := fun W => refmay13_any m2 W
  have U0 := fun W => under17_any x0 m2 m2 W
  have ez : tf (Un x0 m2 m2) = (if MayM m2 then true else false) := by
    by_cases hz : MayM m2
    · rw [if_pos hz, tf_yes (Un.self.2 ⟨hx, hz⟩)]
    · rw [if_neg hz, tf_no (fun h => hz (Un.self.1 h).2)]
  rw [ez] at U0
  generalize (if MayM m2 then true else false) = vz at U0 M2
  clear ez
  have U1 := fun W => under17_any x0 s1 s1 W
  simp only [tf_yes p] at U1
  have U2 := fun W => under17_any x0 s1 m2 W
  simp only [tf_no q] at U2
  have U3 := fun W => under17_any x0 s1 s1 W
  simp only [tf_yes p] at U3
  have U4 := fun W => under17_any x0 s1 s1 W
  simp only [tf_yes p] at U4
  clear hx p q
  go_enter Try.func5, Try.ntmps5
  go_upto_region 1 with fail
  (try go_frame)
  generalize (((w.alloc (.cells (bk x0) 23)).alloc (.cells (bo s1 s1) 29)).alloc (.cells (mt m2) 25)) = w0 at *
  refine wp_region_noPanic ?_
  refine wp_region_held_drew (S := fun w' => Below w0.heap.size w0 w') (by kernel_rfl) ?_ (fun hHeld => ?_)
  · exact b_dr (Below.refl _ _)
  refine wpAnyH_take (i := 0) (oi := ⟨some 7, _, _, _, _, _⟩) (v := .agg (bk x0)) rfl (by kernel_rfl) (by kernel_rfl) (by kernel_rfl) (fun _ _ _ h => h) (Or.inl ⟨by rfl, fun w' hSw => exec_load_box (w.heap.size) 23 (bk x0) _ w' rfl rfl (XB.keep hSw XB.lt) Try.underlying23 rfl (by kernel_rfl)⟩) (by assumption) ?_
  (try simp only [Act.put, List.setIfInBounds_toArray, List.set_cons_zero, List.set_cons_succ])
  refine wpAnyH_take (i := 1) (oi := ⟨some 8, _, _, _, _, _⟩) (v := .agg (mt m2)) rfl (by kernel_rfl) (by kernel_rfl) (by kernel_rfl) (fun _ _ _ h => h) (Or.inl ⟨by rfl, fun w' hSw => exec_load_box (w.heap.size + 1 + 1) 25 (mt m2) _ w' rfl rfl (XZ.keep hSw XZ.lt) Try.underlying25 rfl (by kernel_rfl)⟩) (by assumption) ?_
  (try simp only [Act.put, List.setIfInBounds_toArray, List.set_cons_zero, List.set_cons_succ])
  refine wpAnyH_take (i := 2) (oi := ⟨some 9, _, _, _, _, _⟩) (v := .agg (mt m2)) rfl (by kernel_rfl) (by kernel_rfl) (by kernel_rfl) (fun _ _ _ h => h) (Or.inl ⟨by rfl, fun w' hSw => exec_load_box (w.heap.size + 1 + 1) 25 (mt m2) _ w' rfl rfl (XZ.keep hSw XZ.lt) Try.underlying25 rfl (by kernel_rfl)⟩) (by assumption) ?_
  (try simp only [Act.put, List.setIfInBounds_toArray, List.set_cons_zero, List.set_cons_succ])
  refine wpAnyH_take (i := 4) (oi := ⟨some 11, _, _, _, _, _⟩) (v := .agg (bk x0)) rfl (by kernel_rfl) (by kernel_rfl) (by kernel_rfl) (fun _ _ _ h => h) (Or.inl ⟨by rfl, fun w' hSw => exec_load_box (w.heap.size) 23 (bk x0) _ w' rfl rfl (XB.keep hSw XB.lt) Try.underlying23 rfl (by kernel_rfl)⟩) (by assumption) ?_
  (try simp only [Act.put, List.setIfInBounds_toArray, List.set_cons_zero, List.set_cons_succ])
  refine wpAnyH_ready (rs := [3]) (by kernel_rfl) (by simp) ?_
  refine AllReadyH.cons (o := ⟨some 10, _, _, _, _, _⟩) rfl (fun K hK => ?_) AllReadyH.nil
  go_simp
  (go_at_call 6; (with_reducible refine (U0 _).mono ?_); rintro e w1 ⟨rfl, hb1⟩)
  go_wp2_with fail
  refine hK.out _ _ (b_cl hHeld (Nat.le_refl _) (by assumption)) (fun hHeld => ?_)
  clear hK K
  (try simp only [Act.put, List.setIfInBounds_toArray, List.set_cons_zero, List.set_cons_succ])
  refine wpAnyH_ready (rs := [5]) (by kernel_rfl) (by simp) ?_
  refine AllReadyH.cons (o := ⟨some 12, _, _, _, _, _⟩) rfl (fun K hK => ?_) AllReadyH.nil
  go_simp
  (go_at_call 10; (with_reducible refine (M1 _).mono ?_); rintro e w2 ⟨rfl, hb2⟩)
  go_wp2_with fail
  refine hK.out _ _ (b_cl hHeld (Nat.le_refl _) (by assumption)) (fun hHeld => ?_)
  clear hK K
  (try simp only [Act.put, List.setIfInBounds_toArray, List.set_cons_zero, List.set_cons_succ])
  refine wpAnyH_take (i := 6) (oi := ⟨some 13, _, _, _, _, _⟩) (v := ?_) rfl (by kernel_rfl) (by kernel_rfl) (by kernel_rfl) (fun _ _ _ h => h) (Or.inl ⟨by rfl, ?_⟩) (by assumption) ?_
  rotate_left
  · (intro w' hSw; clear hSw; go_simp; try (with_reducible rfl))
  (try simp only [Act.put, List.setIfInBounds_toArray, List.set_cons_zero, List.set_cons_succ])
  refine wpAnyH_take (i := 7) (oi := ⟨some 14, _, _, _, _, _⟩) (v := .agg (mt m2)) rfl (by kernel_rfl) (by kernel_rfl) (by kernel_rfl) (fun _ _ _ h => h) (Or.inl ⟨by rfl, fun w' hSw => exec_load_box (w.heap.size + 1 + 1) 25 (mt m2) _ w' rfl rfl (XZ.keep hSw XZ.lt) Try.underlying25 rfl (by kernel_rfl)⟩) (by assumption) ?_
  (try simp only [Act.put, List.setIfInBounds_toArray, List.set_cons_zero, List.set_cons_succ])
  refine wpAnyH_ready (rs := [8]) (by kernel_rfl) (by simp) ?_
  refine AllReadyH.cons (o := ⟨some 15, _, _, _, _, _⟩) rfl (fun K hK => ?_) AllReadyH.nil
  go_simp
  (go_at_call 11; (with_reducible refine (M2 _).mono ?_); rintro e w3 ⟨rfl, hb3⟩)
  go_wp2_with fail
  refine hK.out _ _ (b_cl hHeld (Nat.le_refl _) (by assumption)) (fun hHeld => ?_)
  clear hK K
  (try simp only [Act.put, List.setIfInBounds_toArray, List.set_cons_zero, List.set_cons_succ])
  refine wpAnyH_take (i := 9) (oi := ⟨some 16, _, _, _, _, _⟩) (v := ?_) rfl (by kernel_rfl) (by kernel_rfl) (by kernel_rfl) (fun _ _ _ h => h) (Or.inl ⟨by rfl, ?_⟩) (by assumption) ?_
  rotate_left
  · (intro w' hSw; clear hSw; go_simp; try (with_reducible rfl))
  (try simp only [Act.put, List.setIfInBounds_toArray, List.set_cons_zero, List.set_cons_succ])
  refine wpAnyH_take (i := 10) (oi := ⟨some 17, _, _, _, _, _⟩) (v := ?_) rfl (by kernel_rfl) (by kernel_rfl) (by kernel_rfl) (fun _ _ _ h => h) (Or.inl ⟨by rfl, ?_⟩) (by assumption) ?_
  rotate_left
  · (intro w' hSw; clear hSw; go_simp; try (with_reducible rfl))
  (try simp only [Act.put, List.setIfInBounds_toArray, List.set_cons_zero, List.set_cons_succ])
  refine wpAnyH_done (by kernel_rfl) ?_ _
  refine NoPanic.normal ?_
  have XB4 := XB.keep hHeld XB.lt
  have XT4 := XT.keep hHeld XT.lt
  have XZ4 := XZ.keep hHeld XZ.lt
  have B4 := b_cl B0 (Nat.le_refl _) hHeld
  clear hHeld XB XT XZ B0
  go_wp2_with (first
      | go_skip
      | refine wpList_load_box (by rfl) 23 _ rfl (w.heap.size) rfl 23 (bk x0) _ (by assumption) Try.underlying23 rfl (by kernel_rfl) ?_
      | refine wpList_load_of17 (by rfl) 25 _ rfl (w.heap.size + 1) 0 rfl (mt s1) _ (bo_fst (T := 29) (s := s1) (t := s1) (by assumption)) Try.underlying25 rfl (by kernel_rfl) ?_
      | refine wpList_load_of17 (by rfl) 25 _ rfl (w.heap.size + 1) 14 rfl (mt s1) _ (bo_snd (T := 29) (s := s1) (t := s1) (by assumption)) Try.underlying25 rfl (by kernel_rfl) ?_
      | refine wpList_load_box (by rfl) 25 _ rfl (w.heap.size + 1 + 1) rfl 25 (mt m2) _ (by assumption) Try.underlying25 rfl (by kernel_rfl) ?_
      | (go_at_call 6; (with_reducible refine (U1 _).mono ?_); rintro e w5 ⟨rfl, hb5⟩; have XB5 := XB4.below hb5; have XT5 := XT4.below hb5; have XZ5 := XZ4.below hb5; have B5 := b_cl B4 (Nat.le_refl _) hb5; clear U1)
      | (go_at_call 6; (with_reducible refine (U2 _).mono ?_); rintro e w6 ⟨rfl, hb6⟩; have XB6 := XB5.below hb6; have XT6 := XT5.below hb6; have XZ6 := XZ5.below hb6; have B6 := b_cl B5 (Nat.le_refl _) hb6; clear U2)
      | (go_at_call 6; (with_reducible refine (U3 _).mono ?_); rintro e w7 ⟨rfl, hb7⟩; have XB7 := XB6.below hb7; have XT7 := XT6.below hb7; have XZ7 := XZ6.below hb7; have B7 := b_cl B6 (Nat.le_refl _) hb7; clear U3)
      | (go_at_call 6; (with_reducible refine (U4 _).mono ?_); rintro e w8 ⟨rfl, hb8⟩; have XB8 := XB7.below hb8; have XT8 := XT7.below hb8; have XZ8 := XZ7.below hb8; have B8 := b_cl B7 (Nat.le_refl _) hb8; clear U4)
      | refine wpList_neq_mt (by rfl) rfl s1 s1 true rfl rfl (Mt.eqB_self _) ?_
      | (go_at_call 8; (with_reducible refine (alive17_any _).mono ?_); rintro e w99 ⟨rfl, hb99⟩))
  go_ret
  exact ⟨rfl, b_cl (by assumption) (Nat.le_refl _) hb99⟩

open Classical in
set_option maxRecDepth 100000 in
set_option maxHeartbeats 4000000 in
theorem may_e (w : World) (x0 : Nat → Int) (s1 m2 : Mt) (hx : May x0) (p : Un x0 s1 s1) (q : Un x0 s1 m2) :
    Calls Try.prog 5 #[.agg (bk x0), .agg (bo s1 s1), .agg (mt m2)] w fun e w' => e = .returned (.bool true) ∧ Below w.heap.size w w' := by
  have XB : Bx (((w.alloc (.cells (bk x0) 23)).alloc (.cells (bo s1 s1) 29)).alloc (.cells (mt m2) 25)) w.heap.size 23 (bk x0) := ((Bx.new (W := w) _ _ rfl).alloc _).alloc _
  have XT : Bx (((w.alloc (.cells (bk x0) 23)).alloc (.cells (bo s1 s1) 29)).alloc (.cells (mt m2) 25)) (w.heap.size + 1) 29 (bo s1 s1) := (Bx.new (W := w.alloc (.cells (bk x0) 23)) _ _ (by simp)).alloc _
  have XZ : Bx (((w.alloc (.cells (bk x0) 23)).alloc (.cells (bo s1 s1) 29)).alloc (.cells (mt m2) 25)) (w.heap.size + 1 + 1) 25 (mt m2) := Bx.new (W := (w.alloc (.cells (bk x0) 23)).alloc (.cells (bo s1 s1) 29)) _ _ (by simp)
  have B0 : Below w.heap.size w (((w.alloc (.cells (bk x0) 23)).alloc (.cells (bo s1 s1) 29)).alloc (.cells (mt m2) 25)) := b_al (b_al (b_al (Below.refl _ _) (Nat.le_refl _) _) (Nat.le_refl _) _) (Nat.le_refl _) _
  have M1 := fun W => refmay_any x0 W
  simp only [if_pos hx] at M1
  have M2 := fun W => refmay13_any m2 W
  have U0 := fun W => under17_any x0 m2 m2 W
  have ez : tf (Un x0 m2 m2) = (if MayM m2 then true else false) := by
    by_cases hz : MayM m2
    · rw [if_pos hz, tf_yes (Un.self.2 ⟨hx, hz⟩)]
    · rw [if_neg hz, tf_no (fun h => hz (Un.self.1 h).2)]
  rw [ez] at U0
  generalize (if MayM m2 then true else false) = vz at U0 M2
  clear ez
  have U1 := fun W => under17_any x0 s1 s1 W
  simp only [tf_yes p] at U1
  have U2 := fun W => under17_any x0 s1 m2 W
  simp only [tf_yes q] at U2
  have U3 := fun W => under17_any x0 s1 m2 W
  simp only [tf_yes q] at U3
  have U4 := fun W => under17_any x0 s1 s1 W
  simp only [tf_yes p] at U4
  have U5 := fun W => under17_any x0 s1 s1 W
  simp only [tf_yes p] at U5
  clear hx p q
  go_enter Try.func5, Try.ntmps5
  go_upto_region 1 with fail
  (try go_frame)
  generalize (((w.alloc (.cells (bk x0) 23)).alloc (.cells (bo s1 s1) 29)).alloc (.cells (mt m2) 25)) = w0 at *
  refine wp_region_noPanic ?_
  refine wp_region_held_drew (S := fun w' => Below w0.heap.size w0 w') (by kernel_rfl) ?_ (fun hHeld => ?_)
  · exact b_dr (Below.refl _ _)
  refine wpAnyH_take (i := 0) (oi := ⟨some 7, _, _, _, _, _⟩) (v := .agg (bk x0)) rfl (by kernel_rfl) (by kernel_rfl) (by kernel_rfl) (fun _ _ _ h => h) (Or.inl ⟨by rfl, fun w' hSw => exec_load_box (w.heap.size) 23 (bk x0) _ w' rfl rfl (XB.keep hSw XB.lt) Try.underlying23 rfl (by kernel_rfl)⟩) (by assumption) ?_
  (try simp only [Act.put, List.setIfInBounds_toArray, List.set_cons_zero, List.set_cons_succ])
  refine wpAnyH_take (i := 1) (oi := ⟨some 8, _, _, _, _, _⟩) (v := .agg (mt m2)) rfl (by kernel_rfl) (by kernel_rfl) (by kernel_rfl) (fun _ _ _ h => h) (Or.inl ⟨by rfl, fun w' hSw => exec_load_box (w.heap.size + 1 + 1) 25 (mt m2) _ w' rfl rfl (XZ.keep hSw XZ.lt) Try.underlying25 rfl (by kernel_rfl)⟩) (by assumption) ?_
  (try simp only [Act.put, List.setIfInBounds_toArray, List.set_cons_zero, List.set_cons_succ])
  refine wpAnyH_take (i := 2) (oi := ⟨some 9, _, _, _, _, _⟩) (v := .agg (mt m2)) rfl (by kernel_rfl) (by kernel_rfl) (by kernel_rfl) (fun _ _ _ h => h) (Or.inl ⟨by rfl, fun w' hSw => exec_load_box (w.heap.size + 1 + 1) 25 (mt m2) _ w' rfl rfl (XZ.keep hSw XZ.lt) Try.underlying25 rfl (by kernel_rfl)⟩) (by assumption) ?_
  (try simp only [Act.put, List.setIfInBounds_toArray, List.set_cons_zero, List.set_cons_succ])
  refine wpAnyH_take (i := 4) (oi := ⟨some 11, _, _, _, _, _⟩) (v := .agg (bk x0)) rfl (by kernel_rfl) (by kernel_rfl) (by kernel_rfl) (fun _ _ _ h => h) (Or.inl ⟨by rfl, fun w' hSw => exec_load_box (w.heap.size) 23 (bk x0) _ w' rfl rfl (XB.keep hSw XB.lt) Try.underlying23 rfl (by kernel_rfl)⟩) (by assumption) ?_
  (try simp only [Act.put, List.setIfInBounds_toArray, List.set_cons_zero, List.set_cons_succ])
  refine wpAnyH_ready (rs := [3]) (by kernel_rfl) (by simp) ?_
  refine AllReadyH.cons (o := ⟨some 10, _, _, _, _, _⟩) rfl (fun K hK => ?_) AllReadyH.nil
  go_simp
  (go_at_call 6; (with_reducible refine (U0 _).mono ?_); rintro e w1 ⟨rfl, hb1⟩)
  go_wp2_with fail
  refine hK.out _ _ (b_cl hHeld (Nat.le_refl _) (by assumption)) (fun hHeld => ?_)
  clear hK K
  (try simp only [Act.put, List.setIfInBounds_toArray, List.set_cons_zero, List.set_cons_succ])
  refine wpAnyH_ready (rs := [5]) (by kernel_rfl) (by simp) ?_
  refine AllReadyH.cons (o := ⟨some 12, _, _, _, _, _⟩) rfl (fun K hK => ?_) AllReadyH.nil
  go_simp
  (go_at_call 10; (with_reducible refine (M1 _).mono ?_); rintro e w2 ⟨rfl, hb2⟩)
  go_wp2_with fail
  refine hK.out _ _ (b_cl hHeld (Nat.le_refl _) (by assumption)) (fun hHeld => ?_)
  clear hK K
  (try simp only [Act.put, List.setIfInBounds_toArray, List.set_cons_zero, List.set_cons_succ])
  refine wpAnyH_take (i := 6) (oi := ⟨some 13, _, _, _, _, _⟩) (v := ?_) rfl (by kernel_rfl) (by kernel_rfl) (by kernel_rfl) (fun _ _ _ h => h) (Or.inl ⟨by rfl, ?_⟩) (by assumption) ?_
  rotate_left
  · (intro w' hSw; clear hSw; go_simp; try (with_reducible rfl))
  (try simp only [Act.put, List.setIfInBounds_toArray, List.set_cons_zero, List.set_cons_succ])
  refine wpAnyH_take (i := 7) (oi := ⟨some 14, _, _, _, _, _⟩) (v := .agg (mt m2)) rfl (by kernel_rfl) (by kernel_rfl) (by kernel_rfl) (fun _ _ _ h => h) (Or.inl ⟨by rfl, fun w' hSw => exec_load_box (w.heap.size + 1 + 1) 25 (mt m2) _ w' rfl rfl (XZ.keep hSw XZ.lt) Try.underlying25 rfl (by kernel_rfl)⟩) (by assumption) ?_
  (try simp only [Act.put, List.setIfInBounds_toArray, List.set_cons_zero, List.set_cons_succ])
  refine wpAnyH_ready (rs := [8]) (by kernel_rfl) (by simp) ?_
  refine AllReadyH.cons (o := ⟨some 15, _, _, _, _, _⟩) rfl (fun K hK => ?_) AllReadyH.nil
  go_simp
  (go_at_call 11; (with_reducible refine (M2 _).mono ?_); rintro e w3 ⟨rfl, hb3⟩)
  go_wp2_with fail
  refine hK.out _ _ (b_cl hHeld (Nat.le_refl _) (by assumption)) (fun hHeld => ?_)
  clear hK K
  (try simp only [Act.put, List.setIfInBounds_toArray, List.set_cons_zero, List.set_cons_succ])
  refine wpAnyH_take (i := 9) (oi := ⟨some 16, _, _, _, _, _⟩) (v := ?_) rfl (by kernel_rfl) (by kernel_rfl) (by kernel_rfl) (fun _ _ _ h => h) (Or.inl ⟨by rfl, ?_⟩) (by assumption) ?_
  rotate_left
  · (intro w' hSw; clear hSw; go_simp; try (with_reducible rfl))
  (try simp only [Act.put, List.setIfInBounds_toArray, List.set_cons_zero, List.set_cons_succ])
  refine wpAnyH_take (i := 10) (oi := ⟨some 17, _, _, _, _, _⟩) (v := ?_) rfl (by kernel_rfl) (by kernel_rfl) (by kernel_rfl) (fun _ _ _ h => h) (Or.inl ⟨by rfl, ?_⟩) (by assumption) ?_
  rotate_left
  · (intro w' hSw; clear hSw; go_simp; try (with_reducible rfl))
  (try simp only [Act.put, List.setIfInBounds_toArray, List.set_cons_zero, List.set_cons_succ])
  refine wpAnyH_done (by kernel_rfl) ?_ _
  refine NoPanic.normal ?_
  have XB4 := XB.keep hHeld XB.lt
  have XT4 := XT.keep hHeld XT.lt
  have XZ4 := XZ.keep hHeld XZ.lt
  have B4 := b_cl B0 (Nat.le_refl _) hHeld
  clear hHeld XB XT XZ B0
  go_wp2_with (first
      | go_skip
      | refine wpList_load_box (by rfl) 23 _ rfl (w.heap.size) rfl 23 (bk x0) _ (by assumption) Try.underlying23 rfl (by kernel_rfl) ?_
      | refine wpList_load_of17 (by rfl) 25 _ rfl (w.heap.size + 1) 0 rfl (mt s1) _ (bo_fst (T := 29) (s := s1) (t := s1) (by assumption)) Try.underlying25 rfl (by kernel_rfl) ?_
      | refine wpList_load_of17 (by rfl) 25 _ rfl (w.heap.size + 1) 14 rfl (mt s1) _ (bo_snd (T := 29) (s := s1) (t := s1) (by assumption)) Try.underlying25 rfl (by kernel_rfl) ?_
      | refine wpList_load_box (by rfl) 25 _ rfl (w.heap.size + 1 + 1) rfl 25 (mt m2) _ (by assumption) Try.underlying25 rfl (by kernel_rfl) ?_
      | (go_at_call 6; (with_reducible refine (U1 _).mono ?_); rintro e w5 ⟨rfl, hb5⟩; have XB5 := XB4.below hb5; have XT5 := XT4.below hb5; have XZ5 := XZ4.below hb5; have B5 := b_cl B4 (Nat.le_refl _) hb5; clear U1)
      | (go_at_call 6; (with_reducible refine (U2 _).mono ?_); rintro e w6 ⟨rfl, hb6⟩; have XB6 := XB5.below hb6; have XT6 := XT5.below hb6; have XZ6 := XZ5.below hb6; have B6 := b_cl B5 (Nat.le_refl _) hb6; clear U2)
      | (go_at_call 6; (with_reducible refine (U3 _).mono ?_); rintro e w7 ⟨rfl, hb7⟩; have XB7 := XB6.below hb7; have XT7 := XT6.below hb7; have XZ7 := XZ6.below hb7; have B7 := b_cl B6 (Nat.le_refl _) hb7; clear U3)
      | (go_at_call 6; (with_reducible refine (U4 _).mono ?_); rintro e w8 ⟨rfl, hb8⟩; have XB8 := XB7.below hb8; have XT8 := XT7.below hb8; have XZ8 := XZ7.below hb8; have B8 := b_cl B7 (Nat.le_refl _) hb8; clear U4)
      | (go_at_call 6; (with_reducible refine (U5 _).mono ?_); rintro e w9 ⟨rfl, hb9⟩; have XB9 := XB8.below hb9; have XT9 := XT8.below hb9; have XZ9 := XZ8.below hb9; have B9 := b_cl B8 (Nat.le_refl _) hb9; clear U5)
      | refine wpList_neq_mt (by rfl) rfl s1 s1 true rfl rfl (Mt.eqB_self _) ?_
      | (go_at_call 8; (with_reducible refine (alive17_any _).mono ?_); rintro e w99 ⟨rfl, hb99⟩))
  go_ret
  exact ⟨rfl, b_cl (by assumption) (Nat.le_refl _) hb99⟩

end belowOrder
end Go.Proofs.Ytojdaigilagppaa
