/- As many minutes as may go on break nothing; one more breaks something, if there is room for it. Conditions: none. -/
import Derived.Test.YtndhagflfbblaaaRows
import Derived.Test.YtndhagflfbblaaaBase
import Derived.Test.YtndhagflfbblaaaBookRow
import Derived.Test.YtndhagflfbblaaaBookLim
import Derived.Test.YtndhagflfbblaaaBookLaws
import Derived.Test.YtndhagflfbblaaaBookOpen
import Derived.Test.YtndhagflfbblaaaBox
import Derived.Test.YtndhagflfbblaaaSpellMath
import Derived.Test.YtndhagflfbblaaaMeterMath
import Derived.Test.YtndhagflfbblaaaMeterChk
import Derived.Test.YtndhagflfbblaaaMeterMayR
import Derived.Test.YtndhagflfbblaaaMeterOpen
import Derived.Test.YtndhagflfbblaaaMeterLaws
import Derived.Test.YtndhagflfbblaaaStretchMath
import Derived.Test.YtndhagflfbblaaaStretchSt
import Derived.Test.YtndhagflfbblaaaStretchLaws
import Derived.Test.YtndhagflfbblaaaStretchFarM
import Derived.Test.YtndhagflfbblaaaStretchChk
import Derived.Test.YtndhagflfbblaaaStretchOverC
import Derived.Test.YtndhagflfbblaaaStretchLeast
import Derived.Test.YtndhagflfbblaaaStretchEq
import Derived.Test.YtndhagflfbblaaaStretchFarC
import Derived.Test.YtndhagflfbblaaaStretchStR
import Derived.Test.YtndhagflfbblaaaStretchAlive
import Derived.Test.YtndhagflfbblaaaStretchOpen
import Derived.WalkKit
import Derived.WalkSmall
import Derived.WalkSpells
import Derived.ProofKit
import Derived.OpenShut
import Derived.ShutString
import Derived.ChangeOld
import Derived.Below
import Derived.Lib.Hide
import Derived.OwnWalk
import Derived.BigQuiet
import Derived.Outline
import Derived.Great.BuildSlice
import Derived.Maps.RangeWalk
import Derived.OrdersHeld
namespace Go.Proofs.Ytndhagflfbblaaa.stretchEnough
open Go.ChangeShapes Go.WideShapes Go.ChangeAt Go.RowKit
open Go.ChangeMaps (open_string shut_string)
set_option linter.unusedVariables false

theorem own : ownKnob Try.prog.godebug = none := by kernel_rfl
theorem laidOut : laidOutB Try.prog = true := by kernel_rfl

set_option maxRecDepth 100000 in
set_option maxHeartbeats 8000000 in
theorem bad (w : World) (x0 : Nat → Int) (m1 : Mt) (a2 : Int) (er : Int) (hV : farV x0 m1 a2 = (0, er)) (hE : er ≠ 0) :
    Calls Try.prog 6 #[.agg (bk x0), .agg (mt m1), .int .i64 a2] w fun e w' => e = .returned (.bool true) ∧ Below w.heap.size w w' := by
  have r0 : RdI ((w.alloc (.cells (bk x0) 23)).alloc (.cells (mt m1) 25)) w.heap.size 0 x0 := (RdI.new x0 23 rfl).alloc _
  have ya0 : Bx ((w.alloc (.cells (bk x0) 23)).alloc (.cells (mt m1) 25)) (w.heap.size + 1) 25 (mt m1) := Bx.new (W := w.alloc (.cells (bk x0) 23)) _ _ (by simp)
  have B0 : Below w.heap.size w ((w.alloc (.cells (bk x0) 23)).alloc (.cells (mt m1) 25)) := b_al (b_al (Below.refl _ _) (Nat.le_refl _) _) (Nat.le_refl _) _
  have FA := fun W => far14_any x0 m1 a2 W
  rw [hV] at FA
  dsimp only at FA
  have ne : (er != 0) = true := by simpa using hE
  have ne2 : (er == 0) = false := by simpa using hE
  clear hE hV
  go_enter Try.func6, Try.ntmps6
  go_wp2_with (first
    | go_skip
    | refine wpList_load_bk (by rfl) 23 _ rfl _ _ rfl x0 _ (by assumption) Try.underlying23 rfl (by kernel_rfl) ?_
    | refine wpList_load_box (by rfl) 25 _ rfl (w.heap.size + 1) rfl 25 (mt m1) _ (by assumption) Try.underlying25 rfl (by kernel_rfl) ?_
    | (go_at_call 10; (with_reducible refine (FA _).mono ?_); rintro e w1 ⟨rfl, hb1⟩; have r1 := r0.below hb1; have ya1 := ya0.below hb1; have B1 := b_cl B0 (Nat.le_refl _) hb1)
    | (go_at_call 9; (with_reducible refine (alive14_any _).mono ?_); rintro e w99 ⟨rfl, hb99⟩))
  go_ret
  exact ⟨rfl, b_cl (by assumption) (Nat.le_refl _) hb99⟩

set_option maxRecDepth 100000 in
set_option maxHeartbeats 8000000 in
theorem all_ (w : World) (x0 : Nat → Int) (m1 : Mt) (a2 : Int) (n : Nat) (M1 : Mt) (hm : MayM m1) (hV : farV x0 m1 a2 = ((n : Int), 0)) (hV1 : overV x0 m1 a2 (n : Int) = (M1, noneF, 0)) (hn : m1.now + (n : Int) = 40320) :
    Calls Try.prog 6 #[.agg (bk x0), .agg (mt m1), .int .i64 a2] w fun e w' => e = .returned (.bool true) ∧ Below w.heap.size w w' := by
  have r0 : RdI ((w.alloc (.cells (bk x0) 23)).alloc (.cells (mt m1) 25)) w.heap.size 0 x0 := (RdI.new x0 23 rfl).alloc _
  have ya0 : Bx ((w.alloc (.cells (bk x0) 23)).alloc (.cells (mt m1) 25)) (w.heap.size + 1) 25 (mt m1) := Bx.new (W := w.alloc (.cells (bk x0) 23)) _ _ (by simp)
  have B0 : Below w.heap.size w ((w.alloc (.cells (bk x0) 23)).alloc (.cells (mt m1) 25)) := b_al (b_al (Below.refl _ _) (Nat.le_refl _) _) (Nat.le_refl _) _
  have hmn : (mt m1)[0]? = some (.int .i64 m1.now) := rfl
  have FA := fun W => far14_any x0 m1 a2 W
  rw [hV] at FA
  have OV := fun W => over14_any x0 m1 a2 (n : Int) W
  rw [hV1] at OV
  have MY := fun W => refmay13_any m1 W
  simp only [if_pos hm] at MY
  have LE := fun W => first14_any noneF W
  rw [show firstV noneF = -1 from least_none 10 (fun _ _ => by show (-1 : Int) < 0; decide)] at LE
  dsimp only at FA OV
  have hnow := hm.1
  obtain ⟨nw, hnw⟩ : ∃ nw, m1.now = nw := ⟨_, rfl⟩
  rw [hnw] at hmn hnow hn
  have p0 : ((w.alloc (.cells (bk x0) 23)).alloc (.cells (mt m1) 25)).cell? ⟨w.heap.size + 1, 0, none⟩ = some (.int .i64 nw) := ya0.cell hmn
  have hw40 := wrap14 (40320 - nw) (by omega) (by omega)
  have d0 : decide ((n : Int) < 0) = false := decide_eq_false (by omega)
  have d1 : decide (40320 - nw < (n : Int)) = false := decide_eq_false (by omega)
  have d2 : ¬ 40320 - nw < (n : Int) := by omega
  have d3 : ¬ (n : Int) < 0 := by omega
  have de : ((n : Int) == 40320 - nw) = true := by simpa using (show (n : Int) = 40320 - nw by omega)
  clear hV hV1 hm hnw
  go_enter Try.func6, Try.ntmps6
  go_wp2_with (first
    | go_skip
    | refine wpList_load_bk (by rfl) 23 _ rfl _ _ rfl x0 _ (by assumption) Try.underlying23 rfl (by kernel_rfl) ?_
    | refine wpList_load_box (by rfl) 25 _ rfl (w.heap.size + 1) rfl 25 (mt m1) _ (by assumption) Try.underlying25 rfl (by kernel_rfl) ?_
    | (go_at_call 10; (with_reducible refine (FA _).mono ?_); rintro e w1 ⟨rfl, hb1⟩; have r1 := r0.below hb1; have ya1 := ya0.below hb1; have B1 := b_cl B0 (Nat.le_refl _) hb1; have p1 : w1.cell? ⟨w.heap.size + 1, 0, none⟩ = some (.int .i64 nw) := ya1.cell hmn)
    | (go_at_call 14; (with_reducible refine (MY _).mono ?_); rintro e w2 ⟨rfl, hb2⟩; have r2 := r1.below hb2; have ya2 := ya1.below hb2; have B2 := b_cl B1 (Nat.le_refl _) hb2; have p2 : w2.cell? ⟨w.heap.size + 1, 0, none⟩ = some (.int .i64 nw) := ya2.cell hmn)
    | (go_at_call 7; (with_reducible refine (OV _).mono ?_); rintro e w3 ⟨rfl, hb3⟩; have r3 := r2.below hb3; have ya3 := ya2.below hb3; have B3 := b_cl B2 (Nat.le_refl _) hb3; have p3 : w3.cell? ⟨w.heap.size + 1, 0, none⟩ = some (.int .i64 nw) := ya3.cell hmn)
    | refine wpList_store_box rfl 25 _ _ rfl w3.heap.size (mt M1) rfl rfl 25 (mt .zero) ((Bx.new (W := w3) 25 (mt .zero) rfl).alloc _) (by kernel_rfl) rfl (mt_one _) (fun w4 u4 => ?_)
    | (refine wpList_store_box rfl 29 _ _ rfl (w3.heap.size + 1) (tn noneF) rfl rfl 29 (tn zeroF) (u4.bx (Bx.new (W := w3.alloc _) 29 (tn zeroF) (by simp)) (by omega)) (by kernel_rfl) rfl (tn_one _) (fun w5 u5 => ?_); have r5 := RfS.rdo (RfS.rdo ((r3.alloc _).alloc _) u4 (by have := r3.1; omega)) u5 (by have := r3.1; omega); have ya5 := u5.bx (u4.bx ((ya3.alloc _).alloc _) (by have := ya3.lt; omega)) (by have := ya3.lt; omega); have B5 := ((b_al (b_al B3 (Nat.le_refl _) _) (Nat.le_refl _) _).trans (u4.bel _ B3.size)).trans (u5.bel _ (by have := B3.size; omega)); have ym5 := u5.bx u4.box (by omega); have yf5 := u5.box; have p5 : w5.cell? ⟨w.heap.size + 1, 0, none⟩ = some (.int .i64 nw) := ya5.cell hmn)
    | refine wpList_load_box (by rfl) 29 _ rfl (w3.heap.size + 1) rfl 29 (tn noneF) _ (by assumption) Try.underlying29 rfl (by kernel_rfl) ?_
    | (go_at_call 12; (with_reducible refine (LE _).mono ?_); rintro e w6 ⟨rfl, hb6⟩; have r6 := r5.below hb6; have ya6 := ya5.below hb6; have ym6 := ym5.below hb6; have yf6 := yf5.below hb6; have B6 := b_cl B5 (Nat.le_refl _) hb6; have p6 : w6.cell? ⟨w.heap.size + 1, 0, none⟩ = some (.int .i64 nw) := ya6.cell hmn)
    | (go_at_call 9; (with_reducible refine (alive14_any _).mono ?_); rintro e w99 ⟨rfl, hb99⟩))
  go_ret
  exact ⟨rfl, b_cl (by assumption) (Nat.le_refl _) hb99⟩

set_option maxRecDepth 100000 in
set_option maxHeartbeats 8000000 in
theorem some_ (w : World) (x0 : Nat → Int) (m1 : Mt) (a2 : Int) (n : Nat) (M1 : Mt) (hm : MayM m1) (hV : farV x0 m1 a2 = ((n : Int), 0)) (hV1 : overV x0 m1 a2 (n : Int) = (M1, noneF, 0)) (M2 : Mt) (Y2 : Nat → Int) (hn : m1.now + (n : Int) < 40320) (hV2 : overV x0 m1 a2 ((n : Int) + 1) = (M2, Y2, 0)) (hY2 : firstV Y2 = m1.now + (n : Int)) :
    Calls Try.prog 6 #[.agg (bk x0), .agg (mt m1), .int .i64 a2] w fun e w' => e = .returned (.bool true) ∧ Below w.heap.size w w' := by
  have r0 : RdI ((w.alloc (.cells (bk x0) 23)).alloc (.cells (mt m1) 25)) w.heap.size 0 x0 := (RdI.new x0 23 rfl).alloc _
  have ya0 : Bx ((w.alloc (.cells (bk x0) 23)).alloc (.cells (mt m1) 25)) (w.heap.size + 1) 25 (mt m1) := Bx.new (W := w.alloc (.cells (bk x0) 23)) _ _ (by simp)
  have B0 : Below w.heap.size w ((w.alloc (.cells (bk x0) 23)).alloc (.cells (mt m1) 25)) := b_al (b_al (Below.refl _ _) (Nat.le_refl _) _) (Nat.le_refl _) _
  have hmn : (mt m1)[0]? = some (.int .i64 m1.now) := rfl
  have FA := fun W => far14_any x0 m1 a2 W
  rw [hV] at FA
  have OV := fun W => over14_any x0 m1 a2 (n : Int) W
  rw [hV1] at OV
  have MY := fun W => refmay13_any m1 W
  simp only [if_pos hm] at MY
  have LE := fun W => first14_any noneF W
  rw [show firstV noneF = -1 from least_none 10 (fun _ _ => by show (-1 : Int) < 0; decide)] at LE
  dsimp only at FA OV
  have hnow := hm.1
  have OX := fun W => over14_any x0 m1 a2 ((n : Int) + 1) W
  rw [hV2] at OX
  have LX := fun W => first14_any Y2 W
  rw [hY2] at LX
  dsimp only at OX
  obtain ⟨nw, hnw⟩ : ∃ nw, m1.now = nw := ⟨_, rfl⟩
  rw [hnw] at hmn hnow hn LX
  have p0 : ((w.alloc (.cells (bk x0) 23)).alloc (.cells (mt m1) 25)).cell? ⟨w.heap.size + 1, 0, none⟩ = some (.int .i64 nw) := ya0.cell hmn
  have hw40 := wrap14 (40320 - nw) (by omega) (by omega)
  have d0 : decide ((n : Int) < 0) = false := decide_eq_false (by omega)
  have d1 : decide (40320 - nw < (n : Int)) = false := decide_eq_false (by omega)
  have d2 : ¬ 40320 - nw < (n : Int) := by omega
  have d3 : ¬ (n : Int) < 0 := by omega
  have de : ((n : Int) == 40320 - nw) = false := by simpa using (show ¬ (n : Int) = 40320 - nw by omega)
  have hw1 := wrap14 ((n : Int) + 1) (by omega) (by omega)
  have hw2 := wrap14 (nw + (n : Int)) (by omega) (by omega)
  clear hV hV1 hm hnw hV2 hY2
  go_enter Try.func6, Try.ntmps6
  go_upto_region 12 with (first
    | go_skip
    | refine wpList_load_bk (by rfl) 23 _ rfl _ _ rfl x0 _ (by assumption) Try.underlying23 rfl (by kernel_rfl) ?_
    | refine wpList_load_box (by rfl) 25 _ rfl (w.heap.size + 1) rfl 25 (mt m1) _ (by assumption) Try.underlying25 rfl (by kernel_rfl) ?_
    | (go_at_call 10; (with_reducible refine (FA _).mono ?_); rintro e w1 ⟨rfl, hb1⟩; have r1 := r0.below hb1; have ya1 := ya0.below hb1; have B1 := b_cl B0 (Nat.le_refl _) hb1; have p1 : w1.cell? ⟨w.heap.size + 1, 0, none⟩ = some (.int .i64 nw) := ya1.cell hmn)
    | (go_at_call 14; (with_reducible refine (MY _).mono ?_); rintro e w2 ⟨rfl, hb2⟩; have r2 := r1.below hb2; have ya2 := ya1.below hb2; have B2 := b_cl B1 (Nat.le_refl _) hb2; have p2 : w2.cell? ⟨w.heap.size + 1, 0, none⟩ = some (.int .i64 nw) := ya2.cell hmn)
    | (go_at_call 7; (with_reducible refine (OV _).mono ?_); rintro e w3 ⟨rfl, hb3⟩; have r3 := r2.below hb3; have ya3 := ya2.below hb3; have B3 := b_cl B2 (Nat.le_refl _) hb3; have p3 : w3.cell? ⟨w.heap.size + 1, 0, none⟩ = some (.int .i64 nw) := ya3.cell hmn)
    | refine wpList_store_box rfl 25 _ _ rfl w3.heap.size (mt M1) rfl rfl 25 (mt .zero) ((Bx.new (W := w3) 25 (mt .zero) rfl).alloc _) (by kernel_rfl) rfl (mt_one _) (fun w4 u4 => ?_)
    | (refine wpList_store_box rfl 29 _ _ rfl (w3.heap.size + 1) (tn noneF) rfl rfl 29 (tn zeroF) (u4.bx (Bx.new (W := w3.alloc _) 29 (tn zeroF) (by simp)) (by omega)) (by kernel_rfl) rfl (tn_one _) (fun w5 u5 => ?_); have r5 := RfS.rdo (RfS.rdo ((r3.alloc _).alloc _) u4 (by have := r3.1; omega)) u5 (by have := r3.1; omega); have ya5 := u5.bx (u4.bx ((ya3.alloc _).alloc _) (by have := ya3.lt; omega)) (by have := ya3.lt; omega); have B5 := ((b_al (b_al B3 (Nat.le_refl _) _) (Nat.le_refl _) _).trans (u4.bel _ B3.size)).trans (u5.bel _ (by have := B3.size; omega)); have ym5 := u5.bx u4.box (by omega); have yf5 := u5.box; have p5 : w5.cell? ⟨w.heap.size + 1, 0, none⟩ = some (.int .i64 nw) := ya5.cell hmn)
    | refine wpList_load_box (by rfl) 29 _ rfl (w3.heap.size + 1) rfl 29 (tn noneF) _ (by assumption) Try.underlying29 rfl (by kernel_rfl) ?_
    | (go_at_call 12; (with_reducible refine (LE _).mono ?_); rintro e w6 ⟨rfl, hb6⟩; have r6 := r5.below hb6; have ya6 := ya5.below hb6; have ym6 := ym5.below hb6; have yf6 := yf5.below hb6; have B6 := b_cl B5 (Nat.le_refl _) hb6; have p6 : w6.cell? ⟨w.heap.size + 1, 0, none⟩ = some (.int .i64 nw) := ya6.cell hmn)
    | (go_at_call 7; (with_reducible refine (OX _).mono ?_); rintro e w7 ⟨rfl, hb7⟩; have r7 := r6.below hb7; have ya7 := ya6.below hb7; have ym7 := ym6.below hb7; have yf7 := yf6.below hb7; have B7 := b_cl B6 (Nat.le_refl _) hb7; have p7 : w7.cell? ⟨w.heap.size + 1, 0, none⟩ = some (.int .i64 nw) := ya7.cell hmn)
    | (refine wpList_store_box rfl 29 _ _ rfl (w3.heap.size + 1) (tn Y2) rfl rfl 29 (tn noneF) yf7 (by kernel_rfl) rfl (tn_one _) (fun w8 u8 => ?_); have ya8 := u8.bx ya7 (by have := ya3.lt; omega); have B8 := B7.trans (u8.bel _ (by have := B3.size; omega)); have yf8 := u8.box; have p8 : w8.cell? ⟨w.heap.size + 1, 0, none⟩ = some (.int .i64 nw) := ya8.cell hmn))
  (try go_frame)
  refine wp_region_noPanic ?_
  refine wp_region_held_drew (S := fun w' => Below w8.heap.size w8 w') (by kernel_rfl) ?_ (fun hHeld => ?_)
  · exact b_dr (Below.refl _ _)
  refine wpAnyH_take (i := 0) (oi := ⟨some 72, _, _, _, _, _⟩) (v := ?_) rfl (by kernel_rfl) (by kernel_rfl) (by kernel_rfl) (fun _ _ _ h => h) (Or.inl ⟨by rfl, ?_⟩) (by assumption) ?_
  rotate_left
  · (intro w' hSw; clear hSw; go_simp; try (with_reducible rfl))
  (try simp only [Act.put, List.setIfInBounds_toArray, List.set_cons_zero, List.set_cons_succ])
  refine wpAnyH_take (i := 1) (oi := ⟨some 73, _, _, _, _, _⟩) (v := ?_) rfl (by kernel_rfl) (by kernel_rfl) (by kernel_rfl) (fun _ _ _ h => h) (Or.inl ⟨by rfl, ?_⟩) (by assumption) ?_
  rotate_left
  · (intro w' hSw; clear hSw; go_simp; try (with_reducible rfl))
  (try simp only [Act.put, List.setIfInBounds_toArray, List.set_cons_zero, List.set_cons_succ])
  refine wpAnyH_take (i := 2) (oi := ⟨some 74, _, _, _, _, _⟩) (v := ?_) rfl (by kernel_rfl) (by kernel_rfl) (by kernel_rfl) (fun _ _ _ h => h) (Or.inl ⟨by rfl, ?_⟩) (by assumption) ?_
  rotate_left
  · (intro w' hSw; clear hSw; go_simp; try (with_reducible rfl))
  (try simp only [Act.put, List.setIfInBounds_toArray, List.set_cons_zero, List.set_cons_succ])
  refine wpAnyH_take (i := 3) (oi := ⟨some 75, _, _, _, _, _⟩) (v := .agg (tn Y2)) rfl (by kernel_rfl) (by kernel_rfl) (by kernel_rfl) (fun _ _ _ h => h) (Or.inl ⟨by rfl, fun w' hSw => exec_load_box (w3.heap.size + 1) 29 _ _ w' rfl rfl (yf8.below hSw) Try.underlying29 rfl (by kernel_rfl)⟩) (by assumption) ?_
  (try simp only [Act.put, List.setIfInBounds_toArray, List.set_cons_zero, List.set_cons_succ])
  refine wpAnyH_take (i := 5) (oi := ⟨some 77, _, _, _, _, _⟩) (v := ?_) rfl (by kernel_rfl) (by kernel_rfl) (by kernel_rfl) (fun _ _ _ h => h) (Or.inl ⟨by rfl, ?_⟩) (by assumption) ?_
  rotate_left
  · (intro w' hSw; clear hSw; go_simp; try (with_reducible rfl))
  (try simp only [Act.put, List.setIfInBounds_toArray, List.set_cons_zero, List.set_cons_succ])
  refine wpAnyH_take (i := 6) (oi := ⟨some 78, _, _, _, _, _⟩) (v := ?_) rfl (by kernel_rfl) (by kernel_rfl) (by kernel_rfl) (fun _ _ _ h => h) (Or.inl ⟨by rfl, ?_⟩) (by assumption) ?_
  rotate_left
  · (intro w' hSw; have q0 := c_cl p8 hSw; clear hSw; go_simp; try (with_reducible rfl))
  (try simp only [Act.put, List.setIfInBounds_toArray, List.set_cons_zero, List.set_cons_succ])
  refine wpAnyH_take (i := 7) (oi := ⟨some 79, _, _, _, _, _⟩) (v := ?_) rfl (by kernel_rfl) (by kernel_rfl) (by kernel_rfl) (fun _ _ _ h => h) (Or.inl ⟨by rfl, ?_⟩) (by assumption) ?_
  rotate_left
  · (intro w' hSw; clear hSw; go_simp; try (with_reducible rfl))
  (try simp only [Act.put, List.setIfInBounds_toArray, List.set_cons_zero, List.set_cons_succ])
  refine wpAnyH_take (i := 8) (oi := ⟨some 80, _, _, _, _, _⟩) (v := ?_) rfl (by kernel_rfl) (by kernel_rfl) (by kernel_rfl) (fun _ _ _ h => h) (Or.inl ⟨by rfl, ?_⟩) (by assumption) ?_
  rotate_left
  · (intro w' hSw; clear hSw; go_simp; try (with_reducible rfl))
  (try simp only [Act.put, List.setIfInBounds_toArray, List.set_cons_zero, List.set_cons_succ])
  refine wpAnyH_ready (rs := [4]) (by kernel_rfl) (by simp) ?_
  refine AllReadyH.cons (o := ⟨some 76, _, _, _, _, _⟩) rfl (fun K hK => ?_) AllReadyH.nil
  go_simp
  (go_at_call 12; (with_reducible refine (LX _).mono ?_); rintro e w50 ⟨rfl, hb50⟩)
  go_wp2_with fail
  refine hK.out _ _ (b_cl hHeld (Nat.le_refl _) (by assumption)) (fun hHeld => ?_)
  clear hK K
  (try simp only [Act.put, List.setIfInBounds_toArray, List.set_cons_zero, List.set_cons_succ])
  refine wpAnyH_take (i := 9) (oi := ⟨some 81, _, _, _, _, _⟩) (v := ?_) rfl (by kernel_rfl) (by kernel_rfl) (by kernel_rfl) (fun _ _ _ h => h) (Or.inl ⟨by rfl, ?_⟩) (by assumption) ?_
  rotate_left
  · (intro w' hSw; clear hSw; go_simp; try (with_reducible rfl))
  (try simp only [Act.put, List.setIfInBounds_toArray, List.set_cons_zero, List.set_cons_succ])
  refine wpAnyH_take (i := 10) (oi := ⟨some 82, _, _, _, _, _⟩) (v := ?_) rfl (by kernel_rfl) (by kernel_rfl) (by kernel_rfl) (fun _ _ _ h => h) (Or.inl ⟨by rfl, ?_⟩) (by assumption) ?_
  rotate_left
  · (intro w' hSw; clear hSw; go_simp; try (with_reducible rfl))
  (try simp only [Act.put, List.setIfInBounds_toArray, List.set_cons_zero, List.set_cons_succ])
  refine wpAnyH_take (i := 11) (oi := ⟨some 83, _, _, _, _, _⟩) (v := ?_) rfl (by kernel_rfl) (by kernel_rfl) (by kernel_rfl) (fun _ _ _ h => h) (Or.inl ⟨by rfl, ?_⟩) (by assumption) ?_
  rotate_left
  · (intro w' hSw; clear hSw; go_simp; try (with_reducible rfl))
  (try simp only [Act.put, List.setIfInBounds_toArray, List.set_cons_zero, List.set_cons_succ])
  refine wpAnyH_ready (rs := [12]) (by kernel_rfl) (by simp) ?_
  refine AllReadyH.cons (o := ⟨some 84, _, _, _, _, _⟩) rfl (fun K hK => ?_) AllReadyH.nil
  go_simp
  (go_at_call 9; (with_reducible refine (alive14_any _).mono ?_); rintro e w99 ⟨rfl, hb99⟩)
  go_wp2_with fail
  refine hK.out _ _ (b_cl hHeld (Nat.le_refl _) (by assumption)) (fun hHeld => ?_)
  clear hK K
  (try simp only [Act.put, List.setIfInBounds_toArray, List.set_cons_zero, List.set_cons_succ])
  refine wpAnyH_take (i := 13) (oi := ⟨some 85, _, _, _, _, _⟩) (v := ?_) rfl (by kernel_rfl) (by kernel_rfl) (by kernel_rfl) (fun _ _ _ h => h) (Or.inl ⟨by rfl, ?_⟩) (by assumption) ?_
  rotate_left
  · (intro w' hSw; clear hSw; go_simp; try (with_reducible rfl))
  (try simp only [Act.put, List.setIfInBounds_toArray, List.set_cons_zero, List.set_cons_succ])
  refine wpAnyH_take (i := 14) (oi := ⟨some 6, _, _, _, _, _⟩) (v := ?_) rfl (by kernel_rfl) (by kernel_rfl) (by kernel_rfl) (fun _ _ _ h => h) (Or.inl ⟨by rfl, ?_⟩) (by assumption) ?_
  rotate_left
  · (intro w' hSw; clear hSw; go_simp; try (with_reducible rfl))
  (try simp only [Act.put, List.setIfInBounds_toArray, List.set_cons_zero, List.set_cons_succ])
  refine wpAnyH_done (by kernel_rfl) ?_ _
  refine NoPanic.normal ?_
  go_wp2
  go_ret
  exact ⟨rfl, b_cl B8 (Nat.le_refl _) hHeld⟩

theorem walk (w : World) (x0 : Nat → Int) (m1 : Mt) (a2 : Int) (w2 : (Lit.int .i64 a2).wf = true) :
    Calls Try.prog 6 #[.agg (bk x0), .agg (mt m1), .int .i64 a2] w fun e w' => e = .returned (.bool true) ∧ Below w.heap.size w w' := by
  by_cases he : err14 x0 m1 a2 = 0
  case neg => exact bad w x0 m1 a2 _ (by unfold farV; rw [if_neg he]) he
  obtain ⟨hx, hm, hk⟩ := err14_ok.1 he
  have hnow := hm.1
  have hV : farV x0 m1 a2 = ((farR x0 a2 (40320 - m1.now).toNat m1 : Int), 0) := by unfold farV; rw [if_pos he]
  obtain ⟨fu, hfu⟩ : ∃ fu : Nat, (40320 - m1.now).toNat = fu := ⟨_, rfl⟩
  rw [hfu] at hV
  have hle := farR_le x0 a2 fu m1
  have h1 := over_good (k := a2) (farR x0 a2 fu m1) he (by omega)
  rw [far_none x0 a2 fu m1 _ (Nat.le_refl _)] at h1
  by_cases hr : farR x0 a2 fu m1 = fu
  · exact all_ w x0 m1 a2 _ _ hm hV h1 (by rw [hr]; omega)
  · have h2 := over_good (k := a2) (farR x0 a2 fu m1 + 1) he (by omega)
    have h3 := far_first x0 a2 fu (farR x0 a2 fu m1 + 1) hm (by omega) (by omega) (by omega) (by omega)
    rw [Int.natCast_add] at h2
    exact some_ w x0 m1 a2 _ _ hm hV h1 _ _ (by omega) h2 h3

set_option maxRecDepth 100000 in
theorem lifted (os : Os) (started : os.Started) (H : Type) (enc : TypeId × Value → H) :
    ReturnsInHanded {} Try.checked os 6 .any (Rows.stretchEnoughSpec.pre6 enc Try.prog Try.f6 Rows.stretchEnoughRow.domain false) (Rows.stretchEnoughSpec.post enc Try.prog Try.f6 false true false false) := by
  refine returnsInHanded_of_change (C := Try.checked) own started (by kernel_rfl) Try.func6
    (ChangeSpec.witness6 (enc := enc) (C := Try.checked) false ⟨#[], #[.agg #[.int .i64 0, .int .i64 0, .int .i64 0, .int .i64 0, .int .i64 0, .int .i64 0, .int .i64 0, .int .i64 0, .int .i64 0, .int .i64 0, .int .i64 0, .int .i64 0, .int .i64 0, .int .i64 0, .int .i64 0, .int .i64 0, .int .i64 0, .int .i64 0, .int .i64 0], .agg #[.int .i64 0, .int .i64 0, .bool false, .int .i64 0, .int .i64 0, .int .i64 0, .int .i64 0, .bool false, .int .i64 0, .int .i64 0, .bool false, .int .i64 0, .int .i64 0, .int .i64 0], .int .i64 0], []⟩ 8 (by kernel_rfl) (by kernel_rfl) (by kernel_rfl) (by kernel_rfl)) ?_
  intro W base args ds gs before hval0 hW hcnd _
  have hval : ∀ (j : Nat) t v, Try.f6.params[j]? = some t → args[j]? = some v → Value.okWide Try.prog W .any base t v := hval0
  have hW' := hW
  obtain ⟨p, q, hA0, hV, rfl, hfz, hnd⟩ := hW
  have hA : DataW.TrodAll enc Try.prog W 0 (fun _ => true) true Try.f6.params.toList args.toList ds p := hA0
  rw [Try.params6] at hA hval
  obtain ⟨v0, vs0, d0, ds0, p0, q0, hargs, rfl, rfl, h0, r0⟩ := trodAll_cons hA
  obtain ⟨v1, vs1, d1, ds1, p1, q1, rfl, rfl, rfl, h1, r1⟩ := trodAll_cons r0
  obtain ⟨v2, vs2, d2, ds2, p2, q2, rfl, rfl, rfl, h2, r2⟩ := trodAll_cons r1
  obtain ⟨rfl, rfl, rfl⟩ := trodAll_nil r2
  obtain rfl : args = #[v0, v1, v2] := by cases args; simp_all
  obtain ⟨rfl, rfl⟩ := trodVars_none hV
  have k0 := h0
  have lt0 : ∀ x ∈ p0, x.block < W.heap.size := by obtain ⟨m, hm⟩ := k0; exact DataW.trod_lt m _ _ _ hm
  obtain ⟨x0, rfl⟩ := open_book (hval 0 23 v0 rfl rfl) h0
  have k1 := h1
  have lt1 : ∀ x ∈ p1, x.block < W.heap.size := by obtain ⟨m, hm⟩ := k1; exact DataW.trod_lt m _ _ _ hm
  obtain ⟨m1, rfl⟩ := open_meter (hval 1 25 v1 rfl rfl) h1
  obtain ⟨a2, rfl, rfl, rfl, w2⟩ := open_int Try.underlying3 (hval 2 3 v2 rfl rfl) h2
  clear hA0 hval0
  refine (walk W x0 m1 a2 w2).mono fun e W' ⟨he, bel⟩ => ?_
  subst he
  exact ⟨_, rfl, _, _, _, [], _, [], hW', trodAll_mk1 (shut_bool Try.underlying4 _), (trodAll_cons_mk (Below.trod laidOut (by kernel_rfl) (of_decide_eq_true (by kernel_rfl)) k0 bel lt0) (trodAll_cons_mk (Below.trod laidOut (by kernel_rfl) (of_decide_eq_true (by kernel_rfl)) k1 bel lt1) (trodAll_cons_mk (shut_int Try.underlying3 w2) trodAll_mk0))), rfl, bel.frame _, fun h => by cases h⟩

theorem over : Rows.stretchEnoughRow.holds Try.pinned (OpenSpec.ofChange Rows.stretchEnoughSpec) :=
  OpenClaim.holds_of_wide 6 Try.f6 rfl rfl rfl rfl rfl rfl rfl ⟨rfl, rfl, rfl, rfl, rfl⟩ rfl rfl rfl rfl rfl (by kernel_rfl) Try.func6 (by kernel_rfl)
    (of_decide_eq_true (by kernel_rfl)) (by unfold Func.isWrapper; first | (rw [if_pos (by decide +kernel)]; kernel_rfl) | (rw [if_neg (by decide +kernel)]; exact ⟨rfl, rfl⟩))
    (fun os started H enc _ => lifted os started H enc)

theorem proved : Rows.StretchEnoughSaid := over
#print axioms proved
end Go.Proofs.Ytndhagflfbblaaa.stretchEnough
