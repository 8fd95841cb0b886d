/- What is run in two parts is run as one; a meter may be behind each minute; rest breaks nothing. Conditions: none. -/
import Derived.Test.YteepjpegojlihaaRows
import Derived.Test.YteepjpegojlihaaBase
import Derived.Test.YteepjpegojlihaaRow
import Derived.Test.YteepjpegojlihaaBookRow
import Derived.Test.YteepjpegojlihaaBookLim
import Derived.Test.YteepjpegojlihaaBookMayR
import Derived.Test.YteepjpegojlihaaBookLaws
import Derived.Test.YteepjpegojlihaaBookOpen
import Derived.Test.YteepjpegojlihaaBookAlive
import Derived.Test.YteepjpegojlihaaRecMath
import Derived.Test.YteepjpegojlihaaRecHeap
import Derived.Test.YteepjpegojlihaaBox
import Derived.Test.YteepjpegojlihaaSpellMath
import Derived.Test.YteepjpegojlihaaMeterMath
import Derived.Test.YteepjpegojlihaaMeterRun
import Derived.Test.YteepjpegojlihaaMeterStep
import Derived.Test.YteepjpegojlihaaMeterChk
import Derived.Test.YteepjpegojlihaaMeterMayR
import Derived.Test.YteepjpegojlihaaMeterRRun
import Derived.Test.YteepjpegojlihaaMeterOpen
import Derived.Test.YteepjpegojlihaaMeterLaws
import Derived.Test.YteepjpegojlihaaMeterAlive
import Derived.Test.YteepjpegojlihaaMeterBit
import Derived.Test.YteepjpegojlihaaIntsApp
import Derived.WalkKit
import Derived.WalkSmall
import Derived.WalkSpells
import Derived.ProofKit
import Derived.OpenShut
import Derived.ShutString
import Derived.ChangeOld
import Derived.Below
import Derived.Lib.Hide
import Derived.OwnWalk
import Derived.BigQuiet
import Derived.Outline
import Derived.Great.BuildSlice
import Derived.Maps.RangeWalk
import Derived.Deep.DeepCutAuto
import Derived.OrdersHeld
import Derived.Deep.RegionHeld3
import Derived.Test.YteepjpegojlihaaMeterPartsP0
namespace Go.Proofs.Yteepjpegojlihaa.meterParts
open Go.ChangeShapes Go.WideShapes Go.ChangeAt Go.RowKit
open Go.ChangeMaps (open_string shut_string)
set_option linter.unusedVariables false

set_option maxRecDepth 100000 in
set_option maxHeartbeats 8000000 in
theorem bs (w : World) (x0 : Nat → Int) (m1 : Mt) (A2 : Option Addr) (c2 : Nat) (l2 : List Int) (D2 : Option Addr) (e2 : Nat) (k'2 : List Int) (rd2 : RdN w A2 l2) (rk2 : RdN w D2 k'2) (zz2 : A2 = none → c2 = 0) (zk2 : D2 = none → e2 = 0) (hl : l2.length ≤ 300) (hk : k'2.length ≤ 300) (M1 M2 : Mt) (N1 N2 : Nat) (hM : MayM M1) (hV1 : meterV x0 m1 l2 = (M1, N1, 0)) (E2 : Int) (hE : E2 ≠ 0) (N3 : Nat) (M3 : Mt) (hV2 : meterV x0 M1 k'2 = (M2, N2, E2)) (hV3 : meterV x0 m1 (l2 ++ k'2) = (M3, N3, E2)) (hn : M1.now = 40320) (hV4 : meterV x0 M1 [0] = (.zero, 0, 4)) :
    Calls Try.prog 6 #[.agg (bk x0), .agg (mt m1), .agg #[.slice A2 l2.length c2, .slice D2 k'2.length e2]] w fun e w' => e = .returned (.bool true) ∧ Below w.heap.size w w' := by
  have r0 : RdI (((w.alloc (.cells (bk x0) 23)).alloc (.cells (mt m1) 25)).alloc (.cells #[.slice A2 l2.length c2, .slice D2 k'2.length e2] 41)) w.heap.size 0 x0 := ((RdI.new x0 23 rfl).alloc _).alloc _
  have ya0 : Bx (((w.alloc (.cells (bk x0) 23)).alloc (.cells (mt m1) 25)).alloc (.cells #[.slice A2 l2.length c2, .slice D2 k'2.length e2] 41)) (w.heap.size + 1) 25 (mt m1) := (Bx.new (W := w.alloc (.cells (bk x0) 23)) _ _ (by simp)).alloc _
  have xa0 : Bx (((w.alloc (.cells (bk x0) 23)).alloc (.cells (mt m1) 25)).alloc (.cells #[.slice A2 l2.length c2, .slice D2 k'2.length e2] 41)) (w.heap.size + 2) 41 #[.slice A2 l2.length c2, .slice D2 k'2.length e2] := Bx.new (W := (w.alloc (.cells (bk x0) 23)).alloc (.cells (mt m1) 25)) _ _ (by simp)
  have B0 : Below w.heap.size w (((w.alloc (.cells (bk x0) 23)).alloc (.cells (mt m1) 25)).alloc (.cells #[.slice A2 l2.length c2, .slice D2 k'2.length e2] 41)) := b_al (b_al (b_al (Below.refl _ _) (Nat.le_refl _) _) (Nat.le_refl _) _) (Nat.le_refl _) _
  have p0 : (((w.alloc (.cells (bk x0) 23)).alloc (.cells (mt m1) 25)).alloc (.cells #[.slice A2 l2.length c2, .slice D2 k'2.length e2] 41)).cell? ⟨w.heap.size + 2, 0, none⟩ = some (.slice A2 l2.length c2) := xa0.cell rfl
  have q0 : (((w.alloc (.cells (bk x0) 23)).alloc (.cells (mt m1) 25)).alloc (.cells #[.slice A2 l2.length c2, .slice D2 k'2.length e2] 41)).cell? ⟨w.heap.size + 2, 1, none⟩ = some (.slice D2 k'2.length e2) := xa0.cell rfl
  have d0 : decide ((300 : Int) < (l2.length : Int)) = false := decide_eq_false (by omega)
  have d1 : decide ((300 : Int) < (k'2.length : Int)) = false := decide_eq_false (by omega)
  have d2 : ¬ ((300 : Int) < (l2.length : Int)) := by omega
  have d3 : ¬ ((300 : Int) < (k'2.length : Int)) := by omega
  have RN := fun W h => run_any x0 m1 A2 c2 l2 W h (by omega)
  rw [hV1] at RN
  have RK := fun W h => run_any x0 M1 D2 e2 k'2 W h (by omega)
  rw [hV2] at RK
  have RA := fun W A c h => run_any x0 m1 A c (l2 ++ k'2) W h (by rw [List.length_append]; omega)
  rw [hV3] at RA
  dsimp only at RN RK RA
  have ST := fun W => step13_any x0 M1 0 W
  rw [hV4] at ST
  dsimp only at ST
  have hnn : (M1.now == 40320) = true := by simpa using hn
  clear hn
  have MC := fun W => mcheck_any M1 W
  simp only [if_pos hM] at MC
  have ne : (E2 != 0) = true := by simpa using hE
  have ne2 : (E2 == 0) = false := by simpa using hE
  have R0 := rd2.below B0
  have LL := Lib.hid hl
  have KK := Lib.hid hk
  clear hl hk hV1 hV2 hV3 hV4 hM
  clear hE
  go_enter Try.func6, Try.ntmps6
  go_upto_region 8 with (first
    | go_skip
    | refine wpList_load_bk (by rfl) 23 _ rfl _ _ rfl x0 _ (by assumption) Try.underlying23 rfl (by kernel_rfl) ?_
    | refine wpList_load_box (by rfl) 25 _ rfl (w.heap.size + 1) rfl 25 (mt m1) _ (by assumption) Try.underlying25 rfl (by kernel_rfl) ?_
    | (go_at_call 12; (with_reducible refine (RN _ R0).mono ?_); rintro e w1 ⟨rfl, hb1⟩; have r1 := r0.below hb1; have ya1 := ya0.below hb1; have xa1 := xa0.below hb1; have B1 := b_cl B0 (Nat.le_refl _) hb1; have p1 : w1.cell? ⟨w.heap.size + 2, 0, none⟩ = some (.slice A2 l2.length c2) := xa1.cell rfl; have q1 : w1.cell? ⟨w.heap.size + 2, 1, none⟩ = some (.slice D2 k'2.length e2) := xa1.cell rfl)
    | (refine wpList_store_box rfl 25 _ _ rfl w1.heap.size (mt M1) rfl rfl 25 (mt .zero) (Bx.new (W := w1) 25 (mt .zero) rfl) (by kernel_rfl) rfl (mt_one _) (fun w2 u2 => ?_); have r2 := RdI.other (r1.alloc _) u2 (Nat.ne_of_lt r1.1); have ya2 := u2.bx (ya1.alloc _) (Nat.ne_of_lt ya1.lt); have xa2 := u2.bx (xa1.alloc _) (Nat.ne_of_lt xa1.lt); have B2 := (b_al B1 (Nat.le_refl _) _).trans (u2.bel _ B1.size); have yn2 := u2.box; have p2 : w2.cell? ⟨w.heap.size + 2, 0, none⟩ = some (.slice A2 l2.length c2) := xa2.cell rfl; have q2 : w2.cell? ⟨w.heap.size + 2, 1, none⟩ = some (.slice D2 k'2.length e2) := xa2.cell rfl)
    | refine wpList_load_box (by rfl) 25 _ rfl (w1.heap.size) rfl 25 (mt M1) _ (by assumption) Try.underlying25 rfl (by kernel_rfl) ?_
    | (go_at_call 12; (with_reducible refine (RK _ (rk2.below B2)).mono ?_); rintro e w3 ⟨rfl, hb3⟩; have r3 := r2.below hb3; have ya3 := ya2.below hb3; have xa3 := xa2.below hb3; have yn3 := yn2.below hb3; have B3 := b_cl B2 (Nat.le_refl _) hb3; have p3 : w3.cell? ⟨w.heap.size + 2, 0, none⟩ = some (.slice A2 l2.length c2) := xa3.cell rfl; have q3 : w3.cell? ⟨w.heap.size + 2, 1, none⟩ = some (.slice D2 k'2.length e2) := xa3.cell rfl)
    | (refine wpList_store_box rfl 25 _ _ rfl w3.heap.size (mt M2) rfl rfl 25 (mt .zero) (Bx.new (W := w3) 25 (mt .zero) rfl) (by kernel_rfl) rfl (mt_one _) (fun w4 u4 => ?_); have r4 := RdI.other (r3.alloc _) u4 (Nat.ne_of_lt r3.1); have ya4 := u4.bx (ya3.alloc _) (Nat.ne_of_lt ya3.lt); have xa4 := u4.bx (xa3.alloc _) (Nat.ne_of_lt xa3.lt); have yn4 := u4.bx (yn3.alloc _) (Nat.ne_of_lt yn3.lt); have B4 := (b_al B3 (Nat.le_refl _) _).trans (u4.bel _ B3.size); have yk4 := u4.box; have p4 : w4.cell? ⟨w.heap.size + 2, 0, none⟩ = some (.slice A2 l2.length c2) := xa4.cell rfl; have q4 : w4.cell? ⟨w.heap.size + 2, 1, none⟩ = some (.slice D2 k'2.length e2) := xa4.cell rfl))
  have HX := Lib.hid xa4
  refine wp_region_noPanic ?_
  refine wp_region_held_drew (S := fun w' => Below w4.heap.size w4 w') (by kernel_rfl) ?_ (fun hHeld => ?_)
  · exact b_dr (Below.refl _ _)
  refine wpAnyH_take (i := 0) (oi := ⟨some 61, _, _, _, _, _⟩) (v := ?_) rfl (by kernel_rfl) (by kernel_rfl) (by kernel_rfl) (fun _ _ _ h => h) (Or.inl ⟨by rfl, ?_⟩) (by assumption) ?_
  rotate_left
  · (intro w' hSw; clear hSw; go_simp; try (with_reducible rfl))
  (try simp only [Act.put, List.setIfInBounds_toArray, List.set_cons_zero, List.set_cons_succ])
  refine wpAnyH_take (i := 1) (oi := ⟨some 62, _, _, _, _, _⟩) (v := ?_) rfl (by kernel_rfl) (by kernel_rfl) (by kernel_rfl) (fun _ _ _ h => h) (Or.inl ⟨by rfl, ?_⟩) (by assumption) ?_
  rotate_left
  · (intro w' hSw; clear hSw; go_simp; try (with_reducible rfl))
  (try simp only [Act.put, List.setIfInBounds_toArray, List.set_cons_zero, List.set_cons_succ])
  refine wpAnyH_take (i := 2) (oi := ⟨some 63, _, _, _, _, _⟩) (v := ?_) rfl (by kernel_rfl) (by kernel_rfl) (by kernel_rfl) (fun _ _ _ h => h) (Or.inl ⟨by rfl, ?_⟩) (by assumption) ?_
  rotate_left
  · (intro w' hSw; have := (HX.out.keep hSw HX.out.lt).cell (k := 0) (v := .slice A2 l2.length c2) rfl; clear hSw; go_simp; try (with_reducible rfl))
  (try simp only [Act.put, List.setIfInBounds_toArray, List.set_cons_zero, List.set_cons_succ])
  refine wpAnyH_take (i := 4) (oi := ⟨some 65, _, _, _, _, _⟩) (v := ?_) rfl (by kernel_rfl) (by kernel_rfl) (by kernel_rfl) (fun _ _ _ h => h) (Or.inl ⟨by rfl, ?_⟩) (by assumption) ?_
  rotate_left
  · (intro w' hSw; clear hSw; go_simp; try (with_reducible rfl))
  (try simp only [Act.put, List.setIfInBounds_toArray, List.set_cons_zero, List.set_cons_succ])
  refine wpAnyH_take (i := 5) (oi := ⟨some 66, _, _, _, _, _⟩) (v := ?_) rfl (by kernel_rfl) (by kernel_rfl) (by kernel_rfl) (fun _ _ _ h => h) (Or.inl ⟨by rfl, ?_⟩) (by assumption) ?_
  rotate_left
  · (intro w' hSw; have := (HX.out.keep hSw HX.out.lt).cell (k := 1) (v := .slice D2 k'2.length e2) rfl; clear hSw; go_simp; try (with_reducible rfl))
  (try simp only [Act.put, List.setIfInBounds_toArray, List.set_cons_zero, List.set_cons_succ])
  refine wpAnyH_ready (rs := [3]) (by kernel_rfl) (by simp) ?_
  refine AllReadyH.cons (o := ⟨some 64, _, _, _, _, _⟩) rfl (fun K hK => ?_) AllReadyH.nil
  refine wp_append_ints _ _ rfl w4.heap.size _ ([]) rfl (OwnN.nil _ _) A2 c2 l2 rfl (rd2.below (b_tr B4 hHeld)) zz2 (by have := LL.out; have := KK.out; (try simp only [List.length_nil]); omega) hHeld.size (fun v5 w5 own5 hb5 => ?_)
  refine hK.out _ _ (hHeld.trans hb5) (fun hHeld => ?_)
  clear hK K
  (try simp only [Act.put, List.setIfInBounds_toArray, List.set_cons_zero, List.set_cons_succ])
  rw [List.nil_append] at own5
  refine wpAnyH_ready (rs := [6]) (by kernel_rfl) (by simp) ?_
  refine AllReadyH.cons (o := ⟨some 67, _, _, _, _, _⟩) rfl (fun K hK => ?_) AllReadyH.nil
  refine wp_append_ints _ _ rfl w4.heap.size _ (l2) rfl (own5) D2 e2 k'2 rfl (rk2.below (b_tr B4 hHeld)) zk2 (by have := LL.out; have := KK.out; (try simp only [List.length_nil]); omega) hHeld.size (fun v6 w6 own6 hb6 => ?_)
  refine hK.out _ _ (hHeld.trans hb6) (fun hHeld => ?_)
  clear hK K
  (try simp only [Act.put, List.setIfInBounds_toArray, List.set_cons_zero, List.set_cons_succ])
  refine wpAnyH_take (i := 7) (oi := ⟨some 13, _, _, _, _, _⟩) (v := ?_) rfl (by kernel_rfl) (by kernel_rfl) (by kernel_rfl) (fun _ _ _ h => h) (Or.inl ⟨by rfl, ?_⟩) (by assumption) ?_
  rotate_left
  · (intro w' hSw; clear hSw; go_simp; try (with_reducible rfl))
  (try simp only [Act.put, List.setIfInBounds_toArray, List.set_cons_zero, List.set_cons_succ])
  refine wpAnyH_done (by kernel_rfl) ?_ _
  refine NoPanic.normal ?_
  obtain ⟨lk, hlk⟩ : ∃ lk, lk = l2 ++ k'2 := ⟨_, rfl⟩
  rw [← hlk] at own6 RA
  clear hlk
  obtain ⟨A6, c6, rfl, rd6⟩ := own6.read
  have r6 := r4.below hHeld
  have ya6 := ya4.below hHeld
  have xa6 := xa4.below hHeld
  have yn6 := yn4.below hHeld
  have yk6 := yk4.below hHeld
  have B6 := b_tr B4 hHeld
  clear RN RK
  go_wp2_with (first
    | go_skip
    | refine wpList_load_bk (by rfl) 23 _ rfl _ _ rfl x0 _ (by assumption) Try.underlying23 rfl (by kernel_rfl) ?_
    | refine wpList_load_box (by rfl) 25 _ rfl (w.heap.size + 1) rfl 25 (mt m1) _ (by assumption) Try.underlying25 rfl (by kernel_rfl) ?_
    | refine wpList_load_box (by rfl) 25 _ rfl (w1.heap.size) rfl 25 (mt M1) _ (by assumption) Try.underlying25 rfl (by kernel_rfl) ?_
    | (go_at_call 12; (with_reducible refine (RA _ _ _ rd6).mono ?_); rintro e w7 ⟨rfl, hb7⟩; have r7 := r6.below hb7; have ya7 := ya6.below hb7; have yn7 := yn6.below hb7; have yk7 := yk6.below hb7; have B7 := b_cl B6 (Nat.le_refl _) hb7)
    | (refine wpList_store_box rfl 25 _ _ rfl w7.heap.size (mt M3) rfl rfl 25 (mt .zero) (Bx.new (W := w7) 25 (mt .zero) rfl) (by kernel_rfl) rfl (mt_one _) (fun w8 u8 => ?_); have r8 := RdI.other (r7.alloc _) u8 (Nat.ne_of_lt r7.1); have ya8 := u8.bx (ya7.alloc _) (Nat.ne_of_lt ya7.lt); have yn8 := u8.bx (yn7.alloc _) (Nat.ne_of_lt yn7.lt); have yk8 := u8.bx (yk7.alloc _) (Nat.ne_of_lt yk7.lt); have B8 := (b_al B7 (Nat.le_refl _) _).trans (u8.bel _ B7.size); have yl8 := u8.box)
    | (go_at_call 10; (with_reducible refine (MC _).mono ?_); rintro e w9 ⟨rfl, hb9⟩; have r9 := r8.below hb9; have ya9 := ya8.below hb9; have yn9 := yn8.below hb9; have yk9 := yk8.below hb9; have yl9 := yl8.below hb9; have B9 := b_cl B8 (Nat.le_refl _) hb9)
    | (go_at_call 7; (with_reducible refine (ST _).mono ?_); rintro e w10 ⟨rfl, hb10⟩; have r10 := r9.below hb10; have ya10 := ya9.below hb10; have yn10 := yn9.below hb10; have yk10 := yk9.below hb10; have yl10 := yl9.below hb10; have B10 := b_cl B9 (Nat.le_refl _) hb10)
    | (refine wpList_store_box rfl 25 _ _ rfl w10.heap.size (mt .zero) rfl rfl 25 (mt .zero) (Bx.new (W := w10) 25 (mt .zero) rfl) (by kernel_rfl) rfl (mt_one _) (fun w11 u11 => ?_); have r11 := RdI.other (r10.alloc _) u11 (Nat.ne_of_lt r10.1); have ya11 := u11.bx (ya10.alloc _) (Nat.ne_of_lt ya10.lt); have yn11 := u11.bx (yn10.alloc _) (Nat.ne_of_lt yn10.lt); have yk11 := u11.bx (yk10.alloc _) (Nat.ne_of_lt yk10.lt); have yl11 := u11.bx (yl10.alloc _) (Nat.ne_of_lt yl10.lt); have B11 := (b_al B10 (Nat.le_refl _) _).trans (u11.bel _ B10.size); have yo11 := u11.box; have g1 : w11.cell? ⟨w1.heap.size, 0, none⟩ = some (.int .i64 M1.now) := yn11.cell rfl; have g2 : w11.cell? ⟨w1.heap.size, 3, none⟩ = some (.int .i64 M1.lie) := yn11.cell rfl)
    | (go_at_call 11; (with_reducible refine (alive13_any _).mono ?_); rintro e w99 ⟨rfl, hb99⟩))
  go_ret
  exact ⟨rfl, b_cl (by assumption) (Nat.le_refl _) hb99⟩

end Go.Proofs.Yteepjpegojlihaa.meterParts
