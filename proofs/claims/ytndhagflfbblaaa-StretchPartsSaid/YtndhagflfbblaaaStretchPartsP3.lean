/- Of two blocks of one kind, one behind the other, the meter and the first minutes are those of the whole. Conditions: none. -/
import Derived.Test.YtndhagflfbblaaaRows
import Derived.Test.YtndhagflfbblaaaBase
import Derived.Test.YtndhagflfbblaaaBookRow
import Derived.Test.YtndhagflfbblaaaBookLim
import Derived.Test.YtndhagflfbblaaaBookLaws
import Derived.Test.YtndhagflfbblaaaBookOpen
import Derived.Test.YtndhagflfbblaaaBox
import Derived.Test.YtndhagflfbblaaaSpellMath
import Derived.Test.YtndhagflfbblaaaMeterMath
import Derived.Test.YtndhagflfbblaaaMeterChk
import Derived.Test.YtndhagflfbblaaaMeterMayR
import Derived.Test.YtndhagflfbblaaaMeterOpen
import Derived.Test.YtndhagflfbblaaaMeterLaws
import Derived.Test.YtndhagflfbblaaaStretchMath
import Derived.Test.YtndhagflfbblaaaStretchSt
import Derived.Test.YtndhagflfbblaaaStretchLaws
import Derived.Test.YtndhagflfbblaaaStretchFarM
import Derived.Test.YtndhagflfbblaaaStretchChk
import Derived.Test.YtndhagflfbblaaaStretchOverC
import Derived.Test.YtndhagflfbblaaaStretchLeast
import Derived.Test.YtndhagflfbblaaaStretchEq
import Derived.Test.YtndhagflfbblaaaStretchFarC
import Derived.Test.YtndhagflfbblaaaStretchStR
import Derived.Test.YtndhagflfbblaaaStretchAlive
import Derived.Test.YtndhagflfbblaaaStretchOpen
import Derived.WalkKit
import Derived.WalkSmall
import Derived.WalkSpells
import Derived.ProofKit
import Derived.OpenShut
import Derived.ShutString
import Derived.ChangeOld
import Derived.Below
import Derived.Lib.Hide
import Derived.OwnWalk
import Derived.BigQuiet
import Derived.Outline
import Derived.Great.BuildSlice
import Derived.Maps.RangeWalk
import Derived.OrdersHeld
import Derived.Test.YtndhagflfbblaaaStretchPartsP0
namespace Go.Proofs.Ytndhagflfbblaaa.stretchParts
open Go.ChangeShapes Go.WideShapes Go.ChangeAt Go.RowKit
open Go.ChangeMaps (open_string shut_string)
set_option linter.unusedVariables false

set_option maxRecDepth 100000 in
set_option maxHeartbeats 8000000 in
theorem good (w : World) (x0 : Nat → Int) (m1 : Mt) (a2 b2 c2 : Int) (M1 M2 : Mt) (Y1 Y2 Y3 : Nat → Int) (hb : 0 ≤ b2 ∧ b2 ≤ 40320) (hc : 0 ≤ c2 ∧ c2 ≤ 40320) (hV1 : overV x0 m1 a2 b2 = (M1, Y1, 0)) (hV2 : overV x0 M1 a2 c2 = (M2, Y2, 0)) (hV3 : overV x0 m1 a2 (b2 + c2) = (M2, Y3, 0)) (hY : ∀ c, Y3 c = if Y1 c < 0 then Y2 c else Y1 c) :
    Calls Try.prog 5 #[.agg (bk x0), .agg (mt m1), .agg #[.int .i64 a2, .int .i64 b2, .int .i64 c2]] w fun e w' => e = .returned (.bool true) ∧ Below w.heap.size w w' := by
  have r0 : RdI (((w.alloc (.cells (bk x0) 23)).alloc (.cells (mt m1) 25)).alloc (.cells (#[.int .i64 a2, .int .i64 b2, .int .i64 c2]) 45)) w.heap.size 0 x0 := ((RdI.new x0 23 rfl).alloc _).alloc _
  have ya0 : Bx (((w.alloc (.cells (bk x0) 23)).alloc (.cells (mt m1) 25)).alloc (.cells (#[.int .i64 a2, .int .i64 b2, .int .i64 c2]) 45)) (w.heap.size + 1) 25 (mt m1) := (Bx.new (W := w.alloc (.cells (bk x0) 23)) _ _ (by simp)).alloc _
  have xa0 : Bx (((w.alloc (.cells (bk x0) 23)).alloc (.cells (mt m1) 25)).alloc (.cells (#[.int .i64 a2, .int .i64 b2, .int .i64 c2]) 45)) (w.heap.size + 2) 45 (#[.int .i64 a2, .int .i64 b2, .int .i64 c2]) := Bx.new (W := (w.alloc (.cells (bk x0) 23)).alloc (.cells (mt m1) 25)) _ _ (by simp)
  have B0 : Below w.heap.size w (((w.alloc (.cells (bk x0) 23)).alloc (.cells (mt m1) 25)).alloc (.cells (#[.int .i64 a2, .int .i64 b2, .int .i64 c2]) 45)) := b_al (b_al (b_al (Below.refl _ _) (Nat.le_refl _) _) (Nat.le_refl _) _) (Nat.le_refl _) _
  have p0 : (((w.alloc (.cells (bk x0) 23)).alloc (.cells (mt m1) 25)).alloc (.cells (#[.int .i64 a2, .int .i64 b2, .int .i64 c2]) 45)).cell? ⟨w.heap.size + 2, 0, none⟩ = some (.int .i64 a2) := xa0.cell rfl
  have q0 : (((w.alloc (.cells (bk x0) 23)).alloc (.cells (mt m1) 25)).alloc (.cells (#[.int .i64 a2, .int .i64 b2, .int .i64 c2]) 45)).cell? ⟨w.heap.size + 2, 1, none⟩ = some (.int .i64 b2) := xa0.cell rfl
  have s0 : (((w.alloc (.cells (bk x0) 23)).alloc (.cells (mt m1) 25)).alloc (.cells (#[.int .i64 a2, .int .i64 b2, .int .i64 c2]) 45)).cell? ⟨w.heap.size + 2, 2, none⟩ = some (.int .i64 c2) := xa0.cell rfl
  have OV := fun W => over14_any x0 m1 a2 b2 W
  rw [hV1] at OV
  have OW := fun W => over14_any x0 M1 a2 c2 W
  rw [hV2] at OW
  have OX := fun W => over14_any x0 m1 a2 (b2 + c2) W
  rw [hV3] at OX
  dsimp only at OV OW OX
  have hwr := wrap14 (b2 + c2) (by omega) (by omega)
  have HY := Lib.hid hY
  clear hV1 hV2 hV3 hY
  go_enter Try.func5, Try.ntmps5
  go_upto_region 4 with (first
    | go_skip
    | refine wpList_load_bk (by rfl) 23 _ rfl _ _ rfl x0 _ (by assumption) Try.underlying23 rfl (by kernel_rfl) ?_
    | refine wpList_load_box (by rfl) 25 _ rfl (w.heap.size + 1) rfl 25 (mt m1) _ (by assumption) Try.underlying25 rfl (by kernel_rfl) ?_
    | (go_at_call 7; (with_reducible refine (OV _).mono ?_); rintro e w1 ⟨rfl, hb1⟩; have r1 := r0.below hb1; have ya1 := ya0.below hb1; have xa1 := xa0.below hb1; have B1 := b_cl B0 (Nat.le_refl _) hb1; have p1 : w1.cell? ⟨w.heap.size + 2, 0, none⟩ = some (.int .i64 a2) := xa1.cell rfl; have q1 : w1.cell? ⟨w.heap.size + 2, 1, none⟩ = some (.int .i64 b2) := xa1.cell rfl; have s1 : w1.cell? ⟨w.heap.size + 2, 2, none⟩ = some (.int .i64 c2) := xa1.cell rfl)
    | refine wpList_store_box rfl 25 _ _ rfl w1.heap.size (mt M1) rfl rfl 25 (mt .zero) ((Bx.new (W := w1) 25 (mt .zero) rfl).alloc _) (by kernel_rfl) rfl (mt_one _) (fun w2 u2 => ?_)
    | (refine wpList_store_box rfl 29 _ _ rfl (w1.heap.size + 1) (tn Y1) rfl rfl 29 (tn zeroF) (u2.bx (Bx.new (W := w1.alloc _) 29 (tn zeroF) (by simp)) (by omega)) (by kernel_rfl) rfl (tn_one _) (fun w3 u3 => ?_); have r3 := RfS.rdo (RfS.rdo ((r1.alloc _).alloc _) u2 (by have := r1.1; omega)) u3 (by have := r1.1; omega); have ya3 := u3.bx (u2.bx ((ya1.alloc _).alloc _) (by have := ya1.lt; omega)) (by have := ya1.lt; omega); have xa3 := u3.bx (u2.bx ((xa1.alloc _).alloc _) (by have := xa1.lt; omega)) (by have := xa1.lt; omega); have B3 := ((b_al (b_al B1 (Nat.le_refl _) _) (Nat.le_refl _) _).trans (u2.bel _ B1.size)).trans (u3.bel _ (by have := B1.size; omega)); have ym3 := u3.bx u2.box (by omega); have yf3 := u3.box; have p3 : w3.cell? ⟨w.heap.size + 2, 0, none⟩ = some (.int .i64 a2) := xa3.cell rfl; have q3 : w3.cell? ⟨w.heap.size + 2, 1, none⟩ = some (.int .i64 b2) := xa3.cell rfl; have s3 : w3.cell? ⟨w.heap.size + 2, 2, none⟩ = some (.int .i64 c2) := xa3.cell rfl))
  (try go_frame)
  clear r0 B0 ya0 xa0 p0 q0 s0 hb1 r1 B1 ya1 xa1 p1 q1 s1 u2 u3 OV
  go_upto_region 7 with (first
    | go_skip
    | refine wpList_load_bk (by rfl) 23 _ rfl _ _ rfl x0 _ (by assumption) Try.underlying23 rfl (by kernel_rfl) ?_
    | refine wpList_load_box (by rfl) 25 _ rfl (w1.heap.size) rfl 25 (mt M1) _ (by assumption) Try.underlying25 rfl (by kernel_rfl) ?_
    | (go_at_call 7; (with_reducible refine (OW _).mono ?_); rintro e w4 ⟨rfl, hb4⟩; have r4 := r3.below hb4; have ya4 := ya3.below hb4; have xa4 := xa3.below hb4; have ym4 := ym3.below hb4; have yf4 := yf3.below hb4; have B4 := b_cl B3 (Nat.le_refl _) hb4; have p4 : w4.cell? ⟨w.heap.size + 2, 0, none⟩ = some (.int .i64 a2) := xa4.cell rfl; have q4 : w4.cell? ⟨w.heap.size + 2, 1, none⟩ = some (.int .i64 b2) := xa4.cell rfl; have s4 : w4.cell? ⟨w.heap.size + 2, 2, none⟩ = some (.int .i64 c2) := xa4.cell rfl)
    | refine wpList_store_box rfl 25 _ _ rfl w4.heap.size (mt M2) rfl rfl 25 (mt .zero) ((Bx.new (W := w4) 25 (mt .zero) rfl).alloc _) (by kernel_rfl) rfl (mt_one _) (fun w5 u5 => ?_)
    | (refine wpList_store_box rfl 29 _ _ rfl (w4.heap.size + 1) (tn Y2) rfl rfl 29 (tn zeroF) (u5.bx (Bx.new (W := w4.alloc _) 29 (tn zeroF) (by simp)) (by omega)) (by kernel_rfl) rfl (tn_one _) (fun w6 u6 => ?_); have r6 := RfS.rdo (RfS.rdo ((r4.alloc _).alloc _) u5 (by have := r4.1; omega)) u6 (by have := r4.1; omega); have ya6 := u6.bx (u5.bx ((ya4.alloc _).alloc _) (by have := ya4.lt; omega)) (by have := ya4.lt; omega); have xa6 := u6.bx (u5.bx ((xa4.alloc _).alloc _) (by have := xa4.lt; omega)) (by have := xa4.lt; omega); have ym6 := u6.bx (u5.bx ((ym4.alloc _).alloc _) (by have := ym4.lt; omega)) (by have := ym4.lt; omega); have yf6 := u6.bx (u5.bx ((yf4.alloc _).alloc _) (by have := yf4.lt; omega)) (by have := yf4.lt; omega); have B6 := ((b_al (b_al B4 (Nat.le_refl _) _) (Nat.le_refl _) _).trans (u5.bel _ B4.size)).trans (u6.bel _ (by have := B4.size; omega)); have yn6 := u6.bx u5.box (by omega); have yg6 := u6.box; have p6 : w6.cell? ⟨w.heap.size + 2, 0, none⟩ = some (.int .i64 a2) := xa6.cell rfl; have q6 : w6.cell? ⟨w.heap.size + 2, 1, none⟩ = some (.int .i64 b2) := xa6.cell rfl; have s6 : w6.cell? ⟨w.heap.size + 2, 2, none⟩ = some (.int .i64 c2) := xa6.cell rfl))
  (try go_frame)
  clear r3 B3 ym3 yf3 ya3 xa3 p3 q3 s3 hb4 r4 B4 ya4 xa4 ym4 yf4 p4 q4 s4 u5 u6 OW
  go_upto_region 8 with (first
    | go_skip
    | refine wpList_load_bk (by rfl) 23 _ rfl _ _ rfl x0 _ (by assumption) Try.underlying23 rfl (by kernel_rfl) ?_
    | refine wpList_load_box (by rfl) 25 _ rfl (w.heap.size + 1) rfl 25 (mt m1) _ (by assumption) Try.underlying25 rfl (by kernel_rfl) ?_
    | (go_at_call 7; (with_reducible refine (OX _).mono ?_); rintro e w7 ⟨rfl, hb7⟩; have r7 := r6.below hb7; have ya7 := ya6.below hb7; have xa7 := xa6.below hb7; have ym7 := ym6.below hb7; have yf7 := yf6.below hb7; have yn7 := yn6.below hb7; have yg7 := yg6.below hb7; have B7 := b_cl B6 (Nat.le_refl _) hb7; have p7 : w7.cell? ⟨w.heap.size + 2, 0, none⟩ = some (.int .i64 a2) := xa7.cell rfl; have q7 : w7.cell? ⟨w.heap.size + 2, 1, none⟩ = some (.int .i64 b2) := xa7.cell rfl; have s7 : w7.cell? ⟨w.heap.size + 2, 2, none⟩ = some (.int .i64 c2) := xa7.cell rfl)
    | refine wpList_store_box rfl 25 _ _ rfl w7.heap.size (mt M2) rfl rfl 25 (mt .zero) ((Bx.new (W := w7) 25 (mt .zero) rfl).alloc _) (by kernel_rfl) rfl (mt_one _) (fun w8 u8 => ?_)
    | (refine wpList_store_box rfl 29 _ _ rfl (w7.heap.size + 1) (tn Y3) rfl rfl 29 (tn zeroF) (u8.bx (Bx.new (W := w7.alloc _) 29 (tn zeroF) (by simp)) (by omega)) (by kernel_rfl) rfl (tn_one _) (fun w9 u9 => ?_); have r9 := RfS.rdo (RfS.rdo ((r7.alloc _).alloc _) u8 (by have := r7.1; omega)) u9 (by have := r7.1; omega); have ya9 := u9.bx (u8.bx ((ya7.alloc _).alloc _) (by have := ya7.lt; omega)) (by have := ya7.lt; omega); have xa9 := u9.bx (u8.bx ((xa7.alloc _).alloc _) (by have := xa7.lt; omega)) (by have := xa7.lt; omega); have ym9 := u9.bx (u8.bx ((ym7.alloc _).alloc _) (by have := ym7.lt; omega)) (by have := ym7.lt; omega); have yf9 := u9.bx (u8.bx ((yf7.alloc _).alloc _) (by have := yf7.lt; omega)) (by have := yf7.lt; omega); have yn9 := u9.bx (u8.bx ((yn7.alloc _).alloc _) (by have := yn7.lt; omega)) (by have := yn7.lt; omega); have yg9 := u9.bx (u8.bx ((yg7.alloc _).alloc _) (by have := yg7.lt; omega)) (by have := yg7.lt; omega); have B9 := ((b_al (b_al B7 (Nat.le_refl _) _) (Nat.le_refl _) _).trans (u8.bel _ B7.size)).trans (u9.bel _ (by have := B7.size; omega)); have yo9 := u9.bx u8.box (by omega); have yh9 := u9.box; have p9 : w9.cell? ⟨w.heap.size + 2, 0, none⟩ = some (.int .i64 a2) := xa9.cell rfl; have q9 : w9.cell? ⟨w.heap.size + 2, 1, none⟩ = some (.int .i64 b2) := xa9.cell rfl; have s9 : w9.cell? ⟨w.heap.size + 2, 2, none⟩ = some (.int .i64 c2) := xa9.cell rfl))
  (try go_frame)
  clear r6 B6 yn6 yg6 ya6 xa6 ym6 yf6 p6 q6 s6 hb7 r7 B7 ya7 xa7 ym7 yf7 yn7 yg7 p7 q7 s7 u8 u9 OX
  go_upto_region 10 with (first
    | go_skip
    | refine wpList_load_box (by rfl) 25 _ rfl (w4.heap.size) rfl 25 (mt M2) _ (by assumption) Try.underlying25 rfl (by kernel_rfl) ?_
    | refine wpList_load_box (by rfl) 25 _ rfl (w7.heap.size) rfl 25 (mt M2) _ (by assumption) Try.underlying25 rfl (by kernel_rfl) ?_
    | refine wpList_neq_mt (by rfl) rfl M2 M2 true rfl rfl (Mt.eqB_self _) ?_)
  (try go_frame)
  have hF : ∀ c, c < 10 → w9.cell? ⟨w1.heap.size + 1, c, none⟩ = some (.int .i64 (Y1 c)) := fun c hc => yf9.cell (tn_at _ c hc)
  have hG : ∀ c, c < 10 → w9.cell? ⟨w4.heap.size + 1, c, none⟩ = some (.int .i64 (Y2 c)) := fun c hc => yg9.cell (tn_at _ c hc)
  have hH : ∀ c, c < 10 → w9.cell? ⟨w7.heap.size + 1, c, none⟩ = some (.int .i64 (Y3 c)) := fun c hc => yh9.cell (tn_at _ c hc)
  have HB := Lib.hid B9
  have HF := Lib.hid hF
  have HG := Lib.hid hG
  have HH := Lib.hid hH
  clear hF hG hH B9 r9 ya9 xa9 ym9 yf9 yn9 yg9 yo9 yh9 p9 q9 s9
  go_wp2
  go_loopw [77] (fun i wr => ∃ c : Nat, c ≤ 10 ∧ i = .int .i64 (c : Nat) ∧ wr = w9) (fun i _ => 10 - (intOf i).toNat)
  case atStart => exact ⟨0, Nat.zero_le _, rfl, (by first | rfl | trivial)⟩
  case round =>
    obtain ⟨c, hc, rfl, rfl⟩ := hrel
    by_cases hlt : c < 10
    case neg =>
      obtain rfl : c = 10 := by omega
      go_wp2_with (go_at_call 9; (with_reducible refine (alive14_any _).mono ?_); rintro e w99 ⟨rfl, hb99⟩)
      go_ret
      exact ⟨rfl, b_cl HB.out (Nat.le_refl _) hb99⟩
    have f1 := HF.out c hlt
    have f2 := HG.out c hlt
    have f3 := HH.out c hlt
    rw [HY.out c] at f3
    generalize Y1 c = v1 at f1 f3
    generalize Y2 c = v2 at f2 f3
    by_cases hv : v1 < 0
    case pos =>
      rw [if_pos hv] at f3
      have dv : decide (v1 < 0) = true := decide_eq_true hv
      go_wp2
      go_roundw
      case rel => exact ⟨c + 1, by omega, by go_num, (by first | rfl | trivial)⟩
      case measure => simp [intOf]; omega
    case neg =>
      rw [if_neg hv] at f3
      have dv : decide (v1 < 0) = false := decide_eq_false hv
      go_wp2
      go_roundw
      case rel => exact ⟨c + 1, by omega, by go_num, (by first | rfl | trivial)⟩
      case measure => simp [intOf]; omega

end Go.Proofs.Ytndhagflfbblaaa.stretchParts
