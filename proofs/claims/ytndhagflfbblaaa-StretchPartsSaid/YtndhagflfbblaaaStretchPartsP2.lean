/- Of two blocks of one kind, one behind the other, the meter and the first minutes are those of the whole. Conditions: none. -/
import Derived.Test.YtndhagflfbblaaaRows
import Derived.Test.YtndhagflfbblaaaBase
import Derived.Test.YtndhagflfbblaaaBookRow
import Derived.Test.YtndhagflfbblaaaBookLim
import Derived.Test.YtndhagflfbblaaaBookLaws
import Derived.Test.YtndhagflfbblaaaBookOpen
import Derived.Test.YtndhagflfbblaaaBox
import Derived.Test.YtndhagflfbblaaaSpellMath
import Derived.Test.YtndhagflfbblaaaMeterMath
import Derived.Test.YtndhagflfbblaaaMeterChk
import Derived.Test.YtndhagflfbblaaaMeterMayR
import Derived.Test.YtndhagflfbblaaaMeterOpen
import Derived.Test.YtndhagflfbblaaaMeterLaws
import Derived.Test.YtndhagflfbblaaaStretchMath
import Derived.Test.YtndhagflfbblaaaStretchSt
import Derived.Test.YtndhagflfbblaaaStretchLaws
import Derived.Test.YtndhagflfbblaaaStretchFarM
import Derived.Test.YtndhagflfbblaaaStretchChk
import Derived.Test.YtndhagflfbblaaaStretchOverC
import Derived.Test.YtndhagflfbblaaaStretchLeast
import Derived.Test.YtndhagflfbblaaaStretchEq
import Derived.Test.YtndhagflfbblaaaStretchFarC
import Derived.Test.YtndhagflfbblaaaStretchStR
import Derived.Test.YtndhagflfbblaaaStretchAlive
import Derived.Test.YtndhagflfbblaaaStretchOpen
import Derived.WalkKit
import Derived.WalkSmall
import Derived.WalkSpells
import Derived.ProofKit
import Derived.OpenShut
import Derived.ShutString
import Derived.ChangeOld
import Derived.Below
import Derived.Lib.Hide
import Derived.OwnWalk
import Derived.BigQuiet
import Derived.Outline
import Derived.Great.BuildSlice
import Derived.Maps.RangeWalk
import Derived.OrdersHeld
import Derived.Test.YtndhagflfbblaaaStretchPartsP0
namespace Go.Proofs.Ytndhagflfbblaaa.stretchParts
open Go.ChangeShapes Go.WideShapes Go.ChangeAt Go.RowKit
open Go.ChangeMaps (open_string shut_string)
set_option linter.unusedVariables false

set_option maxRecDepth 100000 in
set_option maxHeartbeats 8000000 in
theorem bad2 (w : World) (x0 : Nat → Int) (m1 : Mt) (a2 b2 c2 : Int) (M1 : Mt) (Y1 : Nat → Int) (er : Int) (hV1 : overV x0 m1 a2 b2 = (M1, Y1, 0)) (hV2 : overV x0 M1 a2 c2 = (.zero, zeroF, er)) (hE : er ≠ 0) :
    Calls Try.prog 5 #[.agg (bk x0), .agg (mt m1), .agg #[.int .i64 a2, .int .i64 b2, .int .i64 c2]] w fun e w' => e = .returned (.bool true) ∧ Below w.heap.size w w' := by
  have r0 : RdI (((w.alloc (.cells (bk x0) 23)).alloc (.cells (mt m1) 25)).alloc (.cells (#[.int .i64 a2, .int .i64 b2, .int .i64 c2]) 45)) w.heap.size 0 x0 := ((RdI.new x0 23 rfl).alloc _).alloc _
  have ya0 : Bx (((w.alloc (.cells (bk x0) 23)).alloc (.cells (mt m1) 25)).alloc (.cells (#[.int .i64 a2, .int .i64 b2, .int .i64 c2]) 45)) (w.heap.size + 1) 25 (mt m1) := (Bx.new (W := w.alloc (.cells (bk x0) 23)) _ _ (by simp)).alloc _
  have xa0 : Bx (((w.alloc (.cells (bk x0) 23)).alloc (.cells (mt m1) 25)).alloc (.cells (#[.int .i64 a2, .int .i64 b2, .int .i64 c2]) 45)) (w.heap.size + 2) 45 (#[.int .i64 a2, .int .i64 b2, .int .i64 c2]) := Bx.new (W := (w.alloc (.cells (bk x0) 23)).alloc (.cells (mt m1) 25)) _ _ (by simp)
  have B0 : Below w.heap.size w (((w.alloc (.cells (bk x0) 23)).alloc (.cells (mt m1) 25)).alloc (.cells (#[.int .i64 a2, .int .i64 b2, .int .i64 c2]) 45)) := b_al (b_al (b_al (Below.refl _ _) (Nat.le_refl _) _) (Nat.le_refl _) _) (Nat.le_refl _) _
  have p0 : (((w.alloc (.cells (bk x0) 23)).alloc (.cells (mt m1) 25)).alloc (.cells (#[.int .i64 a2, .int .i64 b2, .int .i64 c2]) 45)).cell? ⟨w.heap.size + 2, 0, none⟩ = some (.int .i64 a2) := xa0.cell rfl
  have q0 : (((w.alloc (.cells (bk x0) 23)).alloc (.cells (mt m1) 25)).alloc (.cells (#[.int .i64 a2, .int .i64 b2, .int .i64 c2]) 45)).cell? ⟨w.heap.size + 2, 1, none⟩ = some (.int .i64 b2) := xa0.cell rfl
  have s0 : (((w.alloc (.cells (bk x0) 23)).alloc (.cells (mt m1) 25)).alloc (.cells (#[.int .i64 a2, .int .i64 b2, .int .i64 c2]) 45)).cell? ⟨w.heap.size + 2, 2, none⟩ = some (.int .i64 c2) := xa0.cell rfl
  have OV := fun W => over14_any x0 m1 a2 b2 W
  rw [hV1] at OV
  have OW := fun W => over14_any x0 M1 a2 c2 W
  rw [hV2] at OW
  dsimp only at OV OW
  have ne : (er != 0) = true := by simpa using hE
  have ne2 : (er == 0) = false := by simpa using hE
  clear hE hV1 hV2
  go_enter Try.func5, Try.ntmps5
  go_upto_region 4 with (first
    | go_skip
    | refine wpList_load_bk (by rfl) 23 _ rfl _ _ rfl x0 _ (by assumption) Try.underlying23 rfl (by kernel_rfl) ?_
    | refine wpList_load_box (by rfl) 25 _ rfl (w.heap.size + 1) rfl 25 (mt m1) _ (by assumption) Try.underlying25 rfl (by kernel_rfl) ?_
    | (go_at_call 7; (with_reducible refine (OV _).mono ?_); rintro e w1 ⟨rfl, hb1⟩; have r1 := r0.below hb1; have ya1 := ya0.below hb1; have xa1 := xa0.below hb1; have B1 := b_cl B0 (Nat.le_refl _) hb1; have p1 : w1.cell? ⟨w.heap.size + 2, 0, none⟩ = some (.int .i64 a2) := xa1.cell rfl; have q1 : w1.cell? ⟨w.heap.size + 2, 1, none⟩ = some (.int .i64 b2) := xa1.cell rfl; have s1 : w1.cell? ⟨w.heap.size + 2, 2, none⟩ = some (.int .i64 c2) := xa1.cell rfl)
    | refine wpList_store_box rfl 25 _ _ rfl w1.heap.size (mt M1) rfl rfl 25 (mt .zero) ((Bx.new (W := w1) 25 (mt .zero) rfl).alloc _) (by kernel_rfl) rfl (mt_one _) (fun w2 u2 => ?_)
    | (refine wpList_store_box rfl 29 _ _ rfl (w1.heap.size + 1) (tn Y1) rfl rfl 29 (tn zeroF) (u2.bx (Bx.new (W := w1.alloc _) 29 (tn zeroF) (by simp)) (by omega)) (by kernel_rfl) rfl (tn_one _) (fun w3 u3 => ?_); have r3 := RfS.rdo (RfS.rdo ((r1.alloc _).alloc _) u2 (by have := r1.1; omega)) u3 (by have := r1.1; omega); have ya3 := u3.bx (u2.bx ((ya1.alloc _).alloc _) (by have := ya1.lt; omega)) (by have := ya1.lt; omega); have xa3 := u3.bx (u2.bx ((xa1.alloc _).alloc _) (by have := xa1.lt; omega)) (by have := xa1.lt; omega); have B3 := ((b_al (b_al B1 (Nat.le_refl _) _) (Nat.le_refl _) _).trans (u2.bel _ B1.size)).trans (u3.bel _ (by have := B1.size; omega)); have ym3 := u3.bx u2.box (by omega); have yf3 := u3.box; have p3 : w3.cell? ⟨w.heap.size + 2, 0, none⟩ = some (.int .i64 a2) := xa3.cell rfl; have q3 : w3.cell? ⟨w.heap.size + 2, 1, none⟩ = some (.int .i64 b2) := xa3.cell rfl; have s3 : w3.cell? ⟨w.heap.size + 2, 2, none⟩ = some (.int .i64 c2) := xa3.cell rfl))
  (try go_frame)
  clear r0 B0 ya0 xa0 p0 q0 s0 hb1 r1 B1 ya1 xa1 p1 q1 s1 u2 u3 OV
  go_upto_region 6 with (first
    | go_skip
    | refine wpList_load_bk (by rfl) 23 _ rfl _ _ rfl x0 _ (by assumption) Try.underlying23 rfl (by kernel_rfl) ?_
    | refine wpList_load_box (by rfl) 25 _ rfl (w1.heap.size) rfl 25 (mt M1) _ (by assumption) Try.underlying25 rfl (by kernel_rfl) ?_
    | (go_at_call 7; (with_reducible refine (OW _).mono ?_); rintro e w4 ⟨rfl, hb4⟩; have r4 := r3.below hb4; have ya4 := ya3.below hb4; have xa4 := xa3.below hb4; have ym4 := ym3.below hb4; have yf4 := yf3.below hb4; have B4 := b_cl B3 (Nat.le_refl _) hb4; have p4 : w4.cell? ⟨w.heap.size + 2, 0, none⟩ = some (.int .i64 a2) := xa4.cell rfl; have q4 : w4.cell? ⟨w.heap.size + 2, 1, none⟩ = some (.int .i64 b2) := xa4.cell rfl; have s4 : w4.cell? ⟨w.heap.size + 2, 2, none⟩ = some (.int .i64 c2) := xa4.cell rfl)
    | refine wpList_store_box rfl 25 _ _ rfl w4.heap.size (mt .zero) rfl rfl 25 (mt .zero) ((Bx.new (W := w4) 25 (mt .zero) rfl).alloc _) (by kernel_rfl) rfl (mt_one _) (fun w5 u5 => ?_)
    | (refine wpList_store_box rfl 29 _ _ rfl (w4.heap.size + 1) (tn zeroF) rfl rfl 29 (tn zeroF) (u5.bx (Bx.new (W := w4.alloc _) 29 (tn zeroF) (by simp)) (by omega)) (by kernel_rfl) rfl (tn_one _) (fun w6 u6 => ?_); have r6 := RfS.rdo (RfS.rdo ((r4.alloc _).alloc _) u5 (by have := r4.1; omega)) u6 (by have := r4.1; omega); have ya6 := u6.bx (u5.bx ((ya4.alloc _).alloc _) (by have := ya4.lt; omega)) (by have := ya4.lt; omega); have xa6 := u6.bx (u5.bx ((xa4.alloc _).alloc _) (by have := xa4.lt; omega)) (by have := xa4.lt; omega); have ym6 := u6.bx (u5.bx ((ym4.alloc _).alloc _) (by have := ym4.lt; omega)) (by have := ym4.lt; omega); have yf6 := u6.bx (u5.bx ((yf4.alloc _).alloc _) (by have := yf4.lt; omega)) (by have := yf4.lt; omega); have B6 := ((b_al (b_al B4 (Nat.le_refl _) _) (Nat.le_refl _) _).trans (u5.bel _ B4.size)).trans (u6.bel _ (by have := B4.size; omega)); have yn6 := u6.bx u5.box (by omega); have yg6 := u6.box; have p6 : w6.cell? ⟨w.heap.size + 2, 0, none⟩ = some (.int .i64 a2) := xa6.cell rfl; have q6 : w6.cell? ⟨w.heap.size + 2, 1, none⟩ = some (.int .i64 b2) := xa6.cell rfl; have s6 : w6.cell? ⟨w.heap.size + 2, 2, none⟩ = some (.int .i64 c2) := xa6.cell rfl))
  (try go_frame)
  clear r3 B3 ym3 yf3 ya3 xa3 p3 q3 s3 hb4 r4 B4 ya4 xa4 ym4 yf4 p4 q4 s4 u5 u6 OW
  go_wp2_with (first
    | go_skip
    | refine wpList_load_box (by rfl) 25 _ rfl (w4.heap.size) rfl 25 (mt .zero) _ (by assumption) Try.underlying25 rfl (by kernel_rfl) ?_
    | refine wpList_build_as rfl 25 _ rfl (mt .zero) (by kernel_rfl) ?_
    | refine wpList_eql_mt (by rfl) rfl .zero .zero true rfl rfl (Mt.eqB_self _) ?_
    | (go_at_call 9; (with_reducible refine (alive14_any _).mono ?_); rintro e w99 ⟨rfl, hb99⟩))
  go_ret
  exact ⟨rfl, b_cl (by assumption) (Nat.le_refl _) hb99⟩

end Go.Proofs.Ytndhagflfbblaaa.stretchParts
