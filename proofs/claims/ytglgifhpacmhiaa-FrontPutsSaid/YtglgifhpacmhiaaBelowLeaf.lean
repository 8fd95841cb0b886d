/- What the four comparisons of two meters of layer 17 return. Conditions: none. -/
import Derived.Test.YtglgifhpacmhiaaRows
import Derived.Test.YtglgifhpacmhiaaBase
import Derived.Test.YtglgifhpacmhiaaRow
import Derived.Test.YtglgifhpacmhiaaBookRow
import Derived.Test.YtglgifhpacmhiaaBookLim
import Derived.Test.YtglgifhpacmhiaaBookLaws
import Derived.Test.YtglgifhpacmhiaaBox
import Derived.Test.YtglgifhpacmhiaaSpellMath
import Derived.Test.YtglgifhpacmhiaaMeterMath
import Derived.Test.YtglgifhpacmhiaaMeterChk
import Derived.Test.YtglgifhpacmhiaaBelowMath
import Derived.WalkKit
import Derived.WalkSpells
import Derived.WalkSmall
import Derived.Below
import Derived.Lib.Hide
import Derived.BigQuiet
import Derived.OwnWalk
import Derived.Outline
import Derived.Maps.RangeWalk
namespace Go.Proofs.Ytglgifhpacmhiaa
open Go.RowKit

set_option maxRecDepth 20000 in
set_option maxHeartbeats 2000000 in
theorem abreast17_any (s t : Mt) (w : World) :
    Calls Try.prog 28 #[.agg (mt s), .agg (mt t)] w fun e w' => e = .returned (.bool (tf (AbrM s t))) ∧ Below w.heap.size w w' := by
  obtain ⟨a0, a1, a2, a3, a4, a5, a6, a7, a8, a9, a10, a11, a12, a13⟩ := s
  obtain ⟨b0, b1, b2, b3, b4, b5, b6, b7, b8, b9, b10, b11, b12, b13⟩ := t
  have XS : Bx ((w.alloc (.cells (mt ⟨a0, a1, a2, a3, a4, a5, a6, a7, a8, a9, a10, a11, a12, a13⟩) 36)).alloc (.cells (mt ⟨b0, b1, b2, b3, b4, b5, b6, b7, b8, b9, b10, b11, b12, b13⟩) 36)) w.heap.size 36 (mt ⟨a0, a1, a2, a3, a4, a5, a6, a7, a8, a9, a10, a11, a12, a13⟩) := (Bx.new (W := w) _ _ rfl).alloc _
  have XT : Bx ((w.alloc (.cells (mt ⟨a0, a1, a2, a3, a4, a5, a6, a7, a8, a9, a10, a11, a12, a13⟩) 36)).alloc (.cells (mt ⟨b0, b1, b2, b3, b4, b5, b6, b7, b8, b9, b10, b11, b12, b13⟩) 36)) (w.heap.size + 1) 36 (mt ⟨b0, b1, b2, b3, b4, b5, b6, b7, b8, b9, b10, b11, b12, b13⟩) := Bx.new (W := w.alloc (.cells (mt ⟨a0, a1, a2, a3, a4, a5, a6, a7, a8, a9, a10, a11, a12, a13⟩) 36)) _ _ (by simp)
  have B0 : Below w.heap.size w ((w.alloc (.cells (mt ⟨a0, a1, a2, a3, a4, a5, a6, a7, a8, a9, a10, a11, a12, a13⟩) 36)).alloc (.cells (mt ⟨b0, b1, b2, b3, b4, b5, b6, b7, b8, b9, b10, b11, b12, b13⟩) 36)) := b_al (b_al (Below.refl _ _) (Nat.le_refl _) _) (Nat.le_refl _) _
  have p0 : ((w.alloc (.cells (mt ⟨a0, a1, a2, a3, a4, a5, a6, a7, a8, a9, a10, a11, a12, a13⟩) 36)).alloc (.cells (mt ⟨b0, b1, b2, b3, b4, b5, b6, b7, b8, b9, b10, b11, b12, b13⟩) 36)).cell? ⟨w.heap.size, 0, none⟩ = some (.int .i64 a0) := XS.cell rfl
  have q0 : ((w.alloc (.cells (mt ⟨a0, a1, a2, a3, a4, a5, a6, a7, a8, a9, a10, a11, a12, a13⟩) 36)).alloc (.cells (mt ⟨b0, b1, b2, b3, b4, b5, b6, b7, b8, b9, b10, b11, b12, b13⟩) 36)).cell? ⟨w.heap.size + 1, 0, none⟩ = some (.int .i64 b0) := XT.cell rfl
  have p3 : ((w.alloc (.cells (mt ⟨a0, a1, a2, a3, a4, a5, a6, a7, a8, a9, a10, a11, a12, a13⟩) 36)).alloc (.cells (mt ⟨b0, b1, b2, b3, b4, b5, b6, b7, b8, b9, b10, b11, b12, b13⟩) 36)).cell? ⟨w.heap.size, 3, none⟩ = some (.int .i64 a3) := XS.cell rfl
  have q3 : ((w.alloc (.cells (mt ⟨a0, a1, a2, a3, a4, a5, a6, a7, a8, a9, a10, a11, a12, a13⟩) 36)).alloc (.cells (mt ⟨b0, b1, b2, b3, b4, b5, b6, b7, b8, b9, b10, b11, b12, b13⟩) 36)).cell? ⟨w.heap.size + 1, 3, none⟩ = some (.int .i64 b3) := XT.cell rfl
  have p2 : ((w.alloc (.cells (mt ⟨a0, a1, a2, a3, a4, a5, a6, a7, a8, a9, a10, a11, a12, a13⟩) 36)).alloc (.cells (mt ⟨b0, b1, b2, b3, b4, b5, b6, b7, b8, b9, b10, b11, b12, b13⟩) 36)).cell? ⟨w.heap.size, 2, none⟩ = some (.bool a2) := XS.cell rfl
  have q2 : ((w.alloc (.cells (mt ⟨a0, a1, a2, a3, a4, a5, a6, a7, a8, a9, a10, a11, a12, a13⟩) 36)).alloc (.cells (mt ⟨b0, b1, b2, b3, b4, b5, b6, b7, b8, b9, b10, b11, b12, b13⟩) 36)).cell? ⟨w.heap.size + 1, 2, none⟩ = some (.bool b2) := XT.cell rfl
  by_cases c0 : a0 = b0
  case neg =>
    rw [tf_no (by unfold AbrM; exact fun h => by simp_all)]
    have d0 : (a0 == b0) = false := (by simp [c0])
    clear c0
    go_enter Try.func28, Try.ntmps28
    go_wp2
    go_ret
    exact ⟨rfl, B0⟩
  have h0 := Lib.hid c0
  have d0 : (a0 == b0) = true := (by simp [c0])
  clear c0
  by_cases c1 : a3 = b3
  case neg =>
    rw [tf_no (by unfold AbrM; exact fun h => by simp_all)]
    have d1 : (a3 == b3) = false := (by simp [c1])
    clear c1
    go_enter Try.func28, Try.ntmps28
    go_wp2
    go_ret
    exact ⟨rfl, B0⟩
  have h1 := Lib.hid c1
  have d1 : (a3 == b3) = true := (by simp [c1])
  clear c1
  by_cases c2 : a2 = b2
  case neg =>
    rw [tf_no (by unfold AbrM; exact fun h => by simp_all)]
    have d2 : (a2 == b2) = false := (by simp [c2])
    clear c2
    go_enter Try.func28, Try.ntmps28
    go_wp2
    go_ret
    exact ⟨rfl, B0⟩
  have h2 := Lib.hid c2
  have d2 : (a2 == b2) = true := (by simp [c2])
  clear c2
  rw [tf_yes (show AbrM _ _ from ⟨h0.out, h1.out, h2.out⟩)]
  go_enter Try.func28, Try.ntmps28
  go_wp2
  go_ret
  exact ⟨rfl, B0⟩

set_option maxRecDepth 20000 in
set_option maxHeartbeats 2000000 in
theorem spent17_any (s t : Mt) (w : World) :
    Calls Try.prog 29 #[.agg (mt s), .agg (mt t)] w fun e w' => e = .returned (.bool (tf (SpM s t))) ∧ Below w.heap.size w w' := by
  obtain ⟨a0, a1, a2, a3, a4, a5, a6, a7, a8, a9, a10, a11, a12, a13⟩ := s
  obtain ⟨b0, b1, b2, b3, b4, b5, b6, b7, b8, b9, b10, b11, b12, b13⟩ := t
  have XS : Bx ((w.alloc (.cells (mt ⟨a0, a1, a2, a3, a4, a5, a6, a7, a8, a9, a10, a11, a12, a13⟩) 36)).alloc (.cells (mt ⟨b0, b1, b2, b3, b4, b5, b6, b7, b8, b9, b10, b11, b12, b13⟩) 36)) w.heap.size 36 (mt ⟨a0, a1, a2, a3, a4, a5, a6, a7, a8, a9, a10, a11, a12, a13⟩) := (Bx.new (W := w) _ _ rfl).alloc _
  have XT : Bx ((w.alloc (.cells (mt ⟨a0, a1, a2, a3, a4, a5, a6, a7, a8, a9, a10, a11, a12, a13⟩) 36)).alloc (.cells (mt ⟨b0, b1, b2, b3, b4, b5, b6, b7, b8, b9, b10, b11, b12, b13⟩) 36)) (w.heap.size + 1) 36 (mt ⟨b0, b1, b2, b3, b4, b5, b6, b7, b8, b9, b10, b11, b12, b13⟩) := Bx.new (W := w.alloc (.cells (mt ⟨a0, a1, a2, a3, a4, a5, a6, a7, a8, a9, a10, a11, a12, a13⟩) 36)) _ _ (by simp)
  have B0 : Below w.heap.size w ((w.alloc (.cells (mt ⟨a0, a1, a2, a3, a4, a5, a6, a7, a8, a9, a10, a11, a12, a13⟩) 36)).alloc (.cells (mt ⟨b0, b1, b2, b3, b4, b5, b6, b7, b8, b9, b10, b11, b12, b13⟩) 36)) := b_al (b_al (Below.refl _ _) (Nat.le_refl _) _) (Nat.le_refl _) _
  have p1 : ((w.alloc (.cells (mt ⟨a0, a1, a2, a3, a4, a5, a6, a7, a8, a9, a10, a11, a12, a13⟩) 36)).alloc (.cells (mt ⟨b0, b1, b2, b3, b4, b5, b6, b7, b8, b9, b10, b11, b12, b13⟩) 36)).cell? ⟨w.heap.size, 1, none⟩ = some (.int .i64 a1) := XS.cell rfl
  have q1 : ((w.alloc (.cells (mt ⟨a0, a1, a2, a3, a4, a5, a6, a7, a8, a9, a10, a11, a12, a13⟩) 36)).alloc (.cells (mt ⟨b0, b1, b2, b3, b4, b5, b6, b7, b8, b9, b10, b11, b12, b13⟩) 36)).cell? ⟨w.heap.size + 1, 1, none⟩ = some (.int .i64 b1) := XT.cell rfl
  have p5 : ((w.alloc (.cells (mt ⟨a0, a1, a2, a3, a4, a5, a6, a7, a8, a9, a10, a11, a12, a13⟩) 36)).alloc (.cells (mt ⟨b0, b1, b2, b3, b4, b5, b6, b7, b8, b9, b10, b11, b12, b13⟩) 36)).cell? ⟨w.heap.size, 5, none⟩ = some (.int .i64 a5) := XS.cell rfl
  have q5 : ((w.alloc (.cells (mt ⟨a0, a1, a2, a3, a4, a5, a6, a7, a8, a9, a10, a11, a12, a13⟩) 36)).alloc (.cells (mt ⟨b0, b1, b2, b3, b4, b5, b6, b7, b8, b9, b10, b11, b12, b13⟩) 36)).cell? ⟨w.heap.size + 1, 5, none⟩ = some (.int .i64 b5) := XT.cell rfl
  have p8 : ((w.alloc (.cells (mt ⟨a0, a1, a2, a3, a4, a5, a6, a7, a8, a9, a10, a11, a12, a13⟩) 36)).alloc (.cells (mt ⟨b0, b1, b2, b3, b4, b5, b6, b7, b8, b9, b10, b11, b12, b13⟩) 36)).cell? ⟨w.heap.size, 8, none⟩ = some (.int .i64 a8) := XS.cell rfl
  have q8 : ((w.alloc (.cells (mt ⟨a0, a1, a2, a3, a4, a5, a6, a7, a8, a9, a10, a11, a12, a13⟩) 36)).alloc (.cells (mt ⟨b0, b1, b2, b3, b4, b5, b6, b7, b8, b9, b10, b11, b12, b13⟩) 36)).cell? ⟨w.heap.size + 1, 8, none⟩ = some (.int .i64 b8) := XT.cell rfl
  have p11 : ((w.alloc (.cells (mt ⟨a0, a1, a2, a3, a4, a5, a6, a7, a8, a9, a10, a11, a12, a13⟩) 36)).alloc (.cells (mt ⟨b0, b1, b2, b3, b4, b5, b6, b7, b8, b9, b10, b11, b12, b13⟩) 36)).cell? ⟨w.heap.size, 11, none⟩ = some (.int .i64 a11) := XS.cell rfl
  have q11 : ((w.alloc (.cells (mt ⟨a0, a1, a2, a3, a4, a5, a6, a7, a8, a9, a10, a11, a12, a13⟩) 36)).alloc (.cells (mt ⟨b0, b1, b2, b3, b4, b5, b6, b7, b8, b9, b10, b11, b12, b13⟩) 36)).cell? ⟨w.heap.size + 1, 11, none⟩ = some (.int .i64 b11) := XT.cell rfl
  have p12 : ((w.alloc (.cells (mt ⟨a0, a1, a2, a3, a4, a5, a6, a7, a8, a9, a10, a11, a12, a13⟩) 36)).alloc (.cells (mt ⟨b0, b1, b2, b3, b4, b5, b6, b7, b8, b9, b10, b11, b12, b13⟩) 36)).cell? ⟨w.heap.size, 12, none⟩ = some (.int .i64 a12) := XS.cell rfl
  have q12 : ((w.alloc (.cells (mt ⟨a0, a1, a2, a3, a4, a5, a6, a7, a8, a9, a10, a11, a12, a13⟩) 36)).alloc (.cells (mt ⟨b0, b1, b2, b3, b4, b5, b6, b7, b8, b9, b10, b11, b12, b13⟩) 36)).cell? ⟨w.heap.size + 1, 12, none⟩ = some (.int .i64 b12) := XT.cell rfl
  have p13 : ((w.alloc (.cells (mt ⟨a0, a1, a2, a3, a4, a5, a6, a7, a8, a9, a10, a11, a12, a13⟩) 36)).alloc (.cells (mt ⟨b0, b1, b2, b3, b4, b5, b6, b7, b8, b9, b10, b11, b12, b13⟩) 36)).cell? ⟨w.heap.size, 13, none⟩ = some (.int .i64 a13) := XS.cell rfl
  have q13 : ((w.alloc (.cells (mt ⟨a0, a1, a2, a3, a4, a5, a6, a7, a8, a9, a10, a11, a12, a13⟩) 36)).alloc (.cells (mt ⟨b0, b1, b2, b3, b4, b5, b6, b7, b8, b9, b10, b11, b12, b13⟩) 36)).cell? ⟨w.heap.size + 1, 13, none⟩ = some (.int .i64 b13) := XT.cell rfl
  by_cases c0 : a1 ≤ b1
  case neg =>
    rw [tf_no (by unfold SpM; dsimp only; omega)]
    have d0 : decide (a1 ≤ b1) = false := decide_eq_false c0; have n0 : b1 < a1 := by omega
    clear c0
    go_enter Try.func29, Try.ntmps29
    go_wp2
    go_ret
    exact ⟨rfl, B0⟩
  have h0 := Lib.hid c0
  have d0 : decide (a1 ≤ b1) = true := decide_eq_true c0
  by_cases c1 : a5 ≤ b5
  case neg =>
    rw [tf_no (by unfold SpM; dsimp only; omega)]
    have d1 : decide (a5 ≤ b5) = false := decide_eq_false c1; have n1 : b5 < a5 := by omega
    clear c1
    go_enter Try.func29, Try.ntmps29
    go_wp2
    go_ret
    exact ⟨rfl, B0⟩
  have h1 := Lib.hid c1
  have d1 : decide (a5 ≤ b5) = true := decide_eq_true c1
  by_cases c2 : a8 ≤ b8
  case neg =>
    rw [tf_no (by unfold SpM; dsimp only; omega)]
    have d2 : decide (a8 ≤ b8) = false := decide_eq_false c2; have n2 : b8 < a8 := by omega
    clear c2
    go_enter Try.func29, Try.ntmps29
    go_wp2
    go_ret
    exact ⟨rfl, B0⟩
  have h2 := Lib.hid c2
  have d2 : decide (a8 ≤ b8) = true := decide_eq_true c2
  by_cases c3 : a11 ≤ b11
  case neg =>
    rw [tf_no (by unfold SpM; dsimp only; omega)]
    have d3 : decide (a11 ≤ b11) = false := decide_eq_false c3; have n3 : b11 < a11 := by omega
    clear c3
    go_enter Try.func29, Try.ntmps29
    go_wp2
    go_ret
    exact ⟨rfl, B0⟩
  have h3 := Lib.hid c3
  have d3 : decide (a11 ≤ b11) = true := decide_eq_true c3
  by_cases c4 : a12 ≤ b12
  case neg =>
    rw [tf_no (by unfold SpM; dsimp only; omega)]
    have d4 : decide (a12 ≤ b12) = false := decide_eq_false c4; have n4 : b12 < a12 := by omega
    clear c4
    go_enter Try.func29, Try.ntmps29
    go_wp2
    go_ret
    exact ⟨rfl, B0⟩
  have h4 := Lib.hid c4
  have d4 : decide (a12 ≤ b12) = true := decide_eq_true c4
  by_cases c5 : a13 ≤ b13
  case neg =>
    rw [tf_no (by unfold SpM; dsimp only; omega)]
    have d5 : decide (a13 ≤ b13) = false := decide_eq_false c5; have n5 : b13 < a13 := by omega
    clear c5
    go_enter Try.func29, Try.ntmps29
    go_wp2
    go_ret
    exact ⟨rfl, B0⟩
  have h5 := Lib.hid c5
  have d5 : decide (a13 ≤ b13) = true := decide_eq_true c5
  rw [tf_yes (show SpM _ _ from ⟨h0.out, h1.out, h2.out, h3.out, h4.out, h5.out⟩)]
  go_enter Try.func29, Try.ntmps29
  go_wp2
  go_ret
  exact ⟨rfl, B0⟩

set_option maxRecDepth 20000 in
set_option maxHeartbeats 2000000 in
theorem rested17_any (s t : Mt) (w : World) :
    Calls Try.prog 30 #[.agg (mt s), .agg (mt t)] w fun e w' => e = .returned (.bool (tf (RsM s t))) ∧ Below w.heap.size w w' := by
  obtain ⟨a0, a1, a2, a3, a4, a5, a6, a7, a8, a9, a10, a11, a12, a13⟩ := s
  obtain ⟨b0, b1, b2, b3, b4, b5, b6, b7, b8, b9, b10, b11, b12, b13⟩ := t
  have XS : Bx ((w.alloc (.cells (mt ⟨a0, a1, a2, a3, a4, a5, a6, a7, a8, a9, a10, a11, a12, a13⟩) 36)).alloc (.cells (mt ⟨b0, b1, b2, b3, b4, b5, b6, b7, b8, b9, b10, b11, b12, b13⟩) 36)) w.heap.size 36 (mt ⟨a0, a1, a2, a3, a4, a5, a6, a7, a8, a9, a10, a11, a12, a13⟩) := (Bx.new (W := w) _ _ rfl).alloc _
  have XT : Bx ((w.alloc (.cells (mt ⟨a0, a1, a2, a3, a4, a5, a6, a7, a8, a9, a10, a11, a12, a13⟩) 36)).alloc (.cells (mt ⟨b0, b1, b2, b3, b4, b5, b6, b7, b8, b9, b10, b11, b12, b13⟩) 36)) (w.heap.size + 1) 36 (mt ⟨b0, b1, b2, b3, b4, b5, b6, b7, b8, b9, b10, b11, b12, b13⟩) := Bx.new (W := w.alloc (.cells (mt ⟨a0, a1, a2, a3, a4, a5, a6, a7, a8, a9, a10, a11, a12, a13⟩) 36)) _ _ (by simp)
  have B0 : Below w.heap.size w ((w.alloc (.cells (mt ⟨a0, a1, a2, a3, a4, a5, a6, a7, a8, a9, a10, a11, a12, a13⟩) 36)).alloc (.cells (mt ⟨b0, b1, b2, b3, b4, b5, b6, b7, b8, b9, b10, b11, b12, b13⟩) 36)) := b_al (b_al (Below.refl _ _) (Nat.le_refl _) _) (Nat.le_refl _) _
  have p4 : ((w.alloc (.cells (mt ⟨a0, a1, a2, a3, a4, a5, a6, a7, a8, a9, a10, a11, a12, a13⟩) 36)).alloc (.cells (mt ⟨b0, b1, b2, b3, b4, b5, b6, b7, b8, b9, b10, b11, b12, b13⟩) 36)).cell? ⟨w.heap.size, 4, none⟩ = some (.int .i64 a4) := XS.cell rfl
  have q4 : ((w.alloc (.cells (mt ⟨a0, a1, a2, a3, a4, a5, a6, a7, a8, a9, a10, a11, a12, a13⟩) 36)).alloc (.cells (mt ⟨b0, b1, b2, b3, b4, b5, b6, b7, b8, b9, b10, b11, b12, b13⟩) 36)).cell? ⟨w.heap.size + 1, 4, none⟩ = some (.int .i64 b4) := XT.cell rfl
  have p9 : ((w.alloc (.cells (mt ⟨a0, a1, a2, a3, a4, a5, a6, a7, a8, a9, a10, a11, a12, a13⟩) 36)).alloc (.cells (mt ⟨b0, b1, b2, b3, b4, b5, b6, b7, b8, b9, b10, b11, b12, b13⟩) 36)).cell? ⟨w.heap.size, 9, none⟩ = some (.int .i64 a9) := XS.cell rfl
  have q9 : ((w.alloc (.cells (mt ⟨a0, a1, a2, a3, a4, a5, a6, a7, a8, a9, a10, a11, a12, a13⟩) 36)).alloc (.cells (mt ⟨b0, b1, b2, b3, b4, b5, b6, b7, b8, b9, b10, b11, b12, b13⟩) 36)).cell? ⟨w.heap.size + 1, 9, none⟩ = some (.int .i64 b9) := XT.cell rfl
  have p7 : ((w.alloc (.cells (mt ⟨a0, a1, a2, a3, a4, a5, a6, a7, a8, a9, a10, a11, a12, a13⟩) 36)).alloc (.cells (mt ⟨b0, b1, b2, b3, b4, b5, b6, b7, b8, b9, b10, b11, b12, b13⟩) 36)).cell? ⟨w.heap.size, 7, none⟩ = some (.bool a7) := XS.cell rfl
  have q7 : ((w.alloc (.cells (mt ⟨a0, a1, a2, a3, a4, a5, a6, a7, a8, a9, a10, a11, a12, a13⟩) 36)).alloc (.cells (mt ⟨b0, b1, b2, b3, b4, b5, b6, b7, b8, b9, b10, b11, b12, b13⟩) 36)).cell? ⟨w.heap.size + 1, 7, none⟩ = some (.bool b7) := XT.cell rfl
  have p10 : ((w.alloc (.cells (mt ⟨a0, a1, a2, a3, a4, a5, a6, a7, a8, a9, a10, a11, a12, a13⟩) 36)).alloc (.cells (mt ⟨b0, b1, b2, b3, b4, b5, b6, b7, b8, b9, b10, b11, b12, b13⟩) 36)).cell? ⟨w.heap.size, 10, none⟩ = some (.bool a10) := XS.cell rfl
  have q10 : ((w.alloc (.cells (mt ⟨a0, a1, a2, a3, a4, a5, a6, a7, a8, a9, a10, a11, a12, a13⟩) 36)).alloc (.cells (mt ⟨b0, b1, b2, b3, b4, b5, b6, b7, b8, b9, b10, b11, b12, b13⟩) 36)).cell? ⟨w.heap.size + 1, 10, none⟩ = some (.bool b10) := XT.cell rfl
  by_cases c0 : b4 ≤ a4
  case neg =>
    rw [tf_no (by unfold RsM; dsimp only; omega)]
    have d0 : decide (b4 ≤ a4) = false := decide_eq_false c0; have n0 : a4 < b4 := by omega
    clear c0
    go_enter Try.func30, Try.ntmps30
    go_wp2
    go_ret
    exact ⟨rfl, B0⟩
  have h0 := Lib.hid c0
  have d0 : decide (b4 ≤ a4) = true := decide_eq_true c0
  by_cases c1 : b9 ≤ a9
  case neg =>
    rw [tf_no (by unfold RsM; dsimp only; omega)]
    have d1 : decide (b9 ≤ a9) = false := decide_eq_false c1; have n1 : a9 < b9 := by omega
    clear c1
    go_enter Try.func30, Try.ntmps30
    go_wp2
    go_ret
    exact ⟨rfl, B0⟩
  have h1 := Lib.hid c1
  have d1 : decide (b9 ≤ a9) = true := decide_eq_true c1
  cases a7 with
  | true =>
    cases b10 with
    | true =>
      rw [tf_yes (show RsM _ _ from ⟨h0.out, h1.out, by simp, by simp⟩)]
      go_enter Try.func30, Try.ntmps30
      go_wp2
      go_ret
      exact ⟨rfl, B0⟩
    | false =>
      cases a10 with
      | false =>
        rw [tf_yes (show RsM _ _ from ⟨h0.out, h1.out, by simp, by simp⟩)]
        go_enter Try.func30, Try.ntmps30
        go_wp2
        go_ret
        exact ⟨rfl, B0⟩
      | true =>
        rw [tf_no (by unfold RsM; simp)]
        go_enter Try.func30, Try.ntmps30
        go_wp2
        go_ret
        exact ⟨rfl, B0⟩
  | false =>
    cases b7 with
    | true =>
      rw [tf_no (by unfold RsM; simp)]
      go_enter Try.func30, Try.ntmps30
      go_wp2
      go_ret
      exact ⟨rfl, B0⟩
    | false =>
      cases b10 with
      | true =>
        rw [tf_yes (show RsM _ _ from ⟨h0.out, h1.out, by simp, by simp⟩)]
        go_enter Try.func30, Try.ntmps30
        go_wp2
        go_ret
        exact ⟨rfl, B0⟩
      | false =>
        cases a10 with
        | false =>
          rw [tf_yes (show RsM _ _ from ⟨h0.out, h1.out, by simp, by simp⟩)]
          go_enter Try.func30, Try.ntmps30
          go_wp2
          go_ret
          exact ⟨rfl, B0⟩
        | true =>
          rw [tf_no (by unfold RsM; simp)]
          go_enter Try.func30, Try.ntmps30
          go_wp2
          go_ret
          exact ⟨rfl, B0⟩

set_option maxRecDepth 20000 in
set_option maxHeartbeats 2000000 in
theorem longers17_any (x : Nat → Int) (s t : Mt) (w : World) :
    Calls Try.prog 31 #[.agg (bk x), .agg (mt s), .agg (mt t)] w fun e w' => e = .returned (.bool (tf (LgM x s t))) ∧ Below w.heap.size w w' := by
  obtain ⟨a0, a1, a2, a3, a4, a5, a6, a7, a8, a9, a10, a11, a12, a13⟩ := s
  obtain ⟨b0, b1, b2, b3, b4, b5, b6, b7, b8, b9, b10, b11, b12, b13⟩ := t
  have XB : Bx (((w.alloc (.cells (bk x) 23)).alloc (.cells (mt ⟨a0, a1, a2, a3, a4, a5, a6, a7, a8, a9, a10, a11, a12, a13⟩) 36)).alloc (.cells (mt ⟨b0, b1, b2, b3, b4, b5, b6, b7, b8, b9, b10, b11, b12, b13⟩) 36)) w.heap.size 23 (bk x) := ((Bx.new (W := w) _ _ rfl).alloc _).alloc _
  have XS : Bx (((w.alloc (.cells (bk x) 23)).alloc (.cells (mt ⟨a0, a1, a2, a3, a4, a5, a6, a7, a8, a9, a10, a11, a12, a13⟩) 36)).alloc (.cells (mt ⟨b0, b1, b2, b3, b4, b5, b6, b7, b8, b9, b10, b11, b12, b13⟩) 36)) (w.heap.size + 1) 36 (mt ⟨a0, a1, a2, a3, a4, a5, a6, a7, a8, a9, a10, a11, a12, a13⟩) := (Bx.new (W := w.alloc (.cells (bk x) 23)) _ _ (by simp)).alloc _
  have XT : Bx (((w.alloc (.cells (bk x) 23)).alloc (.cells (mt ⟨a0, a1, a2, a3, a4, a5, a6, a7, a8, a9, a10, a11, a12, a13⟩) 36)).alloc (.cells (mt ⟨b0, b1, b2, b3, b4, b5, b6, b7, b8, b9, b10, b11, b12, b13⟩) 36)) (w.heap.size + 1 + 1) 36 (mt ⟨b0, b1, b2, b3, b4, b5, b6, b7, b8, b9, b10, b11, b12, b13⟩) := Bx.new (W := (w.alloc (.cells (bk x) 23)).alloc (.cells (mt ⟨a0, a1, a2, a3, a4, a5, a6, a7, a8, a9, a10, a11, a12, a13⟩) 36)) _ _ (by simp)
  have B0 : Below w.heap.size w (((w.alloc (.cells (bk x) 23)).alloc (.cells (mt ⟨a0, a1, a2, a3, a4, a5, a6, a7, a8, a9, a10, a11, a12, a13⟩) 36)).alloc (.cells (mt ⟨b0, b1, b2, b3, b4, b5, b6, b7, b8, b9, b10, b11, b12, b13⟩) 36)) := b_al (b_al (b_al (Below.refl _ _) (Nat.le_refl _) _) (Nat.le_refl _) _) (Nat.le_refl _) _
  have z4 : (((w.alloc (.cells (bk x) 23)).alloc (.cells (mt ⟨a0, a1, a2, a3, a4, a5, a6, a7, a8, a9, a10, a11, a12, a13⟩) 36)).alloc (.cells (mt ⟨b0, b1, b2, b3, b4, b5, b6, b7, b8, b9, b10, b11, b12, b13⟩) 36)).cell? ⟨w.heap.size, 4, none⟩ = some (.int .i64 (x 4)) := XB.cell (bk_at x 4 (by omega))
  have z6 : (((w.alloc (.cells (bk x) 23)).alloc (.cells (mt ⟨a0, a1, a2, a3, a4, a5, a6, a7, a8, a9, a10, a11, a12, a13⟩) 36)).alloc (.cells (mt ⟨b0, b1, b2, b3, b4, b5, b6, b7, b8, b9, b10, b11, b12, b13⟩) 36)).cell? ⟨w.heap.size, 6, none⟩ = some (.int .i64 (x 6)) := XB.cell (bk_at x 6 (by omega))
  have p5 : (((w.alloc (.cells (bk x) 23)).alloc (.cells (mt ⟨a0, a1, a2, a3, a4, a5, a6, a7, a8, a9, a10, a11, a12, a13⟩) 36)).alloc (.cells (mt ⟨b0, b1, b2, b3, b4, b5, b6, b7, b8, b9, b10, b11, b12, b13⟩) 36)).cell? ⟨w.heap.size + 1, 5, none⟩ = some (.int .i64 a5) := XS.cell rfl
  have q5 : (((w.alloc (.cells (bk x) 23)).alloc (.cells (mt ⟨a0, a1, a2, a3, a4, a5, a6, a7, a8, a9, a10, a11, a12, a13⟩) 36)).alloc (.cells (mt ⟨b0, b1, b2, b3, b4, b5, b6, b7, b8, b9, b10, b11, b12, b13⟩) 36)).cell? ⟨w.heap.size + 1 + 1, 5, none⟩ = some (.int .i64 b5) := XT.cell rfl
  have p6 : (((w.alloc (.cells (bk x) 23)).alloc (.cells (mt ⟨a0, a1, a2, a3, a4, a5, a6, a7, a8, a9, a10, a11, a12, a13⟩) 36)).alloc (.cells (mt ⟨b0, b1, b2, b3, b4, b5, b6, b7, b8, b9, b10, b11, b12, b13⟩) 36)).cell? ⟨w.heap.size + 1, 6, none⟩ = some (.int .i64 a6) := XS.cell rfl
  have q6 : (((w.alloc (.cells (bk x) 23)).alloc (.cells (mt ⟨a0, a1, a2, a3, a4, a5, a6, a7, a8, a9, a10, a11, a12, a13⟩) 36)).alloc (.cells (mt ⟨b0, b1, b2, b3, b4, b5, b6, b7, b8, b9, b10, b11, b12, b13⟩) 36)).cell? ⟨w.heap.size + 1 + 1, 6, none⟩ = some (.int .i64 b6) := XT.cell rfl
  generalize hD : x 4 = D at z4
  generalize hL : x 6 = L at z6
  have HD := Lib.hid hD
  have HL := Lib.hid hL
  clear hD hL
  by_cases c0 : a5 ≤ D
  case neg =>
    have d0 : decide (a5 ≤ D) = false := decide_eq_false c0
    have n0 : D < a5 := by omega
    have e : tf (LgM x ⟨a0, a1, a2, a3, a4, a5, a6, a7, a8, a9, a10, a11, a12, a13⟩ ⟨b0, b1, b2, b3, b4, b5, b6, b7, b8, b9, b10, b11, b12, b13⟩) = decide (a6 ≤ b6) := by
      rw [← tf_int]; congr 1; unfold LgM; rw [HD.out, HL.out]; dsimp only; exact propext ⟨fun h => h.1, fun h => ⟨h, fun g => by omega⟩⟩
    rw [e]
    clear e c0
    go_enter Try.func31, Try.ntmps31
    go_wp2
    go_ret
    exact ⟨rfl, B0⟩
  have d0 : decide (a5 ≤ D) = true := decide_eq_true c0
  by_cases c1 : D < b5
  case neg =>
    have d1 : decide (D < b5) = false := decide_eq_false c1
    have n1 : b5 ≤ D := by omega
    have e : tf (LgM x ⟨a0, a1, a2, a3, a4, a5, a6, a7, a8, a9, a10, a11, a12, a13⟩ ⟨b0, b1, b2, b3, b4, b5, b6, b7, b8, b9, b10, b11, b12, b13⟩) = decide (a6 ≤ b6) := by
      rw [← tf_int]; congr 1; unfold LgM; rw [HD.out, HL.out]; dsimp only; exact propext ⟨fun h => h.1, fun h => ⟨h, fun g => by omega⟩⟩
    rw [e]
    clear e c1
    go_enter Try.func31, Try.ntmps31
    go_wp2
    go_ret
    exact ⟨rfl, B0⟩
  have d1 : decide (D < b5) = true := decide_eq_true c1
  by_cases c2 : a6 < b6
  case neg =>
    have d2 : decide (a6 < b6) = false := decide_eq_false c2
    have n2 : b6 ≤ a6 := by omega
    rw [tf_no (by unfold LgM; rw [HD.out, HL.out]; dsimp only; exact fun h => by have := h.2 ⟨c0, c1⟩; omega)]
    clear c2
    go_enter Try.func31, Try.ntmps31
    go_wp2
    go_ret
    exact ⟨rfl, B0⟩
  have d2 : decide (a6 < b6) = true := decide_eq_true c2
  have e : tf (LgM x ⟨a0, a1, a2, a3, a4, a5, a6, a7, a8, a9, a10, a11, a12, a13⟩ ⟨b0, b1, b2, b3, b4, b5, b6, b7, b8, b9, b10, b11, b12, b13⟩) = decide (a6 < L) := by
    rw [← tf_int]; congr 1; unfold LgM; rw [HD.out, HL.out]; dsimp only; exact propext ⟨fun h => (h.2 ⟨c0, c1⟩).2, fun h => ⟨by omega, fun _ => ⟨c2, h⟩⟩⟩
  rw [e]
  clear e
  go_enter Try.func31, Try.ntmps31
  go_wp2
  go_ret
  exact ⟨rfl, B0⟩

end Go.Proofs.Ytglgifhpacmhiaa
