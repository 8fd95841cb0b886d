/- What the document's Under returns. Conditions: none. -/
import Derived.Test.YtglgifhpacmhiaaRows
import Derived.Test.YtglgifhpacmhiaaBase
import Derived.Test.YtglgifhpacmhiaaRow
import Derived.Test.YtglgifhpacmhiaaBookRow
import Derived.Test.YtglgifhpacmhiaaBookLim
import Derived.Test.YtglgifhpacmhiaaBookLaws
import Derived.Test.YtglgifhpacmhiaaBox
import Derived.Test.YtglgifhpacmhiaaSpellMath
import Derived.Test.YtglgifhpacmhiaaMeterMath
import Derived.Test.YtglgifhpacmhiaaMeterChk
import Derived.Test.YtglgifhpacmhiaaBookMayR
import Derived.Test.YtglgifhpacmhiaaMeterMayR
import Derived.Test.YtglgifhpacmhiaaBelowMath
import Derived.WalkKit
import Derived.WalkSpells
import Derived.WalkSmall
import Derived.Below
import Derived.Lib.Hide
import Derived.BigQuiet
import Derived.OwnWalk
import Derived.Outline
import Derived.Maps.RangeWalk
import Derived.Deep.DeepCutAuto
namespace Go.Proofs.Ytglgifhpacmhiaa
open Go.RowKit

open Classical in
set_option maxRecDepth 20000 in
set_option maxHeartbeats 2000000 in
theorem refunder17_no (x : Nat → Int) (s t : Mt) (w : World) (hn : ¬ MyM x s t) :
    Calls Try.prog 26 #[.agg (bk x), .agg (mt s), .agg (mt t)] w fun e w' => e = .returned (.bool (tf (Un x s t))) ∧ Below w.heap.size w w' := by
  rw [tf_no (fun h => hn h.2)]
  have XB0 : Bx (((w.alloc (.cells (bk x) 23)).alloc (.cells (mt s) 36)).alloc (.cells (mt t) 36)) w.heap.size 23 (bk x) := ((Bx.new (W := w) _ _ rfl).alloc _).alloc _
  have XS0 : Bx (((w.alloc (.cells (bk x) 23)).alloc (.cells (mt s) 36)).alloc (.cells (mt t) 36)) (w.heap.size + 1) 36 (mt s) := (Bx.new (W := w.alloc (.cells (bk x) 23)) _ _ (by simp)).alloc _
  have XT0 : Bx (((w.alloc (.cells (bk x) 23)).alloc (.cells (mt s) 36)).alloc (.cells (mt t) 36)) (w.heap.size + 1 + 1) 36 (mt t) := Bx.new (W := (w.alloc (.cells (bk x) 23)).alloc (.cells (mt s) 36)) _ _ (by simp)
  have B0 : Below w.heap.size w (((w.alloc (.cells (bk x) 23)).alloc (.cells (mt s) 36)).alloc (.cells (mt t) 36)) := b_al (b_al (b_al (Below.refl _ _) (Nat.le_refl _) _) (Nat.le_refl _) _) (Nat.le_refl _) _
  have C1 := fun W => refmay_any x W
  have C2 := fun W => refmay13_any s W
  have C3 := fun W => refmay13_any t W
  by_cases c1 : May x
  case neg =>
    simp only [if_neg c1] at C1
    clear hn c1 C2 C3
    go_enter Try.func26, Try.ntmps26
    go_wp2_with (first
      | go_skip
      | refine wpList_load_box (by rfl) 23 _ rfl (w.heap.size) rfl 23 (bk x) _ (by assumption) Try.underlying23 rfl (by kernel_rfl) ?_
      | refine wpList_load_box (by rfl) 36 _ rfl (w.heap.size + 1) rfl 36 (mt s) _ (by assumption) Try.underlying36 rfl (by kernel_rfl) ?_
      | refine wpList_load_box (by rfl) 36 _ rfl (w.heap.size + 1 + 1) rfl 36 (mt t) _ (by assumption) Try.underlying36 rfl (by kernel_rfl) ?_
      | (go_at_call 7; (with_reducible refine (C1 _).mono ?_); rintro e w1 ⟨rfl, hb1⟩; have XB1 := XB0.below hb1; have XS1 := XS0.below hb1; have XT1 := XT0.below hb1; have B1 := b_cl B0 (Nat.le_refl _) hb1; clear C1))
    go_ret
    exact ⟨rfl, B1⟩
  simp only [if_pos c1] at C1
  by_cases c2 : MayM s
  case neg =>
    simp only [if_neg c2] at C2
    clear hn c2 C3
    clear c1
    go_enter Try.func26, Try.ntmps26
    go_wp2_with (first
      | go_skip
      | refine wpList_load_box (by rfl) 23 _ rfl (w.heap.size) rfl 23 (bk x) _ (by assumption) Try.underlying23 rfl (by kernel_rfl) ?_
      | refine wpList_load_box (by rfl) 36 _ rfl (w.heap.size + 1) rfl 36 (mt s) _ (by assumption) Try.underlying36 rfl (by kernel_rfl) ?_
      | refine wpList_load_box (by rfl) 36 _ rfl (w.heap.size + 1 + 1) rfl 36 (mt t) _ (by assumption) Try.underlying36 rfl (by kernel_rfl) ?_
      | (go_at_call 7; (with_reducible refine (C1 _).mono ?_); rintro e w1 ⟨rfl, hb1⟩; have XB1 := XB0.below hb1; have XS1 := XS0.below hb1; have XT1 := XT0.below hb1; have B1 := b_cl B0 (Nat.le_refl _) hb1; clear C1)
      | (go_at_call 43; (with_reducible refine (C2 _).mono ?_); rintro e w2 ⟨rfl, hb2⟩; have XB2 := XB1.below hb2; have XS2 := XS1.below hb2; have XT2 := XT1.below hb2; have B2 := b_cl B1 (Nat.le_refl _) hb2; clear C2))
    go_ret
    exact ⟨rfl, B2⟩
  simp only [if_pos c2] at C2
  have c3 : ¬ MayM t := fun h => hn ⟨c1, c2, h⟩
  simp only [if_neg c3] at C3
  clear hn c3 
  clear c1
  clear c2
  go_enter Try.func26, Try.ntmps26
  go_wp2_with (first
    | go_skip
    | refine wpList_load_box (by rfl) 23 _ rfl (w.heap.size) rfl 23 (bk x) _ (by assumption) Try.underlying23 rfl (by kernel_rfl) ?_
    | refine wpList_load_box (by rfl) 36 _ rfl (w.heap.size + 1) rfl 36 (mt s) _ (by assumption) Try.underlying36 rfl (by kernel_rfl) ?_
    | refine wpList_load_box (by rfl) 36 _ rfl (w.heap.size + 1 + 1) rfl 36 (mt t) _ (by assumption) Try.underlying36 rfl (by kernel_rfl) ?_
    | (go_at_call 7; (with_reducible refine (C1 _).mono ?_); rintro e w1 ⟨rfl, hb1⟩; have XB1 := XB0.below hb1; have XS1 := XS0.below hb1; have XT1 := XT0.below hb1; have B1 := b_cl B0 (Nat.le_refl _) hb1; clear C1)
    | (go_at_call 43; (with_reducible refine (C2 _).mono ?_); rintro e w2 ⟨rfl, hb2⟩; have XB2 := XB1.below hb2; have XS2 := XS1.below hb2; have XT2 := XT1.below hb2; have B2 := b_cl B1 (Nat.le_refl _) hb2; clear C2)
    | (go_at_call 43; (with_reducible refine (C3 _).mono ?_); rintro e w3 ⟨rfl, hb3⟩; have XB3 := XB2.below hb3; have XS3 := XS2.below hb3; have XT3 := XT2.below hb3; have B3 := b_cl B2 (Nat.le_refl _) hb3; clear C3))
  go_ret
  exact ⟨rfl, B3⟩

open Classical in
set_option maxRecDepth 20000 in
set_option maxHeartbeats 8000000 in
theorem refunder17_yes (x : Nat → Int) (s t : Mt) (w : World) (hy : MyM x s t) :
    Calls Try.prog 26 #[.agg (bk x), .agg (mt s), .agg (mt t)] w fun e w' => e = .returned (.bool (tf (Un x s t))) ∧ Below w.heap.size w w' := by
  have e : tf (Un x s t) = tf (UnM x s t) := by congr 1; exact propext ⟨fun h => h.1, fun h => ⟨h, hy⟩⟩
  rw [e]
  clear e
  obtain ⟨v, hv⟩ : ∃ v, tf (UnM x s t) = v := ⟨_, rfl⟩
  rw [hv]
  have HV := Lib.hid hv
  clear hv
  have XB0 : Bx (((w.alloc (.cells (bk x) 23)).alloc (.cells (mt s) 36)).alloc (.cells (mt t) 36)) w.heap.size 23 (bk x) := ((Bx.new (W := w) _ _ rfl).alloc _).alloc _
  have XS0 : Bx (((w.alloc (.cells (bk x) 23)).alloc (.cells (mt s) 36)).alloc (.cells (mt t) 36)) (w.heap.size + 1) 36 (mt s) := (Bx.new (W := w.alloc (.cells (bk x) 23)) _ _ (by simp)).alloc _
  have XT0 : Bx (((w.alloc (.cells (bk x) 23)).alloc (.cells (mt s) 36)).alloc (.cells (mt t) 36)) (w.heap.size + 1 + 1) 36 (mt t) := Bx.new (W := (w.alloc (.cells (bk x) 23)).alloc (.cells (mt s) 36)) _ _ (by simp)
  have B0 : Below w.heap.size w (((w.alloc (.cells (bk x) 23)).alloc (.cells (mt s) 36)).alloc (.cells (mt t) 36)) := b_al (b_al (b_al (Below.refl _ _) (Nat.le_refl _) _) (Nat.le_refl _) _) (Nat.le_refl _) _
  have C1 := fun W => refmay_any x W
  have C2 := fun W => refmay13_any s W
  have C3 := fun W => refmay13_any t W
  obtain ⟨c1, c2, c3⟩ := hy
  simp only [if_pos c1] at C1
  simp only [if_pos c2] at C2
  simp only [if_pos c3] at C3
  clear c1 c2 c3
  go_enter Try.func26, Try.ntmps26
  go_upto_region 3 with (first
    | go_skip
    | refine wpList_load_box (by rfl) 23 _ rfl (w.heap.size) rfl 23 (bk x) _ (by assumption) Try.underlying23 rfl (by kernel_rfl) ?_
    | refine wpList_load_box (by rfl) 36 _ rfl (w.heap.size + 1) rfl 36 (mt s) _ (by assumption) Try.underlying36 rfl (by kernel_rfl) ?_
    | refine wpList_load_box (by rfl) 36 _ rfl (w.heap.size + 1 + 1) rfl 36 (mt t) _ (by assumption) Try.underlying36 rfl (by kernel_rfl) ?_
    | (go_at_call 7; (with_reducible refine (C1 _).mono ?_); rintro e w1 ⟨rfl, hb1⟩; have XB1 := XB0.below hb1; have XS1 := XS0.below hb1; have XT1 := XT0.below hb1; have B1 := b_cl B0 (Nat.le_refl _) hb1; clear C1)
    | (go_at_call 43; (with_reducible refine (C2 _).mono ?_); rintro e w2 ⟨rfl, hb2⟩; have XB2 := XB1.below hb2; have XS2 := XS1.below hb2; have XT2 := XT1.below hb2; have B2 := b_cl B1 (Nat.le_refl _) hb2; clear C2)
    | (go_at_call 43; (with_reducible refine (C3 _).mono ?_); rintro e w3 ⟨rfl, hb3⟩; have XB3 := XB2.below hb3; have XS3 := XS2.below hb3; have XT3 := XT2.below hb3; have B3 := b_cl B2 (Nat.le_refl _) hb3; clear C3))
  (try go_frame)
  obtain ⟨a0, a1, a2, a3, a4, a5, a6, a7, a8, a9, a10, a11, a12, a13⟩ := s
  obtain ⟨b0, b1, b2, b3, b4, b5, b6, b7, b8, b9, b10, b11, b12, b13⟩ := t
  have p0 : w3.cell? ⟨w.heap.size + 1, 0, none⟩ = some (.int .i64 a0) := XS3.cell rfl
  have q0 : w3.cell? ⟨w.heap.size + 1 + 1, 0, none⟩ = some (.int .i64 b0) := XT3.cell rfl
  have p1 : w3.cell? ⟨w.heap.size + 1, 1, none⟩ = some (.int .i64 a1) := XS3.cell rfl
  have q1 : w3.cell? ⟨w.heap.size + 1 + 1, 1, none⟩ = some (.int .i64 b1) := XT3.cell rfl
  have p2 : w3.cell? ⟨w.heap.size + 1, 2, none⟩ = some (.bool a2) := XS3.cell rfl
  have q2 : w3.cell? ⟨w.heap.size + 1 + 1, 2, none⟩ = some (.bool b2) := XT3.cell rfl
  have p3 : w3.cell? ⟨w.heap.size + 1, 3, none⟩ = some (.int .i64 a3) := XS3.cell rfl
  have q3 : w3.cell? ⟨w.heap.size + 1 + 1, 3, none⟩ = some (.int .i64 b3) := XT3.cell rfl
  have p4 : w3.cell? ⟨w.heap.size + 1, 4, none⟩ = some (.int .i64 a4) := XS3.cell rfl
  have q4 : w3.cell? ⟨w.heap.size + 1 + 1, 4, none⟩ = some (.int .i64 b4) := XT3.cell rfl
  have p5 : w3.cell? ⟨w.heap.size + 1, 5, none⟩ = some (.int .i64 a5) := XS3.cell rfl
  have q5 : w3.cell? ⟨w.heap.size + 1 + 1, 5, none⟩ = some (.int .i64 b5) := XT3.cell rfl
  have p6 : w3.cell? ⟨w.heap.size + 1, 6, none⟩ = some (.int .i64 a6) := XS3.cell rfl
  have q6 : w3.cell? ⟨w.heap.size + 1 + 1, 6, none⟩ = some (.int .i64 b6) := XT3.cell rfl
  have p7 : w3.cell? ⟨w.heap.size + 1, 7, none⟩ = some (.bool a7) := XS3.cell rfl
  have q7 : w3.cell? ⟨w.heap.size + 1 + 1, 7, none⟩ = some (.bool b7) := XT3.cell rfl
  have p8 : w3.cell? ⟨w.heap.size + 1, 8, none⟩ = some (.int .i64 a8) := XS3.cell rfl
  have q8 : w3.cell? ⟨w.heap.size + 1 + 1, 8, none⟩ = some (.int .i64 b8) := XT3.cell rfl
  have p9 : w3.cell? ⟨w.heap.size + 1, 9, none⟩ = some (.int .i64 a9) := XS3.cell rfl
  have q9 : w3.cell? ⟨w.heap.size + 1 + 1, 9, none⟩ = some (.int .i64 b9) := XT3.cell rfl
  have p10 : w3.cell? ⟨w.heap.size + 1, 10, none⟩ = some (.bool a10) := XS3.cell rfl
  have q10 : w3.cell? ⟨w.heap.size + 1 + 1, 10, none⟩ = some (.bool b10) := XT3.cell rfl
  have p11 : w3.cell? ⟨w.heap.size + 1, 11, none⟩ = some (.int .i64 a11) := XS3.cell rfl
  have q11 : w3.cell? ⟨w.heap.size + 1 + 1, 11, none⟩ = some (.int .i64 b11) := XT3.cell rfl
  have p12 : w3.cell? ⟨w.heap.size + 1, 12, none⟩ = some (.int .i64 a12) := XS3.cell rfl
  have q12 : w3.cell? ⟨w.heap.size + 1 + 1, 12, none⟩ = some (.int .i64 b12) := XT3.cell rfl
  have p13 : w3.cell? ⟨w.heap.size + 1, 13, none⟩ = some (.int .i64 a13) := XS3.cell rfl
  have q13 : w3.cell? ⟨w.heap.size + 1 + 1, 13, none⟩ = some (.int .i64 b13) := XT3.cell rfl
  have z4 : w3.cell? ⟨w.heap.size, 4, none⟩ = some (.int .i64 (x 4)) := XB3.cell (bk_at x 4 (by omega))
  have z6 : w3.cell? ⟨w.heap.size, 6, none⟩ = some (.int .i64 (x 6)) := XB3.cell (bk_at x 6 (by omega))
  generalize hD : x 4 = D at z4
  generalize hL : x 6 = L at z6
  have HD := Lib.hid hD
  have HL := Lib.hid hL
  have HB := Lib.hid B3
  clear hD hL XB1 XB2 XB3 XS1 XS2 XS3 XT1 XT2 XT3 B0 B1 B2 B3 hb1 hb2 hb3
  try clear XB0 XS0 XT0
  by_cases c0 : a0 = b0
  case neg =>
    have hw : Hid (¬ UnM x ⟨a0, a1, a2, a3, a4, a5, a6, a7, a8, a9, a10, a11, a12, a13⟩ ⟨b0, b1, b2, b3, b4, b5, b6, b7, b8, b9, b10, b11, b12, b13⟩) := Lib.hid (fun h => by have := h.abr; unfold AbrM at this; simp_all)
    have d0 : (a0 != b0) = true := (by simp [c0]); have u0 : (a0 == b0) = false := (by simp [c0])
    clear c0
    go_wp2
    go_ret
    exact ⟨(by rw [← HV.out, tf_no hw.out]; try rfl), HB.out⟩
  have h0 := Lib.hid c0
  have d0 : (a0 != b0) = false := (by simp [c0]); have u0 : (a0 == b0) = true := (by simp [c0])
  clear c0
  by_cases c1 : a3 = b3
  case neg =>
    have hw : Hid (¬ UnM x ⟨a0, a1, a2, a3, a4, a5, a6, a7, a8, a9, a10, a11, a12, a13⟩ ⟨b0, b1, b2, b3, b4, b5, b6, b7, b8, b9, b10, b11, b12, b13⟩) := Lib.hid (fun h => by have := h.abr; unfold AbrM at this; simp_all)
    have d1 : (a3 != b3) = true := (by simp [c1]); have u1 : (a3 == b3) = false := (by simp [c1])
    clear c1
    go_wp2
    go_ret
    exact ⟨(by rw [← HV.out, tf_no hw.out]; try rfl), HB.out⟩
  have h1 := Lib.hid c1
  have d1 : (a3 != b3) = false := (by simp [c1]); have u1 : (a3 == b3) = true := (by simp [c1])
  clear c1
  by_cases c2 : a2 = b2
  case neg =>
    have hw : Hid (¬ UnM x ⟨a0, a1, a2, a3, a4, a5, a6, a7, a8, a9, a10, a11, a12, a13⟩ ⟨b0, b1, b2, b3, b4, b5, b6, b7, b8, b9, b10, b11, b12, b13⟩) := Lib.hid (fun h => by have := h.abr; unfold AbrM at this; simp_all)
    have d2 : (a2 != b2) = true := (by simp [c2]); have u2 : (a2 == b2) = false := (by simp [c2])
    clear c2
    go_wp2
    go_ret
    exact ⟨(by rw [← HV.out, tf_no hw.out]; try rfl), HB.out⟩
  have h2 := Lib.hid c2
  have d2 : (a2 != b2) = false := (by simp [c2]); have u2 : (a2 == b2) = true := (by simp [c2])
  clear c2
  by_cases c3 : a1 ≤ b1
  case neg =>
    have hw : Hid (¬ UnM x ⟨a0, a1, a2, a3, a4, a5, a6, a7, a8, a9, a10, a11, a12, a13⟩ ⟨b0, b1, b2, b3, b4, b5, b6, b7, b8, b9, b10, b11, b12, b13⟩) := Lib.hid (fun h => by have := h.sp; unfold SpM at this; dsimp only at this; omega)
    have d3 : decide (b1 < a1) = true := decide_eq_true (by omega); have n3 : b1 < a1 := by omega
    clear c3
    go_wp2
    go_ret
    exact ⟨(by rw [← HV.out, tf_no hw.out]; try rfl), HB.out⟩
  have h3 := Lib.hid c3
  have d3 : decide (b1 < a1) = false := decide_eq_false (by omega)
  by_cases c4 : a5 ≤ b5
  case neg =>
    have hw : Hid (¬ UnM x ⟨a0, a1, a2, a3, a4, a5, a6, a7, a8, a9, a10, a11, a12, a13⟩ ⟨b0, b1, b2, b3, b4, b5, b6, b7, b8, b9, b10, b11, b12, b13⟩) := Lib.hid (fun h => by have := h.sp; unfold SpM at this; dsimp only at this; omega)
    have d4 : decide (b5 < a5) = true := decide_eq_true (by omega); have n4 : b5 < a5 := by omega
    clear c4
    go_wp2
    go_ret
    exact ⟨(by rw [← HV.out, tf_no hw.out]; try rfl), HB.out⟩
  have h4 := Lib.hid c4
  have d4 : decide (b5 < a5) = false := decide_eq_false (by omega)
  by_cases c5 : a8 ≤ b8
  case neg =>
    have hw : Hid (¬ UnM x ⟨a0, a1, a2, a3, a4, a5, a6, a7, a8, a9, a10, a11, a12, a13⟩ ⟨b0, b1, b2, b3, b4, b5, b6, b7, b8, b9, b10, b11, b12, b13⟩) := Lib.hid (fun h => by have := h.sp; unfold SpM at this; dsimp only at this; omega)
    have d5 : decide (b8 < a8) = true := decide_eq_true (by omega); have n5 : b8 < a8 := by omega
    clear c5
    go_wp2
    go_ret
    exact ⟨(by rw [← HV.out, tf_no hw.out]; try rfl), HB.out⟩
  have h5 := Lib.hid c5
  have d5 : decide (b8 < a8) = false := decide_eq_false (by omega)
  by_cases c6 : a11 ≤ b11
  case neg =>
    have hw : Hid (¬ UnM x ⟨a0, a1, a2, a3, a4, a5, a6, a7, a8, a9, a10, a11, a12, a13⟩ ⟨b0, b1, b2, b3, b4, b5, b6, b7, b8, b9, b10, b11, b12, b13⟩) := Lib.hid (fun h => by have := h.sp; unfold SpM at this; dsimp only at this; omega)
    have d6 : decide (b11 < a11) = true := decide_eq_true (by omega); have n6 : b11 < a11 := by omega
    clear c6
    go_wp2
    go_ret
    exact ⟨(by rw [← HV.out, tf_no hw.out]; try rfl), HB.out⟩
  have h6 := Lib.hid c6
  have d6 : decide (b11 < a11) = false := decide_eq_false (by omega)
  by_cases c7 : a12 ≤ b12
  case neg =>
    have hw : Hid (¬ UnM x ⟨a0, a1, a2, a3, a4, a5, a6, a7, a8, a9, a10, a11, a12, a13⟩ ⟨b0, b1, b2, b3, b4, b5, b6, b7, b8, b9, b10, b11, b12, b13⟩) := Lib.hid (fun h => by have := h.sp; unfold SpM at this; dsimp only at this; omega)
    have d7 : decide (b12 < a12) = true := decide_eq_true (by omega); have n7 : b12 < a12 := by omega
    clear c7
    go_wp2
    go_ret
    exact ⟨(by rw [← HV.out, tf_no hw.out]; try rfl), HB.out⟩
  have h7 := Lib.hid c7
  have d7 : decide (b12 < a12) = false := decide_eq_false (by omega)
  by_cases c8 : a13 ≤ b13
  case neg =>
    have hw : Hid (¬ UnM x ⟨a0, a1, a2, a3, a4, a5, a6, a7, a8, a9, a10, a11, a12, a13⟩ ⟨b0, b1, b2, b3, b4, b5, b6, b7, b8, b9, b10, b11, b12, b13⟩) := Lib.hid (fun h => by have := h.sp; unfold SpM at this; dsimp only at this; omega)
    have d8 : decide (b13 < a13) = true := decide_eq_true (by omega); have n8 : b13 < a13 := by omega
    clear c8
    go_wp2
    go_ret
    exact ⟨(by rw [← HV.out, tf_no hw.out]; try rfl), HB.out⟩
  have h8 := Lib.hid c8
  have d8 : decide (b13 < a13) = false := decide_eq_false (by omega)
  by_cases c9 : b4 ≤ a4
  case neg =>
    have hw : Hid (¬ UnM x ⟨a0, a1, a2, a3, a4, a5, a6, a7, a8, a9, a10, a11, a12, a13⟩ ⟨b0, b1, b2, b3, b4, b5, b6, b7, b8, b9, b10, b11, b12, b13⟩) := Lib.hid (fun h => by have := h.rs; unfold RsM at this; dsimp only at this; omega)
    have d9 : decide (a4 < b4) = true := decide_eq_true (by omega); have n9 : a4 < b4 := by omega
    clear c9
    go_wp2
    go_ret
    exact ⟨(by rw [← HV.out, tf_no hw.out]; try rfl), HB.out⟩
  have h9 := Lib.hid c9
  have d9 : decide (a4 < b4) = false := decide_eq_false (by omega)
  by_cases c10 : b9 ≤ a9
  case neg =>
    have hw : Hid (¬ UnM x ⟨a0, a1, a2, a3, a4, a5, a6, a7, a8, a9, a10, a11, a12, a13⟩ ⟨b0, b1, b2, b3, b4, b5, b6, b7, b8, b9, b10, b11, b12, b13⟩) := Lib.hid (fun h => by have := h.rs; unfold RsM at this; dsimp only at this; omega)
    have d10 : decide (a9 < b9) = true := decide_eq_true (by omega); have n10 : a9 < b9 := by omega
    clear c10
    go_wp2
    go_ret
    exact ⟨(by rw [← HV.out, tf_no hw.out]; try rfl), HB.out⟩
  have h10 := Lib.hid c10
  have d10 : decide (a9 < b9) = false := decide_eq_false (by omega)
  cases b7 with
  | false =>
    cases a10 with
    | false =>
      have EV := Lib.hid (show tf (UnM x ⟨a0, a1, a2, a3, a4, a5, a6, a7, a8, a9, false, a11, a12, a13⟩ ⟨b0, b1, b2, b3, b4, b5, b6, false, b8, b9, b10, b11, b12, b13⟩) = tf (LgM x ⟨a0, a1, a2, a3, a4, a5, a6, a7, a8, a9, false, a11, a12, a13⟩ ⟨b0, b1, b2, b3, b4, b5, b6, false, b8, b9, b10, b11, b12, b13⟩) by congr 1; exact propext ⟨fun h => h.lg, fun h => ⟨⟨h0.out, h1.out, h2.out⟩, ⟨h3.out, h4.out, h5.out, h6.out, h7.out, h8.out⟩, ⟨h9.out, h10.out, by simp, by simp⟩, h⟩⟩)
      by_cases g0 : a5 ≤ D
      case neg =>
        have e0 : decide (a5 ≤ D) = false := decide_eq_false g0
        have n0 : D < a5 := by omega
        have e : tf (LgM x ⟨a0, a1, a2, a3, a4, a5, a6, a7, a8, a9, false, a11, a12, a13⟩ ⟨b0, b1, b2, b3, b4, b5, b6, false, b8, b9, b10, b11, b12, b13⟩) = decide (a6 ≤ b6) := by
          rw [← tf_int]; congr 1; unfold LgM; rw [HD.out, HL.out]; dsimp only; exact propext ⟨fun h => h.1, fun h => ⟨h, fun g => by omega⟩⟩
        have EW := Lib.hid e
        clear e g0
        go_wp2
        go_ret
        exact ⟨(by rw [← HV.out, EV.out, EW.out]; try rfl), HB.out⟩
      have e0 : decide (a5 ≤ D) = true := decide_eq_true g0
      by_cases g1 : D < b5
      case neg =>
        have e1 : decide (D < b5) = false := decide_eq_false g1
        have n1 : b5 ≤ D := by omega
        have e : tf (LgM x ⟨a0, a1, a2, a3, a4, a5, a6, a7, a8, a9, false, a11, a12, a13⟩ ⟨b0, b1, b2, b3, b4, b5, b6, false, b8, b9, b10, b11, b12, b13⟩) = decide (a6 ≤ b6) := by
          rw [← tf_int]; congr 1; unfold LgM; rw [HD.out, HL.out]; dsimp only; exact propext ⟨fun h => h.1, fun h => ⟨h, fun g => by omega⟩⟩
        have EW := Lib.hid e
        clear e g1
        go_wp2
        go_ret
        exact ⟨(by rw [← HV.out, EV.out, EW.out]; try rfl), HB.out⟩
      have e1 : decide (D < b5) = true := decide_eq_true g1
      by_cases g2 : a6 < b6
      case neg =>
        have e2 : decide (a6 < b6) = false := decide_eq_false g2
        have n2 : b6 ≤ a6 := by omega
        have EW : Hid (¬ LgM x ⟨a0, a1, a2, a3, a4, a5, a6, a7, a8, a9, false, a11, a12, a13⟩ ⟨b0, b1, b2, b3, b4, b5, b6, false, b8, b9, b10, b11, b12, b13⟩) := Lib.hid (by unfold LgM; rw [HD.out, HL.out]; dsimp only; exact fun h => by have := h.2 ⟨g0, g1⟩; omega)
        clear g2
        go_wp2
        go_ret
        exact ⟨(by rw [← HV.out, EV.out, tf_no EW.out]; try rfl), HB.out⟩
      have e2 : decide (a6 < b6) = true := decide_eq_true g2
      have e : tf (LgM x ⟨a0, a1, a2, a3, a4, a5, a6, a7, a8, a9, false, a11, a12, a13⟩ ⟨b0, b1, b2, b3, b4, b5, b6, false, b8, b9, b10, b11, b12, b13⟩) = decide (a6 < L) := by
        rw [← tf_int]; congr 1; unfold LgM; rw [HD.out, HL.out]; dsimp only; exact propext ⟨fun h => (h.2 ⟨g0, g1⟩).2, fun h => ⟨by omega, fun _ => ⟨g2, h⟩⟩⟩
      have EW := Lib.hid e
      clear e
      go_wp2
      go_ret
      exact ⟨(by rw [← HV.out, EV.out, EW.out]; try rfl), HB.out⟩
    | true =>
      cases b10 with
      | false =>
        go_wp2
        go_ret
        exact ⟨(by rw [← HV.out, tf_no (fun h => by have := h.rs; unfold RsM at this; simp at this)]; try rfl), HB.out⟩
      | true =>
        have EV := Lib.hid (show tf (UnM x ⟨a0, a1, a2, a3, a4, a5, a6, a7, a8, a9, true, a11, a12, a13⟩ ⟨b0, b1, b2, b3, b4, b5, b6, false, b8, b9, true, b11, b12, b13⟩) = tf (LgM x ⟨a0, a1, a2, a3, a4, a5, a6, a7, a8, a9, true, a11, a12, a13⟩ ⟨b0, b1, b2, b3, b4, b5, b6, false, b8, b9, true, b11, b12, b13⟩) by congr 1; exact propext ⟨fun h => h.lg, fun h => ⟨⟨h0.out, h1.out, h2.out⟩, ⟨h3.out, h4.out, h5.out, h6.out, h7.out, h8.out⟩, ⟨h9.out, h10.out, by simp, by simp⟩, h⟩⟩)
        by_cases g0 : a5 ≤ D
        case neg =>
          have e0 : decide (a5 ≤ D) = false := decide_eq_false g0
          have n0 : D < a5 := by omega
          have e : tf (LgM x ⟨a0, a1, a2, a3, a4, a5, a6, a7, a8, a9, true, a11, a12, a13⟩ ⟨b0, b1, b2, b3, b4, b5, b6, false, b8, b9, true, b11, b12, b13⟩) = decide (a6 ≤ b6) := by
            rw [← tf_int]; congr 1; unfold LgM; rw [HD.out, HL.out]; dsimp only; exact propext ⟨fun h => h.1, fun h => ⟨h, fun g => by omega⟩⟩
          have EW := Lib.hid e
          clear e g0
          go_wp2
          go_ret
          exact ⟨(by rw [← HV.out, EV.out, EW.out]; try rfl), HB.out⟩
        have e0 : decide (a5 ≤ D) = true := decide_eq_true g0
        by_cases g1 : D < b5
        case neg =>
          have e1 : decide (D < b5) = false := decide_eq_false g1
          have n1 : b5 ≤ D := by omega
          have e : tf (LgM x ⟨a0, a1, a2, a3, a4, a5, a6, a7, a8, a9, true, a11, a12, a13⟩ ⟨b0, b1, b2, b3, b4, b5, b6, false, b8, b9, true, b11, b12, b13⟩) = decide (a6 ≤ b6) := by
            rw [← tf_int]; congr 1; unfold LgM; rw [HD.out, HL.out]; dsimp only; exact propext ⟨fun h => h.1, fun h => ⟨h, fun g => by omega⟩⟩
          have EW := Lib.hid e
          clear e g1
          go_wp2
          go_ret
          exact ⟨(by rw [← HV.out, EV.out, EW.out]; try rfl), HB.out⟩
        have e1 : decide (D < b5) = true := decide_eq_true g1
        by_cases g2 : a6 < b6
        case neg =>
          have e2 : decide (a6 < b6) = false := decide_eq_false g2
          have n2 : b6 ≤ a6 := by omega
          have EW : Hid (¬ LgM x ⟨a0, a1, a2, a3, a4, a5, a6, a7, a8, a9, true, a11, a12, a13⟩ ⟨b0, b1, b2, b3, b4, b5, b6, false, b8, b9, true, b11, b12, b13⟩) := Lib.hid (by unfold LgM; rw [HD.out, HL.out]; dsimp only; exact fun h => by have := h.2 ⟨g0, g1⟩; omega)
          clear g2
          go_wp2
          go_ret
          exact ⟨(by rw [← HV.out, EV.out, tf_no EW.out]; try rfl), HB.out⟩
        have e2 : decide (a6 < b6) = true := decide_eq_true g2
        have e : tf (LgM x ⟨a0, a1, a2, a3, a4, a5, a6, a7, a8, a9, true, a11, a12, a13⟩ ⟨b0, b1, b2, b3, b4, b5, b6, false, b8, b9, true, b11, b12, b13⟩) = decide (a6 < L) := by
          rw [← tf_int]; congr 1; unfold LgM; rw [HD.out, HL.out]; dsimp only; exact propext ⟨fun h => (h.2 ⟨g0, g1⟩).2, fun h => ⟨by omega, fun _ => ⟨g2, h⟩⟩⟩
        have EW := Lib.hid e
        clear e
        go_wp2
        go_ret
        exact ⟨(by rw [← HV.out, EV.out, EW.out]; try rfl), HB.out⟩
  | true =>
    cases a7 with
    | false =>
      go_wp2
      go_ret
      exact ⟨(by rw [← HV.out, tf_no (fun h => by have := h.rs; unfold RsM at this; simp at this)]; try rfl), HB.out⟩
    | true =>
      cases a10 with
      | false =>
        have EV := Lib.hid (show tf (UnM x ⟨a0, a1, a2, a3, a4, a5, a6, true, a8, a9, false, a11, a12, a13⟩ ⟨b0, b1, b2, b3, b4, b5, b6, true, b8, b9, b10, b11, b12, b13⟩) = tf (LgM x ⟨a0, a1, a2, a3, a4, a5, a6, true, a8, a9, false, a11, a12, a13⟩ ⟨b0, b1, b2, b3, b4, b5, b6, true, b8, b9, b10, b11, b12, b13⟩) by congr 1; exact propext ⟨fun h => h.lg, fun h => ⟨⟨h0.out, h1.out, h2.out⟩, ⟨h3.out, h4.out, h5.out, h6.out, h7.out, h8.out⟩, ⟨h9.out, h10.out, by simp, by simp⟩, h⟩⟩)
        by_cases g0 : a5 ≤ D
        case neg =>
          have e0 : decide (a5 ≤ D) = false := decide_eq_false g0
          have n0 : D < a5 := by omega
          have e : tf (LgM x ⟨a0, a1, a2, a3, a4, a5, a6, true, a8, a9, false, a11, a12, a13⟩ ⟨b0, b1, b2, b3, b4, b5, b6, true, b8, b9, b10, b11, b12, b13⟩) = decide (a6 ≤ b6) := by
            rw [← tf_int]; congr 1; unfold LgM; rw [HD.out, HL.out]; dsimp only; exact propext ⟨fun h => h.1, fun h => ⟨h, fun g => by omega⟩⟩
          have EW := Lib.hid e
          clear e g0
          go_wp2
          go_ret
          exact ⟨(by rw [← HV.out, EV.out, EW.out]; try rfl), HB.out⟩
        have e0 : decide (a5 ≤ D) = true := decide_eq_true g0
        by_cases g1 : D < b5
        case neg =>
          have e1 : decide (D < b5) = false := decide_eq_false g1
          have n1 : b5 ≤ D := by omega
          have e : tf (LgM x ⟨a0, a1, a2, a3, a4, a5, a6, true, a8, a9, false, a11, a12, a13⟩ ⟨b0, b1, b2, b3, b4, b5, b6, true, b8, b9, b10, b11, b12, b13⟩) = decide (a6 ≤ b6) := by
            rw [← tf_int]; congr 1; unfold LgM; rw [HD.out, HL.out]; dsimp only; exact propext ⟨fun h => h.1, fun h => ⟨h, fun g => by omega⟩⟩
          have EW := Lib.hid e
          clear e g1
          go_wp2
          go_ret
          exact ⟨(by rw [← HV.out, EV.out, EW.out]; try rfl), HB.out⟩
        have e1 : decide (D < b5) = true := decide_eq_true g1
        by_cases g2 : a6 < b6
        case neg =>
          have e2 : decide (a6 < b6) = false := decide_eq_false g2
          have n2 : b6 ≤ a6 := by omega
          have EW : Hid (¬ LgM x ⟨a0, a1, a2, a3, a4, a5, a6, true, a8, a9, false, a11, a12, a13⟩ ⟨b0, b1, b2, b3, b4, b5, b6, true, b8, b9, b10, b11, b12, b13⟩) := Lib.hid (by unfold LgM; rw [HD.out, HL.out]; dsimp only; exact fun h => by have := h.2 ⟨g0, g1⟩; omega)
          clear g2
          go_wp2
          go_ret
          exact ⟨(by rw [← HV.out, EV.out, tf_no EW.out]; try rfl), HB.out⟩
        have e2 : decide (a6 < b6) = true := decide_eq_true g2
        have e : tf (LgM x ⟨a0, a1, a2, a3, a4, a5, a6, true, a8, a9, false, a11, a12, a13⟩ ⟨b0, b1, b2, b3, b4, b5, b6, true, b8, b9, b10, b11, b12, b13⟩) = decide (a6 < L) := by
          rw [← tf_int]; congr 1; unfold LgM; rw [HD.out, HL.out]; dsimp only; exact propext ⟨fun h => (h.2 ⟨g0, g1⟩).2, fun h => ⟨by omega, fun _ => ⟨g2, h⟩⟩⟩
        have EW := Lib.hid e
        clear e
        go_wp2
        go_ret
        exact ⟨(by rw [← HV.out, EV.out, EW.out]; try rfl), HB.out⟩
      | true =>
        cases b10 with
        | false =>
          go_wp2
          go_ret
          exact ⟨(by rw [← HV.out, tf_no (fun h => by have := h.rs; unfold RsM at this; simp at this)]; try rfl), HB.out⟩
        | true =>
          have EV := Lib.hid (show tf (UnM x ⟨a0, a1, a2, a3, a4, a5, a6, true, a8, a9, true, a11, a12, a13⟩ ⟨b0, b1, b2, b3, b4, b5, b6, true, b8, b9, true, b11, b12, b13⟩) = tf (LgM x ⟨a0, a1, a2, a3, a4, a5, a6, true, a8, a9, true, a11, a12, a13⟩ ⟨b0, b1, b2, b3, b4, b5, b6, true, b8, b9, true, b11, b12, b13⟩) by congr 1; exact propext ⟨fun h => h.lg, fun h => ⟨⟨h0.out, h1.out, h2.out⟩, ⟨h3.out, h4.out, h5.out, h6.out, h7.out, h8.out⟩, ⟨h9.out, h10.out, by simp, by simp⟩, h⟩⟩)
          by_cases g0 : a5 ≤ D
          case neg =>
            have e0 : decide (a5 ≤ D) = false := decide_eq_false g0
            have n0 : D < a5 := by omega
            have e : tf (LgM x ⟨a0, a1, a2, a3, a4, a5, a6, true, a8, a9, true, a11, a12, a13⟩ ⟨b0, b1, b2, b3, b4, b5, b6, true, b8, b9, true, b11, b12, b13⟩) = decide (a6 ≤ b6) := by
              rw [← tf_int]; congr 1; unfold LgM; rw [HD.out, HL.out]; dsimp only; exact propext ⟨fun h => h.1, fun h => ⟨h, fun g => by omega⟩⟩
            have EW := Lib.hid e
            clear e g0
            go_wp2
            go_ret
            exact ⟨(by rw [← HV.out, EV.out, EW.out]; try rfl), HB.out⟩
          have e0 : decide (a5 ≤ D) = true := decide_eq_true g0
          by_cases g1 : D < b5
          case neg =>
            have e1 : decide (D < b5) = false := decide_eq_false g1
            have n1 : b5 ≤ D := by omega
            have e : tf (LgM x ⟨a0, a1, a2, a3, a4, a5, a6, true, a8, a9, true, a11, a12, a13⟩ ⟨b0, b1, b2, b3, b4, b5, b6, true, b8, b9, true, b11, b12, b13⟩) = decide (a6 ≤ b6) := by
              rw [← tf_int]; congr 1; unfold LgM; rw [HD.out, HL.out]; dsimp only; exact propext ⟨fun h => h.1, fun h => ⟨h, fun g => by omega⟩⟩
            have EW := Lib.hid e
            clear e g1
            go_wp2
            go_ret
            exact ⟨(by rw [← HV.out, EV.out, EW.out]; try rfl), HB.out⟩
          have e1 : decide (D < b5) = true := decide_eq_true g1
          by_cases g2 : a6 < b6
          case neg =>
            have e2 : decide (a6 < b6) = false := decide_eq_false g2
            have n2 : b6 ≤ a6 := by omega
            have EW : Hid (¬ LgM x ⟨a0, a1, a2, a3, a4, a5, a6, true, a8, a9, true, a11, a12, a13⟩ ⟨b0, b1, b2, b3, b4, b5, b6, true, b8, b9, true, b11, b12, b13⟩) := Lib.hid (by unfold LgM; rw [HD.out, HL.out]; dsimp only; exact fun h => by have := h.2 ⟨g0, g1⟩; omega)
            clear g2
            go_wp2
            go_ret
            exact ⟨(by rw [← HV.out, EV.out, tf_no EW.out]; try rfl), HB.out⟩
          have e2 : decide (a6 < b6) = true := decide_eq_true g2
          have e : tf (LgM x ⟨a0, a1, a2, a3, a4, a5, a6, true, a8, a9, true, a11, a12, a13⟩ ⟨b0, b1, b2, b3, b4, b5, b6, true, b8, b9, true, b11, b12, b13⟩) = decide (a6 < L) := by
            rw [← tf_int]; congr 1; unfold LgM; rw [HD.out, HL.out]; dsimp only; exact propext ⟨fun h => (h.2 ⟨g0, g1⟩).2, fun h => ⟨by omega, fun _ => ⟨g2, h⟩⟩⟩
          have EW := Lib.hid e
          clear e
          go_wp2
          go_ret
          exact ⟨(by rw [← HV.out, EV.out, EW.out]; try rfl), HB.out⟩

theorem refunder17_any (x : Nat → Int) (s t : Mt) (w : World) :
    Calls Try.prog 26 #[.agg (bk x), .agg (mt s), .agg (mt t)] w fun e w' => e = .returned (.bool (tf (Un x s t))) ∧ Below w.heap.size w w' := by
  by_cases h : MyM x s t
  · exact refunder17_yes x s t w h
  · exact refunder17_no x s t w h

end Go.Proofs.Ytglgifhpacmhiaa
