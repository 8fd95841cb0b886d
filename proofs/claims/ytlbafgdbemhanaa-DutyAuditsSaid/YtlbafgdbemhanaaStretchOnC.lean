/- What on of layer 14 leaves. Conditions: as the theorem says. -/
import Derived.Test.YtlbafgdbemhanaaRows
import Derived.Test.YtlbafgdbemhanaaBase
import Derived.Test.YtlbafgdbemhanaaZ2
import Derived.Test.YtlbafgdbemhanaaZ3
import Derived.Test.YtlbafgdbemhanaaMeterChk
import Derived.Test.YtlbafgdbemhanaaZ4
import Derived.Test.YtlbafgdbemhanaaStretchBreaks
import Derived.Test.YtlbafgdbemhanaaStretchWeek
import Derived.Test.YtlbafgdbemhanaaStretchDrive
import Derived.Test.YtlbafgdbemhanaaStretchWeeks
import Derived.Test.YtlbafgdbemhanaaMeterRise
import Derived.Test.YtlbafgdbemhanaaMeterMin
import Derived.WalkKit
import Derived.WalkSpells
import Derived.WalkSmall
import Derived.Below
import Derived.Lib.Hide
import Derived.Shelf.Abstract
import Derived.BigQuiet
import Derived.OwnWalk
import Derived.Outline
import Derived.Deep.DeepCutAuto
import Derived.StillTailTactics
import Derived.Maps.RangeWalk
import Derived.OrdersHeld
namespace Go.Proofs.Ytlbafgdbemhanaa
open Go.RowKit

theorem may_book {x : Nat → Int} (h : May x) : (1 ≤ x 15 ∧ x 15 ≤ 40320) ∧ (1 ≤ x 16 ∧ x 16 ≤ 40320) ∧ (1 ≤ x 17 ∧ x 17 ≤ 40320) ∧ (1 ≤ x 18 ∧ x 18 ≤ 40320) := by
  have h1 := h.1 15 (by omega)
  have h2 := h.1 16 (by omega)
  have h3 := h.1 17 (by omega)
  have h4 := h.1 18 (by omega)
  unfold lim at h1 h2 h3 h4
  simp at h1 h2 h3 h4
  omega
theorem thr_three (x : Nat → Int) (n : Nat) (m : Mt) (y : Nat → Int) (S : Wk) : ∀ c, drY x m.now (m.now + n) (wkM m S) (brk (brk (wkY y S) 5 (m.dawn + x 11 - x 8) (m.now + n)) 7 (m.sabbath + x 14) (m.now + n)) c = wkY (thrY x 3 n m y) S c := by
  obtain ⟨a0, a1, a2, a3, a4, a5, a6, a7, a8, a9, a10, a11, a12, a13⟩ := m
  obtain ⟨sp, sw, sl, sb, s3, s4, s9⟩ := S
  intro c
  have e0 : ∀ z : Nat → Int, (drY x a0 (a0 + n) (wkM ⟨a0, a1, a2, a3, a4, a5, a6, a7, a8, a9, a10, a11, a12, a13⟩ ⟨sp, sw, sl, sb, s3, s4, s9⟩) z) c = if c = 2 ∧ ((a0 ≤ a0 + x 4 - a5 ∧ a0 + x 4 - a5 < a0 + n) ∧ x 6 < a6 + 1) ∧ z 2 < 0 then a0 + x 4 - a5 else if c = 1 ∧ a0 + x 5 - a5 < a0 + n ∧ z 1 < 0 then a0 + x 5 - a5 else if c = 0 ∧ a0 + x 0 - a1 < a0 + n ∧ z 0 < 0 then a0 + x 0 - a1 else z c := fun z => by
    unfold drY wkM
    dsimp only
    by_cases c0 : c = 0
    · subst c0
      split <;> simp [brk_same, brk_other]
    by_cases c1 : c = 1
    · subst c1
      split <;> simp [brk_same, brk_other]
    by_cases c2 : c = 2
    · subst c2
      by_cases hq : (a0 ≤ a0 + x 4 - a5 ∧ a0 + x 4 - a5 < a0 + n) ∧ x 6 < a6 + 1
      · rw [if_pos hq]
        simp [brk_same, brk_other, hq]
      · rw [if_neg hq, if_neg (fun h => hq h.2.1)]
        simp [brk_other]
    · simp only [c2, c1, c0, false_and, if_false]
      split
      · rw [brk_other _ _ _ c2, brk_other _ _ _ c1, brk_other _ _ _ c0]
      · rw [brk_other _ _ _ c1, brk_other _ _ _ c0]
  dsimp only at e0 ⊢
  rw [e0]
  unfold wkY thrY
  by_cases c0 : c = 0
  · subst c0; simp [brk_other]
  by_cases c1 : c = 1
  · subst c1; simp [brk_other]
  by_cases c2 : c = 2
  · subst c2
    simp only [true_and, brk_other _ _ _ (show (2 : Nat) ≠ 5 by decide), brk_other _ _ _ (show (2 : Nat) ≠ 7 by decide)]
    simp
    repeat' split
    all_goals omega
  by_cases c3 : c = 3
  · subst c3; simp [brk_other]
  by_cases c4 : c = 4
  · subst c4; simp [brk_other]
  by_cases c5 : c = 5
  · subst c5; simp [brk_other, brk_same]
  by_cases c7 : c = 7
  · subst c7; simp [brk_other, brk_same]
  by_cases c9 : c = 9
  · subst c9; simp [brk_other]
  rw [if_neg (fun h => c2 h.1), if_neg (fun h => c1 h.1), if_neg (fun h => c0 h.1), brk_other _ _ _ c7, brk_other _ _ _ c5, if_neg c3, if_neg c4, if_neg c9]
  rw [if_neg c3, if_neg c4, if_neg c9]
  split <;> first | (exfalso; omega) | rfl
theorem thr_up (x : Nat → Int) (k : Int) (n : Nat) (m : Mt) (y : Nat → Int) (S : Wk) (h3 : ¬ k = 3) (h0 : ¬ k = 0) : ∀ c, (brk (brk (wkY y S) 5 (m.dawn + x 11 - x 8) (m.now + n)) 7 (m.sabbath + x 14) (m.now + n)) c = wkY (thrY x k n m y) S c := by
  intro c
  unfold wkY thrY
  by_cases c0 : c = 0
  · subst c0; simp [brk_other, h3]
  by_cases c1 : c = 1
  · subst c1; simp [brk_other, h3]
  by_cases c2 : c = 2
  · subst c2; simp [brk_other, h3]
  by_cases c3 : c = 3
  · subst c3; simp [brk_other]
  by_cases c4 : c = 4
  · subst c4; simp [brk_other]
  by_cases c5 : c = 5
  · subst c5; simp [brk_other, brk_same, h0]
  by_cases c7 : c = 7
  · subst c7; simp [brk_other, brk_same, h0]
  by_cases c9 : c = 9
  · subst c9; simp [brk_other]
  rw [brk_other _ _ _ c7, brk_other _ _ _ c5, if_neg c3, if_neg c4, if_neg c9]
  rw [if_neg c3, if_neg c4, if_neg c9]
  split <;> first | (exfalso; omega) | rfl
theorem thr_rest (x : Nat → Int) (n : Nat) (m : Mt) (y : Nat → Int) : ∀ c, y c = thrY x 0 n m y c := by
  intro c
  unfold thrY
  split <;> simp

set_option maxRecDepth 100000 in
set_option maxHeartbeats 4000000 in
theorem on_any (g : Nat) (x : Nat → Int) (k : Int) (m : Mt) (y : Nat → Int) (n : Nat) (w : World) (hb : Bk w g x k m y) (hN : Noted x k m y) (hm : MayM m) (hn : m.now + n ≤ 40320) (hx : May x) :
    Calls Try.prog 69 #[.pointer (some ⟨g, 0, none⟩), .int .i64 (n : Nat)] w fun e w' => e = .returned (.tuple #[]) ∧ BkTo w g x k (walkV x k n m y).1 (walkV x k n m y).2 w' := by
  obtain ⟨W1, W2⟩ := walk_on hN n
  have hbe : ∀ m', blk x k m' (walkV x k n m y).2 = blk x k m' (wkY (thrY x k n m y) (Wk.run x k n (wkOf m y))) := fun m' => blk_eq x k m' (fun c _ => W2 c)
  unfold BkTo
  rw [hbe, W1]
  clear W1 W2 hbe
  have hbk := may_book hx
  have t0 := may_time hx 0 (by omega)
  have t4 := may_time hx 4 (by omega)
  have t5 := may_time hx 5 (by omega)
  have WS := fun W h => weeks_any g x k m y m.now n W h ⟨hN.2.2.2.2.2.1, hm.1.2⟩ (by have := hm.1.1; omega) hN.2.2.2.2.2 (by unfold MayM at hm; unfold Wk.Le; dsimp only; omega) hbk
  change ∀ W h, Calls _ _ _ W fun e' w' => e' = .returned (.tuple #[]) ∧ BkTo W g x k (wkM m (Wk.run x k n (wkOf m y))) (wkY y (Wk.run x k n (wkOf m y))) w' at WS
  obtain ⟨q11, q11'⟩ := may_time hx 11 (by omega)
  obtain ⟨q8, q8'⟩ := may_time hx 8 (by omega)
  obtain ⟨q14, q14'⟩ := may_time hx 14 (by omega)
  clear hbk hx hN
  generalize Wk.run x k n (wkOf m y) = S at WS ⊢
  have C : BkTo w g x k m y w := Chg.refl hb
  clear hb
  have H3 := thr_three x n m y S
  have HU := fun h3 h0 => thr_up x k n m y S h3 h0
  have H0 := thr_rest x n m y
  obtain ⟨a0, a1, a2, a3, a4, a5, a6, a7, a8, a9, a10, a11, a12, a13⟩ := m
  obtain ⟨sp, sw, sl, sb, s3, s4, s9⟩ := S
  unfold MayM at hm
  dsimp only at hm hn H3 HU H0
  obtain ⟨⟨i0, j0⟩, ⟨i1, j1⟩, ⟨i3, j3⟩, ⟨i4, j4⟩, ⟨i5, j5⟩, ⟨i6, j6⟩, -, ⟨i9, j9⟩, -⟩ := hm
  have HH3 := Lib.hid H3
  have HHU := Lib.hid HU
  have HH0 := Lib.hid H0
  clear H3 HU H0
  replace WS : ∀ W h, Calls Try.prog 84 #[.pointer (some ⟨g, 0, none⟩), .int .i64 a0, .int .i64 (n : Nat)] W fun e' w' => e' = .returned (.tuple #[]) ∧ BkTo W g x k ⟨a0, a1, a2, a3, a4, a5, a6, a7, a8, a9, a10, sw, sl, sb⟩ (wkY y ⟨sp, sw, sl, sb, s3, s4, s9⟩) w' := WS
  obtain ⟨Y, hY⟩ : ∃ Y, wkY y ⟨sp, sw, sl, sb, s3, s4, s9⟩ = Y := ⟨_, rfl⟩
  rw [hY] at WS
  have HY := Lib.hid hY
  clear hY
  have z1 := wrap14 (a4 + x 11) (by omega) (by omega)
  have z2 := wrap14 (a4 + x 11 - x 8) (by omega) (by omega)
  have z3 := wrap14 (a9 + x 14) (by omega) (by omega)
  have z4 := wrap14 (a0 + (n : Int)) (by omega) (by omega)
  have DV := fun W Yd h => drive14_any g x 3 ⟨a0, a1, a2, a3, a4, a5, a6, a7, a8, a9, a10, sw, sl, sb⟩ Yd a0 (a0 + (n : Int)) W h (by omega) (by dsimp only; omega) ⟨t0, t4, t5⟩
  have f20 : w.cell? ⟨g, 20, none⟩ = some (.int .i64 (a0)) := C.box.cell rfl
  go_enter Try.func69, Try.ntmps69
  go_upto_region 1 with fail
  go_still_tail 11, (by kernel_rfl)
  change wpList _ _ _ _ _ w.drew
  replace C := C.drew
  generalize w.drew = w1 at C ⊢
  go_upto_if 28 with (first
    | (go_at_call 84; (with_reducible refine (WS _ C.box).mono ?_); rintro e w2 ⟨rfl, c⟩; replace C : BkTo w g x k ⟨a0, a1, a2, a3, a4, a5, a6, a7, a8, a9, a10, sw, sl, sb⟩ (Y) w2 := C.trans c; clear c; have f19 : w2.cell? ⟨g, 19, none⟩ = some (.int .i64 k) := C.box.cell rfl))
  (try go_frame)
  clear WS
  by_cases h0 : k = 0
  case pos =>
    subst h0
    have d0 : ((0 : Int) == 0) = true := rfl
    have d3 : ((0 : Int) == 3) = false := rfl
    have f23 : w2.cell? ⟨g, 23, none⟩ = some (.int .i64 (a3)) := C.box.cell rfl
    go_wp2_with (first
      | (refine wpList_store_fld (by rfl) 3 _ _ rfl g 23 (.int .i64 (a3 + (n : Int))) rfl rfl rfl _ _ C.box (by rw [blk_size]; decide) (by kernel_rfl) (fun w3 u => ?_); replace C : BkTo w g x (0) ⟨a0, a1, a2, a3 + (n : Int), a4, a5, a6, a7, a8, a9, a10, sw, sl, sb⟩ (Y) w3 := C.upd u; clear u; have f19 : w3.cell? ⟨g, 19, none⟩ = some (.int .i64 (0)) := C.box.cell rfl)
      | (refine wpList_store_fld (by rfl) 3 _ _ rfl g 20 (.int .i64 (a0 + (n : Int))) rfl rfl rfl _ _ C.box (by rw [blk_size]; decide) (by kernel_rfl) (fun w4 u => ?_); replace C : BkTo w g x (0) ⟨a0 + (n : Int), a1, a2, a3 + (n : Int), a4, a5, a6, a7, a8, a9, a10, sw, sl, sb⟩ (Y) w4 := C.upd u; clear u))
    refine bodyPost_end (results_none Try.results69 _ _ _) rfl ⟨rfl, ?_⟩
    have e : blk x 0 (wkM (thrM x 0 n ⟨a0, a1, a2, a3, a4, a5, a6, a7, a8, a9, a10, a11, a12, a13⟩) ⟨sp, sw, sl, sb, s3, s4, s9⟩) (wkY (thrY x 0 n ⟨a0, a1, a2, a3, a4, a5, a6, a7, a8, a9, a10, a11, a12, a13⟩ y) ⟨sp, sw, sl, sb, s3, s4, s9⟩) = blk x 0 ⟨a0 + (n : Int), a1, a2, a3 + (n : Int), a4, a5, a6, a7, a8, a9, a10, sw, sl, sb⟩ Y := by
      rw [← HY.out]
      refine (blk_eq x 0 _ (fun c _ => ?_)).trans (congrArg (fun m => blk x 0 m _) ?_)
      · unfold wkY; split
        · rfl
        split
        · rfl
        split
        · rfl
        · exact (thr_rest x n ⟨a0, a1, a2, a3, a4, a5, a6, a7, a8, a9, a10, a11, a12, a13⟩ y c).symm
      · unfold wkM thrM; simp
    rw [e]
    exact C
  have d0 : (k == 0) = false := by simpa using h0
  by_cases h3 : k = 3
  case pos =>
    subst h3
    have d3 : ((3 : Int) == 3) = true := rfl
    have f24 : w2.cell? ⟨g, 24, none⟩ = some (.int .i64 (a4)) := C.box.cell rfl
    have f11 : w2.cell? ⟨g, 11, none⟩ = some (.int .i64 (x 11)) := C.box.cell rfl
    have f8 : w2.cell? ⟨g, 8, none⟩ = some (.int .i64 (x 8)) := C.box.cell rfl
    go_upto_region 5 with fail
    (try go_frame)
    go_still_tail 18, (by kernel_rfl)
    change wpList _ _ _ _ _ w2.drew
    go_upto_region 6 with (first
      | (go_at_call 85; (with_reducible refine (breaks14_any g x (3) ⟨a0, a1, a2, a3, a4, a5, a6, a7, a8, a9, a10, sw, sl, sb⟩ (Y) 5 5 (a4 + x 11 - x 8) (a0 + (n : Int)) _ C.drew.box (by omega) rfl).mono ?_); rintro e w3 ⟨rfl, c⟩; replace C : BkTo w g x (3) ⟨a0, a1, a2, a3, a4, a5, a6, a7, a8, a9, a10, sw, sl, sb⟩ (brk (Y) 5 (a4 + x 11 - x 8) (a0 + (n : Int))) w3 := C.drew.trans c; clear c; have f29 : w3.cell? ⟨g, 29, none⟩ = some (.int .i64 (a9)) := C.box.cell rfl; have f14 : w3.cell? ⟨g, 14, none⟩ = some (.int .i64 (x 14)) := C.box.cell rfl))
    (try go_frame)
    go_still_tail 12, (by kernel_rfl)
    change wpList _ _ _ _ _ w3.drew
    go_wp2_with (first
      | (go_at_call 85; (with_reducible refine (breaks14_any g x (3) ⟨a0, a1, a2, a3, a4, a5, a6, a7, a8, a9, a10, sw, sl, sb⟩ (brk (Y) 5 (a4 + x 11 - x 8) (a0 + (n : Int))) 7 7 (a9 + x 14) (a0 + (n : Int)) _ C.drew.box (by omega) rfl).mono ?_); rintro e w4 ⟨rfl, c⟩; replace C : BkTo w g x (3) ⟨a0, a1, a2, a3, a4, a5, a6, a7, a8, a9, a10, sw, sl, sb⟩ (brk (brk (Y) 5 (a4 + x 11 - x 8) (a0 + (n : Int))) 7 (a9 + x 14) (a0 + (n : Int))) w4 := C.drew.trans c; clear c; have f19 : w4.cell? ⟨g, 19, none⟩ = some (.int .i64 (3)) := C.box.cell rfl)
      | (go_at_call 86; (with_reducible refine (DV _ _ C.box).mono ?_); rintro e w5 ⟨rfl, c⟩; replace C : BkTo w g x (3) ⟨a0, a1 + (a0 + (n : Int) - a0), a2, a3, a4, a5 + (a0 + (n : Int) - a0), (if a0 ≤ a0 + x 4 - a5 ∧ a0 + x 4 - a5 < a0 + (n : Int) then a6 + 1 else a6), a7, a8, a9, a10, sw, sl, sb⟩ (drY x a0 (a0 + (n : Int)) ⟨a0, a1, a2, a3, a4, a5, a6, a7, a8, a9, a10, sw, sl, sb⟩ (brk (brk (Y) 5 (a4 + x 11 - x 8) (a0 + (n : Int))) 7 (a9 + x 14) (a0 + (n : Int)))) w5 := C.trans c; clear c)
      | (refine wpList_store_fld (by rfl) 3 _ _ rfl g 20 (.int .i64 (a0 + (n : Int))) rfl rfl rfl _ _ C.box (by rw [blk_size]; decide) (by kernel_rfl) (fun w6 u => ?_); replace C : BkTo w g x (3) ⟨a0 + (n : Int), a1 + (a0 + (n : Int) - a0), a2, a3, a4, a5 + (a0 + (n : Int) - a0), (if a0 ≤ a0 + x 4 - a5 ∧ a0 + x 4 - a5 < a0 + (n : Int) then a6 + 1 else a6), a7, a8, a9, a10, sw, sl, sb⟩ (drY x a0 (a0 + (n : Int)) ⟨a0, a1, a2, a3, a4, a5, a6, a7, a8, a9, a10, sw, sl, sb⟩ (brk (brk (Y) 5 (a4 + x 11 - x 8) (a0 + (n : Int))) 7 (a9 + x 14) (a0 + (n : Int)))) w6 := C.upd u; clear u))
    refine bodyPost_end (results_none Try.results69 _ _ _) rfl ⟨rfl, ?_⟩
    refine Eq.mp (congrArg (fun cs => Chg w g 110 cs _) ?_) C
    refine (blk_eq x 3 _ (fun c _ => ?_)).trans (congrArg (fun m => blk x 3 m _) ?_)
    · rw [← HY.out]; exact HH3.out c
    · unfold wkM thrM
      dsimp only
      congr 1
      · simp; omega
      · simp; omega
      · simp only [true_and]
        repeat' split
        all_goals omega
  have d3 : (k == 3) = false := by simpa using h3
  have f24 : w2.cell? ⟨g, 24, none⟩ = some (.int .i64 (a4)) := C.box.cell rfl
  have f11 : w2.cell? ⟨g, 11, none⟩ = some (.int .i64 (x 11)) := C.box.cell rfl
  have f8 : w2.cell? ⟨g, 8, none⟩ = some (.int .i64 (x 8)) := C.box.cell rfl
  go_upto_region 5 with fail
  (try go_frame)
  go_still_tail 18, (by kernel_rfl)
  change wpList _ _ _ _ _ w2.drew
  go_upto_region 6 with (first
    | (go_at_call 85; (with_reducible refine (breaks14_any g x k ⟨a0, a1, a2, a3, a4, a5, a6, a7, a8, a9, a10, sw, sl, sb⟩ (Y) 5 5 (a4 + x 11 - x 8) (a0 + (n : Int)) _ C.drew.box (by omega) rfl).mono ?_); rintro e w3 ⟨rfl, c⟩; replace C : BkTo w g x k ⟨a0, a1, a2, a3, a4, a5, a6, a7, a8, a9, a10, sw, sl, sb⟩ (brk (Y) 5 (a4 + x 11 - x 8) (a0 + (n : Int))) w3 := C.drew.trans c; clear c; have f29 : w3.cell? ⟨g, 29, none⟩ = some (.int .i64 (a9)) := C.box.cell rfl; have f14 : w3.cell? ⟨g, 14, none⟩ = some (.int .i64 (x 14)) := C.box.cell rfl))
  (try go_frame)
  go_still_tail 12, (by kernel_rfl)
  change wpList _ _ _ _ _ w3.drew
  go_wp2_with (first
    | (go_at_call 85; (with_reducible refine (breaks14_any g x k ⟨a0, a1, a2, a3, a4, a5, a6, a7, a8, a9, a10, sw, sl, sb⟩ (brk (Y) 5 (a4 + x 11 - x 8) (a0 + (n : Int))) 7 7 (a9 + x 14) (a0 + (n : Int)) _ C.drew.box (by omega) rfl).mono ?_); rintro e w4 ⟨rfl, c⟩; replace C : BkTo w g x k ⟨a0, a1, a2, a3, a4, a5, a6, a7, a8, a9, a10, sw, sl, sb⟩ (brk (brk (Y) 5 (a4 + x 11 - x 8) (a0 + (n : Int))) 7 (a9 + x 14) (a0 + (n : Int))) w4 := C.drew.trans c; clear c; have f19 : w4.cell? ⟨g, 19, none⟩ = some (.int .i64 k) := C.box.cell rfl)
    | (refine wpList_store_fld (by rfl) 3 _ _ rfl g 20 (.int .i64 (a0 + (n : Int))) rfl rfl rfl _ _ C.box (by rw [blk_size]; decide) (by kernel_rfl) (fun w5 u => ?_); replace C : BkTo w g x k ⟨a0 + (n : Int), a1, a2, a3, a4, a5, a6, a7, a8, a9, a10, sw, sl, sb⟩ (brk (brk (Y) 5 (a4 + x 11 - x 8) (a0 + (n : Int))) 7 (a9 + x 14) (a0 + (n : Int))) w5 := C.upd u; clear u))
  refine bodyPost_end (results_none Try.results69 _ _ _) rfl ⟨rfl, ?_⟩
  refine Eq.mp (congrArg (fun cs => Chg w g 110 cs _) ?_) C
  refine (blk_eq x k _ (fun c _ => ?_)).trans (congrArg (fun m => blk x k m _) ?_)
  · rw [← HY.out]; exact HHU.out h3 h0 c
  · unfold wkM thrM; simp [h3, h0]

end Go.Proofs.Ytlbafgdbemhanaa
