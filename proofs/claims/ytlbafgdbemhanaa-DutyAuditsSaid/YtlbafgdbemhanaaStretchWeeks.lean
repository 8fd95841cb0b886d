/- What weeks of layer 14 leaves. Conditions: as the theorem says. -/
import Derived.Test.YtlbafgdbemhanaaRows
import Derived.Test.YtlbafgdbemhanaaBase
import Derived.Test.YtlbafgdbemhanaaZ2
import Derived.Test.YtlbafgdbemhanaaZ3
import Derived.Test.YtlbafgdbemhanaaMeterChk
import Derived.Test.YtlbafgdbemhanaaZ4
import Derived.Test.YtlbafgdbemhanaaStretchBreaks
import Derived.Test.YtlbafgdbemhanaaStretchWeek
import Derived.WalkKit
import Derived.WalkSpells
import Derived.WalkSmall
import Derived.Below
import Derived.Lib.Hide
import Derived.Shelf.Abstract
import Derived.BigQuiet
import Derived.OwnWalk
import Derived.Outline
import Derived.Deep.DeepCutAuto
import Derived.StillTailTactics
import Derived.Maps.RangeWalk
import Derived.OrdersHeld
namespace Go.Proofs.Ytlbafgdbemhanaa
open Go.RowKit

/-- None is more than the minutes that have been. -/
def Wk.Le (s : Wk) : Prop := s.week ≤ s.pos ∧ s.last ≤ s.pos ∧ s.labour ≤ s.pos
theorem Wk.le_step {x : Nat → Int} {k : Int} {s : Wk} (h0 : 0 < s.pos) (h : s.Le) : (s.step x k).Le := by
  obtain ⟨h1, h2, h3⟩ := h
  unfold Wk.step Wk.cut
  split
  · unfold Wk.plain Wk.Le
    dsimp only
    repeat' split
    all_goals omega
  · unfold Wk.plain Wk.Le
    dsimp only
    repeat' split
    all_goals omega
theorem Wk.le_run {x : Nat → Int} {k : Int} {s : Wk} (h0 : 0 < s.pos) (h : s.Le) : ∀ n, (Wk.run x k n s).Le
  | 0 => h
  | n + 1 => Wk.le_step (by rw [Wk.pos_run]; omega) (Wk.le_run h0 h n)
theorem wkY_self (p : Int) (m : Mt) (y : Nat → Int) : wkY y ⟨p, m.week, m.last, m.labour, y 3, y 4, y 9⟩ = y := by
  funext c
  unfold wkY
  split
  · rename_i e; rw [e]
  split
  · rename_i e; rw [e]
  split
  · rename_i e; rw [e]
  · rfl
theorem wkY_wkY (y : Nat → Int) (s t : Wk) : wkY (wkY y s) t = wkY y t := by
  funext c
  unfold wkY
  repeat' split
  all_goals rfl
theorem wk_same {s t : Wk} (m : Mt) (y : Nat → Int) (h1 : s.week = t.week) (h2 : s.last = t.last) (h3 : s.labour = t.labour) (h4 : s.SameF t) : wkM m s = wkM m t ∧ wkY y s = wkY y t := by
  obtain ⟨h4, h5, h6⟩ := h4
  unfold wkM wkY
  rw [h1, h2, h3, h4, h5, h6]
  exact ⟨rfl, rfl⟩
/-- To the end of the week, or of the minutes. -/
theorem Wk.run_part {x : Nat → Int} {k : Int} {s : Wk} (hx : Lims x) (h : s.Ok x k) (e : Int) (h0 : s.pos < e) (h1 : e ≤ s.pos - s.pos % x 18 + x 18) : Wk.run x k (e - s.pos).toNat s = (s.cut (x 18)).seg x k e := by
  have hL := hx.2.2.2
  rw [Wk.run_seg x k s hx h _ (by omega) (fun i hi hl => ?_)]
  · congr 1; omega
  · have r0 := Int.emod_nonneg s.pos (show x 18 ≠ 0 by omega)
    have h2 := Int.mul_ediv_add_emod s.pos (x 18)
    generalize s.pos / x 18 = q at h2
    generalize hr : s.pos % x 18 = r at *
    rw [show s.pos + (i : Int) = r + i + x 18 * q by omega, Int.add_mul_emod_self_left, Int.emod_eq_of_lt (by omega) (by omega)]
    omega

set_option maxRecDepth 100000 in
set_option maxHeartbeats 4000000 in
theorem weeks_any (g : Nat) (x : Nat → Int) (k : Int) (m : Mt) (y : Nat → Int) (p : Int) (n : Nat) (w : World) (hb : Bk w g x k m y) (hp : 0 < p ∧ p ≤ 40320) (hn : (n : Int) ≤ 40320) (hS : (⟨p, m.week, m.last, m.labour, y 3, y 4, y 9⟩ : Wk).Ok x k) (hle : (⟨p, m.week, m.last, m.labour, y 3, y 4, y 9⟩ : Wk).Le)
    (hx : (1 ≤ x 15 ∧ x 15 ≤ 40320) ∧ (1 ≤ x 16 ∧ x 16 ≤ 40320) ∧ (1 ≤ x 17 ∧ x 17 ≤ 40320) ∧ (1 ≤ x 18 ∧ x 18 ≤ 40320)) :
    Calls Try.prog 84 #[.pointer (some ⟨g, 0, none⟩), .int .i64 p, .int .i64 (n : Nat)] w fun e' w' => e' = .returned (.tuple #[]) ∧ BkTo w g x k (wkM m (Wk.run x k n ⟨p, m.week, m.last, m.labour, y 3, y 4, y 9⟩)) (wkY y (Wk.run x k n ⟨p, m.week, m.last, m.labour, y 3, y 4, y 9⟩)) w' := by
  have hL : Lims x := ⟨hx.1.1, hx.2.1.1, hx.2.2.1.1, hx.2.2.2.1⟩
  have hX : (0 ≤ x 15 ∧ x 15 ≤ 40320) ∧ (0 ≤ x 16 ∧ x 16 ≤ 40320) ∧ (0 ≤ x 17 ∧ x 17 ≤ 40320) := by omega
  obtain ⟨-, -, -, l0, l1⟩ := hx
  obtain ⟨p0, p1⟩ := hp
  have R0 := Int.emod_nonneg (n : Int) (show x 18 ≠ 0 by omega)
  have R1 := Int.emod_lt_of_pos (n : Int) (show 0 < x 18 by omega)
  obtain ⟨q, hq, hq1, hq2⟩ : ∃ q : Nat, ((q : Int) = if 3 * x 18 < (n : Int) then (n : Int) % x 18 + 3 * x 18 else (n : Int)) ∧ wkM m (Wk.run x k n ⟨p, m.week, m.last, m.labour, y 3, y 4, y 9⟩) = wkM m (Wk.run x k q ⟨p, m.week, m.last, m.labour, y 3, y 4, y 9⟩) ∧ wkY y (Wk.run x k n ⟨p, m.week, m.last, m.labour, y 3, y 4, y 9⟩) = wkY y (Wk.run x k q ⟨p, m.week, m.last, m.labour, y 3, y 4, y 9⟩) := by
    by_cases h : 3 * x 18 < (n : Int)
    · refine ⟨((n : Int) % x 18 + 3 * x 18).toNat, by rw [if_pos h, Int.toNat_of_nonneg (by omega)], ?_⟩
      obtain ⟨e1, e2, e3, e4⟩ := Wk.run_less hL hS n h
      exact wk_same m y e1 e2 e3 e4
    · exact ⟨n, by rw [if_neg h], rfl, rfl⟩
  rw [hq1, hq2]
  clear hq1 hq2
  have HQ := Lib.hid hq
  have hqb : (q : Int) ≤ 161280 := by rw [hq]; split <;> omega
  clear hq
  obtain ⟨Mf, hMf⟩ : ∃ Mf, wkM m (Wk.run x k q ⟨p, m.week, m.last, m.labour, y 3, y 4, y 9⟩) = Mf := ⟨_, rfl⟩
  obtain ⟨Yf, hYf⟩ : ∃ Yf, wkY y (Wk.run x k q ⟨p, m.week, m.last, m.labour, y 3, y 4, y 9⟩) = Yf := ⟨_, rfl⟩
  rw [hMf, hYf]
  have HM := Lib.hid hMf
  have HY := Lib.hid hYf
  clear hMf hYf
  have HS := Lib.hid hS
  have HE := Lib.hid hle
  have HL := Lib.hid hL
  have HX := Lib.hid hX
  clear hS hle hL hX
  have C : BkTo w g x k m y w := Chg.refl hb
  clear hb
  have f18 : w.cell? ⟨g, 18, none⟩ = some (.int .i64 (x 18)) := C.box.cell rfl
  go_enter Try.func84, Try.ntmps84
  go_upto_region 0 with fail
  go_still_tail 9, (by kernel_rfl)
  change wpList _ _ _ _ _ w.drew
  replace C := C.drew
  generalize w.drew = w1 at C ⊢
  clear f18
  go_upto_if 21 with fail
  go_cut [1, 2, 6, 7] (fun u1 u2 u6 u7 wx => u1 = .int .i64 p ∧ u2 = .int .i64 (q : Int) ∧ u6 = .pointer (some ⟨g, 20, none⟩) ∧ u7 = .int .i64 (x 18) ∧ BkTo w g x k m y wx)
  case first =>
    by_cases h : 3 * x 18 < (n : Int)
    case pos =>
      have d0 : decide (3 * x 18 < (n : Int)) = true := decide_eq_true h
      have hq := HQ.out
      rw [if_pos h] at hq
      have hq := Lib.hid hq
      go_wp2
      go_meet
      exact ⟨rfl, by rw [hq.out], rfl, rfl, C⟩
    case neg =>
      have d0 : decide (3 * x 18 < (n : Int)) = false := decide_eq_false h
      have hq := HQ.out
      rw [if_neg h] at hq
      have hq := Lib.hid hq
      go_wp2
      go_meet
      exact ⟨rfl, by rw [hq.out], rfl, rfl, C⟩
  case rest =>
  clear C
  obtain ⟨rfl, rfl, rfl, rfl, C⟩ := hcut
  rename World => w2
  clear HQ R0 R1 hn
  go_wp2
  go_loopw [1] (fun i wr => ∃ j : Nat, j ≤ q ∧ i = .int .i64 (p + (j : Int)) ∧ Hid (BkTo w g x k (wkM m (Wk.run x k j ⟨p, m.week, m.last, m.labour, y 3, y 4, y 9⟩)) (wkY y (Wk.run x k j ⟨p, m.week, m.last, m.labour, y 3, y 4, y 9⟩)) wr)) (fun i _ => (p + (q : Int) - intOf i).toNat)
  case atStart => exact ⟨0, Nat.zero_le _, by simp, Lib.hid (by rw [show wkM m (Wk.run x k 0 ⟨p, m.week, m.last, m.labour, y 3, y 4, y 9⟩) = m from rfl, show wkY y (Wk.run x k 0 ⟨p, m.week, m.last, m.labour, y 3, y 4, y 9⟩) = y from wkY_self p m y]; exact C)⟩
  case round =>
    obtain ⟨j, hj, rfl, HC⟩ := hrel
    clear C
    obtain ⟨w3, rfl⟩ : ∃ w3 : World, w3 = wr := ⟨_, rfl⟩
    obtain ⟨c, hc⟩ : ∃ c : Int, p + (j : Int) = c := ⟨_, rfl⟩
    have c0 : 0 < c := by omega
    have c1 : c ≤ 300000 := by omega
    have hj' : c ≤ p + (q : Int) := by omega
    by_cases hlt : c < p + (q : Int)
    case neg =>
      have dl : decide (c < p + (q : Int)) = false := decide_eq_false hlt
      obtain rfl : j = q := by omega
      rw [hc]
      clear hlt
      go_wp2
      refine bodyPost_end (results_none Try.results84 _ _ _) rfl ⟨rfl, ?_⟩
      rw [← HM.out, ← HY.out]
      exact HC.out
    have dl : decide (c < p + (q : Int)) = true := decide_eq_true hlt
    have r0 := Int.emod_nonneg c (show x 18 ≠ 0 by omega)
    have r1 := Int.emod_lt_of_pos c (show 0 < x 18 by omega)
    obtain ⟨e, he⟩ : ∃ e : Int, min (p + (q : Int)) (c - c % x 18 + x 18) = e := ⟨_, rfl⟩
    have e0 : c < e := by rw [← he]; omega
    have e1 : e ≤ p + (q : Int) := by rw [← he]; omega
    have e2 : e ≤ c - c % x 18 + x 18 := by rw [← he]; omega
    have hok := Wk.ok_run HL.out j HS.out
    have hle := Wk.le_run (x := x) (k := k) p0 HE.out j
    have hpos := Wk.pos_run x k ⟨p, m.week, m.last, m.labour, y 3, y 4, y 9⟩ j
    replace hpos : (Wk.run x k j ⟨p, m.week, m.last, m.labour, y 3, y 4, y 9⟩).pos = c := by rw [hpos]; exact hc
    have hpart := Wk.run_part HL.out hok e (by rw [hpos]; exact e0) (by rw [hpos]; exact e2)
    rw [hpos, ← Wk.run_add] at hpart
    obtain ⟨d, hd⟩ : ∃ d : Nat, (e - c).toNat = d := ⟨_, rfl⟩
    rw [hd] at hpart
    obtain ⟨S, hSS⟩ : ∃ S, Wk.run x k j ⟨p, m.week, m.last, m.labour, y 3, y 4, y 9⟩ = S := ⟨_, rfl⟩
    rw [hSS] at hok hle hpos hpart HC
    clear hSS
    obtain ⟨z0, wk, la, lb, f3, f4, f9⟩ := S
    dsimp only at hpos
    subst hpos
    have hb1 := Wk.ok_cut (x 18) HL.out hok
    have HP := Lib.hid hpart
    have HD := Lib.hid hd
    unfold Wk.Ok at hok
    unfold Wk.Le at hle
    dsimp only at hok hle
    obtain ⟨-, k1, k2, k3, -⟩ := hok
    obtain ⟨k4, k5, k6⟩ := hle
    clear hpart hd hb1
    rw [hc]
    have HCC := Lib.hid hc
    clear hc hlt
    have HE2 := Lib.hid he
    obtain ⟨a0, a1, a2, a3, a4, a5, a6, a7, a8, a9, a10, a11, a12, a13⟩ := m
    have hC0 := HC.out
    obtain ⟨w4, hw4⟩ : ∃ w4 : World, w4 = w3 := ⟨_, rfl⟩
    have C : BkTo w g x k ⟨a0, a1, a2, a3, a4, a5, a6, a7, a8, a9, a10, wk, la, lb⟩ (wkY y ⟨z0, wk, la, lb, f3, f4, f9⟩) w3 := hC0
    clear hC0 hw4
    by_cases hz : z0 % x 18 = 0
    case pos =>
      have HP2 : Hid (Wk.run x k (j + d) ⟨p, a11, a12, a13, y 3, y 4, y 9⟩ = Wk.seg x k ⟨z0, 0, wk, 0, f3, f4, f9⟩ e) := Lib.hid (by have h := HP.out; unfold Wk.cut at h; rw [if_pos (by exact hz)] at h; exact h)
      have dz : (z0 % x 18 == 0) = true := by simpa using hz
      have f31 : w3.cell? ⟨g, 31, none⟩ = some (.int .i64 (wk)) := C.box.cell rfl
      go_upto_region 7 with (first
        | (refine wpList_store_fld (by rfl) 3 _ _ rfl g 32 (.int .i64 (wk)) rfl rfl rfl _ _ C.box (by rw [blk_size]; decide) (by kernel_rfl) (fun w4 u => ?_); replace C : BkTo w g x k ⟨a0, a1, a2, a3, a4, a5, a6, a7, a8, a9, a10, wk, wk, lb⟩ (wkY y ⟨z0, wk, la, lb, f3, f4, f9⟩) w4 := C.upd u; clear u)
        | (refine wpList_store_fld (by rfl) 3 _ _ rfl g 31 (.int .i64 (0)) rfl rfl rfl _ _ C.box (by rw [blk_size]; decide) (by kernel_rfl) (fun w5 u => ?_); replace C : BkTo w g x k ⟨a0, a1, a2, a3, a4, a5, a6, a7, a8, a9, a10, 0, wk, lb⟩ (wkY y ⟨z0, wk, la, lb, f3, f4, f9⟩) w5 := C.upd u; clear u)
        | (refine wpList_store_fld (by rfl) 3 _ _ rfl g 33 (.int .i64 (0)) rfl rfl rfl _ _ C.box (by rw [blk_size]; decide) (by kernel_rfl) (fun w6 u => ?_); replace C : BkTo w g x k ⟨a0, a1, a2, a3, a4, a5, a6, a7, a8, a9, a10, 0, wk, 0⟩ (wkY y ⟨z0, wk, la, lb, f3, f4, f9⟩) w6 := C.upd u; clear u))
      (try go_frame)
      go_cut [1, 6, 7, 8, 9] (fun u1 u6 u7 u8 u9 wx => u1 = .int .i64 z0 ∧ u6 = .pointer (some ⟨g, 20, none⟩) ∧ u7 = .int .i64 (x 18) ∧ u8 = .int .i64 (p + (q : Int)) ∧ u9 = .int .i64 e ∧ BkTo w g x k ⟨a0, a1, a2, a3, a4, a5, a6, a7, a8, a9, a10, 0, wk, 0⟩ (wkY y ⟨z0, wk, la, lb, f3, f4, f9⟩) wx)
      case first =>
        by_cases hmn : p + (q : Int) ≤ z0 - z0 % x 18 + x 18
        case pos =>
          go_wp2
          all_goals (first | (exfalso; omega) | (go_meet; exact ⟨rfl, rfl, rfl, rfl, by rw [← HE2.out]; (try (congr 1; omega)), C⟩))
        case neg =>
          go_wp2
          all_goals (first | (exfalso; omega) | (go_meet; exact ⟨rfl, rfl, rfl, rfl, by rw [← HE2.out]; (try (congr 1; omega)), C⟩))
      case rest =>
      clear C
      obtain ⟨rfl, rfl, rfl, rfl, rfl, C⟩ := hcut
      rename World => w8
      have WK := fun W h => week_any g x k ⟨a0, a1, a2, a3, a4, a5, a6, a7, a8, a9, a10, 0, wk, 0⟩ (wkY y ⟨z0, wk, la, lb, f3, f4, f9⟩) z0 e W h (by omega) (by dsimp only; omega) HX.out
      go_wp2_with (go_at_call 101; (with_reducible refine (WK _ C.box).mono ?_); rintro e' w9 ⟨rfl, c⟩)
      go_roundw
      case rel =>
        refine ⟨j + d, ?_, ?_, Lib.hid ?_⟩
        · have h1 := HD.out; have h2 := HCC.out; omega
        · have h1 := HD.out; have h2 := HCC.out; congr 1; omega
        · rw [HP2.out]
          have h := C.trans c
          rw [wkY_wkY] at h
          exact h
      case measure => simp [intOf]; omega
    case neg =>
      have HP2 : Hid (Wk.run x k (j + d) ⟨p, a11, a12, a13, y 3, y 4, y 9⟩ = Wk.seg x k ⟨z0, wk, la, lb, f3, f4, f9⟩ e) := Lib.hid (by have h := HP.out; unfold Wk.cut at h; rw [if_neg (by exact hz)] at h; exact h)
      have dz : (z0 % x 18 == 0) = false := by simpa using hz
      go_upto_region 7 with fail
      (try go_frame)
      go_cut [1, 6, 7, 8, 9] (fun u1 u6 u7 u8 u9 wx => u1 = .int .i64 z0 ∧ u6 = .pointer (some ⟨g, 20, none⟩) ∧ u7 = .int .i64 (x 18) ∧ u8 = .int .i64 (p + (q : Int)) ∧ u9 = .int .i64 e ∧ BkTo w g x k ⟨a0, a1, a2, a3, a4, a5, a6, a7, a8, a9, a10, wk, la, lb⟩ (wkY y ⟨z0, wk, la, lb, f3, f4, f9⟩) wx)
      case first =>
        by_cases hmn : p + (q : Int) ≤ z0 - z0 % x 18 + x 18
        case pos =>
          go_wp2
          all_goals (first | (exfalso; omega) | (go_meet; exact ⟨rfl, rfl, rfl, rfl, by rw [← HE2.out]; (try (congr 1; omega)), C⟩))
        case neg =>
          go_wp2
          all_goals (first | (exfalso; omega) | (go_meet; exact ⟨rfl, rfl, rfl, rfl, by rw [← HE2.out]; (try (congr 1; omega)), C⟩))
      case rest =>
      clear C
      obtain ⟨rfl, rfl, rfl, rfl, rfl, C⟩ := hcut
      rename World => w8
      have WK := fun W h => week_any g x k ⟨a0, a1, a2, a3, a4, a5, a6, a7, a8, a9, a10, wk, la, lb⟩ (wkY y ⟨z0, wk, la, lb, f3, f4, f9⟩) z0 e W h (by omega) (by dsimp only; omega) HX.out
      go_wp2_with (go_at_call 101; (with_reducible refine (WK _ C.box).mono ?_); rintro e' w9 ⟨rfl, c⟩)
      go_roundw
      case rel =>
        refine ⟨j + d, ?_, ?_, Lib.hid ?_⟩
        · have h1 := HD.out; have h2 := HCC.out; omega
        · have h1 := HD.out; have h2 := HCC.out; congr 1; omega
        · rw [HP2.out]
          have h := C.trans c
          rw [wkY_wkY] at h
          exact h
      case measure => simp [intOf]; omega

end Go.Proofs.Ytlbafgdbemhanaa
