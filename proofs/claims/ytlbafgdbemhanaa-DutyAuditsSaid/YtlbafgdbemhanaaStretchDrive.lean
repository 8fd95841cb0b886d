/- What drive of layer 14 leaves. Conditions: as the theorem says. -/
import Derived.Test.YtlbafgdbemhanaaRows
import Derived.Test.YtlbafgdbemhanaaBase
import Derived.Test.YtlbafgdbemhanaaZ2
import Derived.Test.YtlbafgdbemhanaaZ3
import Derived.Test.YtlbafgdbemhanaaMeterChk
import Derived.Test.YtlbafgdbemhanaaZ4
import Derived.Test.YtlbafgdbemhanaaStretchBreaks
import Derived.WalkKit
import Derived.WalkSpells
import Derived.WalkSmall
import Derived.Below
import Derived.Lib.Hide
import Derived.Shelf.Abstract
import Derived.BigQuiet
import Derived.OwnWalk
import Derived.Outline
import Derived.Deep.DeepCutAuto
import Derived.StillTailTactics
import Derived.Maps.RangeWalk
import Derived.OrdersHeld
namespace Go.Proofs.Ytlbafgdbemhanaa
open Go.RowKit

/-- Driving from p on, below e. -/
def drM (x : Nat → Int) (p e : Int) (m : Mt) : Mt := { m with acc := m.acc + (e - p), day := m.day + (e - p), longers := if p ≤ p + x 4 - m.day ∧ p + x 4 - m.day < e then m.longers + 1 else m.longers }
def drY (x : Nat → Int) (p e : Int) (m : Mt) (y : Nat → Int) : Nat → Int :=
  if (p ≤ p + x 4 - m.day ∧ p + x 4 - m.day < e) ∧ x 6 < m.longers + 1 then brk (brk (brk y 0 (p + x 0 - m.acc) e) 1 (p + x 5 - m.day) e) 2 (p + x 4 - m.day) e else brk (brk y 0 (p + x 0 - m.acc) e) 1 (p + x 5 - m.day) e

set_option maxRecDepth 100000 in
set_option maxHeartbeats 4000000 in
theorem drive14_any (g : Nat) (x : Nat → Int) (k : Int) (m : Mt) (y : Nat → Int) (p e : Int) (w : World) (hb : Bk w g x k m y) (hp : 0 ≤ p ∧ p ≤ e ∧ e ≤ 300000) (hm : (0 ≤ m.acc ∧ m.acc ≤ 300000) ∧ (0 ≤ m.day ∧ m.day ≤ 300000) ∧ (0 ≤ m.longers ∧ m.longers ≤ 300000))
    (hx : (0 ≤ x 0 ∧ x 0 ≤ 40320) ∧ (0 ≤ x 4 ∧ x 4 ≤ 40320) ∧ (0 ≤ x 5 ∧ x 5 ≤ 40320)) :
    Calls Try.prog 86 #[.pointer (some ⟨g, 0, none⟩), .int .i64 p, .int .i64 e] w fun e' w' => e' = .returned (.tuple #[]) ∧ BkTo w g x k (drM x p e m) (drY x p e m y) w' := by
  obtain ⟨i1, i2, i3⟩ := hp
  obtain ⟨⟨j0, j1⟩, ⟨j2, j3⟩, ⟨j4, j5⟩⟩ := hx
  have C : BkTo w g x k m y w := Chg.refl hb
  clear hb
  unfold drM drY
  obtain ⟨a0, a1, a2, a3, a4, a5, a6, a7, a8, a9, a10, a11, a12, a13⟩ := m
  dsimp only at hm ⊢
  obtain ⟨⟨r1, s1⟩, ⟨r5, s5⟩, ⟨r6, s6⟩⟩ := hm
  obtain ⟨lg, hlg⟩ : ∃ lg, (if p ≤ p + x 4 - a5 ∧ p + x 4 - a5 < e then a6 + 1 else a6) = lg := ⟨_, rfl⟩
  obtain ⟨Yf, hYf⟩ : ∃ Yf, (if (p ≤ p + x 4 - a5 ∧ p + x 4 - a5 < e) ∧ x 6 < a6 + 1 then brk (brk (brk y 0 (p + x 0 - a1) e) 1 (p + x 5 - a5) e) 2 (p + x 4 - a5) e else brk (brk y 0 (p + x 0 - a1) e) 1 (p + x 5 - a5) e) = Yf := ⟨_, rfl⟩
  rw [hlg, hYf]
  have HL := Lib.hid hlg
  have HY := Lib.hid hYf
  clear hlg hYf
  have z0 := wrap14 (p + x 0) (by omega) (by omega)
  have z1 := wrap14 (p + x 0 - a1) (by omega) (by omega)
  have z2 := wrap14 (p + x 5) (by omega) (by omega)
  have z3 := wrap14 (p + x 5 - a5) (by omega) (by omega)
  have z4 := wrap14 (p + x 4) (by omega) (by omega)
  have z5 := wrap14 (p + x 4 - a5) (by omega) (by omega)
  have f0 : w.cell? ⟨g, 0, none⟩ = some (.int .i64 (x 0)) := C.box.cell rfl
  have f21 : w.cell? ⟨g, 21, none⟩ = some (.int .i64 (a1)) := C.box.cell rfl
  go_enter Try.func86, Try.ntmps86
  go_upto_region 1 with fail
  (try go_frame)
  go_still_tail 14, (by kernel_rfl)
  change wpList _ _ _ _ _ w.drew
  go_upto_region 2 with (first
    | (go_at_call 85; (with_reducible refine (breaks14_any g x k ⟨a0, a1, a2, a3, a4, a5, a6, a7, a8, a9, a10, a11, a12, a13⟩ (y) 0 0 (p + x 0 - a1) (e) _ C.drew.box (by omega) rfl).mono ?_); rintro e w1 ⟨rfl, c⟩; replace C : BkTo w g x k ⟨a0, a1, a2, a3, a4, a5, a6, a7, a8, a9, a10, a11, a12, a13⟩ (brk (y) 0 (p + x 0 - a1) (e)) w1 := C.drew.trans c; clear c; have f5 : w1.cell? ⟨g, 5, none⟩ = some (.int .i64 (x 5)) := C.box.cell rfl; have f25 : w1.cell? ⟨g, 25, none⟩ = some (.int .i64 (a5)) := C.box.cell rfl))
  (try go_frame)
  go_still_tail 14, (by kernel_rfl)
  change wpList _ _ _ _ _ w1.drew
  go_upto_region 3 with (first
    | (go_at_call 85; (with_reducible refine (breaks14_any g x k ⟨a0, a1, a2, a3, a4, a5, a6, a7, a8, a9, a10, a11, a12, a13⟩ (brk (y) 0 (p + x 0 - a1) (e)) 1 1 (p + x 5 - a5) (e) _ C.drew.box (by omega) rfl).mono ?_); rintro e w2 ⟨rfl, c⟩; replace C : BkTo w g x k ⟨a0, a1, a2, a3, a4, a5, a6, a7, a8, a9, a10, a11, a12, a13⟩ (brk (brk (y) 0 (p + x 0 - a1) (e)) 1 (p + x 5 - a5) (e)) w2 := C.drew.trans c; clear c; have f4 : w2.cell? ⟨g, 4, none⟩ = some (.int .i64 (x 4)) := C.box.cell rfl; have f25 : w2.cell? ⟨g, 25, none⟩ = some (.int .i64 (a5)) := C.box.cell rfl))
  (try go_frame)
  go_still_tail 12, (by kernel_rfl)
  change wpList _ _ _ _ _ w2.drew
  replace C := C.drew
  generalize w2.drew = w3 at C ⊢
  obtain ⟨at_, hat⟩ : ∃ at_, p + x 4 - a5 = at_ := ⟨_, rfl⟩
  rw [hat] at z5 ⊢
  have hl1 := HL.out
  have hy1 := HY.out
  rw [hat] at hl1 hy1
  replace HL := Lib.hid hl1
  replace HY := Lib.hid hy1
  clear hl1 hy1
  have u0 : -1000000 ≤ at_ := by omega
  have u1 : at_ ≤ 1000000 := by omega
  clear hat
  by_cases hin : p ≤ at_ ∧ at_ < e
  case neg =>
    have HI := Lib.hid hin
    have d0 : (decide (p ≤ at_) && decide (at_ < e)) = false := by rw [Bool.and_eq_false_iff, decide_eq_false_iff_not, decide_eq_false_iff_not]; omega
    by_cases h1 : p ≤ at_
    case pos =>
      have d1 : decide (p ≤ at_) = true := decide_eq_true h1
      have d2 : decide (at_ < e) = false := decide_eq_false (by omega)
      have d3 : ¬ at_ < e := by omega
      clear hin d0
      have f21 : w3.cell? ⟨g, 21, none⟩ = some (.int .i64 (a1)) := C.box.cell rfl
      go_wp2_with (first
        | (refine wpList_store_fld (by rfl) 3 _ _ rfl g 21 (.int .i64 (a1 + (e - p))) rfl rfl rfl _ _ C.box (by rw [blk_size]; decide) (by kernel_rfl) (fun w4 u => ?_); replace C : BkTo w g x k ⟨a0, a1 + (e - p), a2, a3, a4, a5, a6, a7, a8, a9, a10, a11, a12, a13⟩ (brk (brk (y) 0 (p + x 0 - a1) (e)) 1 (p + x 5 - a5) (e)) w4 := C.upd u; clear u; have f25 : w4.cell? ⟨g, 25, none⟩ = some (.int .i64 (a5)) := C.box.cell rfl)
        | (refine wpList_store_fld (by rfl) 3 _ _ rfl g 25 (.int .i64 (a5 + (e - p))) rfl rfl rfl _ _ C.box (by rw [blk_size]; decide) (by kernel_rfl) (fun w5 u => ?_); replace C : BkTo w g x k ⟨a0, a1 + (e - p), a2, a3, a4, a5 + (e - p), a6, a7, a8, a9, a10, a11, a12, a13⟩ (brk (brk (y) 0 (p + x 0 - a1) (e)) 1 (p + x 5 - a5) (e)) w5 := C.upd u; clear u))
      refine bodyPost_end (results_none Try.results86 _ _ _) rfl ⟨rfl, ?_⟩
      rw [← HL.out, ← HY.out, if_neg HI.out, if_neg (fun h => HI.out h.1)]
      exact C
    have d1 : decide (p ≤ at_) = false := decide_eq_false h1
    clear hin d0
    have f21 : w3.cell? ⟨g, 21, none⟩ = some (.int .i64 (a1)) := C.box.cell rfl
    go_wp2_with (first
      | (refine wpList_store_fld (by rfl) 3 _ _ rfl g 21 (.int .i64 (a1 + (e - p))) rfl rfl rfl _ _ C.box (by rw [blk_size]; decide) (by kernel_rfl) (fun w4 u => ?_); replace C : BkTo w g x k ⟨a0, a1 + (e - p), a2, a3, a4, a5, a6, a7, a8, a9, a10, a11, a12, a13⟩ (brk (brk (y) 0 (p + x 0 - a1) (e)) 1 (p + x 5 - a5) (e)) w4 := C.upd u; clear u; have f25 : w4.cell? ⟨g, 25, none⟩ = some (.int .i64 (a5)) := C.box.cell rfl)
      | (refine wpList_store_fld (by rfl) 3 _ _ rfl g 25 (.int .i64 (a5 + (e - p))) rfl rfl rfl _ _ C.box (by rw [blk_size]; decide) (by kernel_rfl) (fun w5 u => ?_); replace C : BkTo w g x k ⟨a0, a1 + (e - p), a2, a3, a4, a5 + (e - p), a6, a7, a8, a9, a10, a11, a12, a13⟩ (brk (brk (y) 0 (p + x 0 - a1) (e)) 1 (p + x 5 - a5) (e)) w5 := C.upd u; clear u))
    refine bodyPost_end (results_none Try.results86 _ _ _) rfl ⟨rfl, ?_⟩
    rw [← HL.out, ← HY.out, if_neg HI.out, if_neg (fun h => HI.out h.1)]
    exact C
  have d1 : decide (p ≤ at_) = true := decide_eq_true hin.1
  have d2 : decide (at_ < e) = true := decide_eq_true hin.2
  have v1 := hin.1
  have v2 := hin.2
  have HI := Lib.hid hin
  by_cases h6 : x 6 < a6 + 1
  case pos =>
    have d3 : decide (x 6 < a6 + 1) = true := decide_eq_true h6
    have H6 := Lib.hid h6
    clear hin h6
    have f26 : w3.cell? ⟨g, 26, none⟩ = some (.int .i64 (a6)) := C.box.cell rfl
    go_upto_region 6 with (first
      | (refine wpList_store_fld (by rfl) 3 _ _ rfl g 26 (.int .i64 (a6 + 1)) rfl rfl rfl _ _ C.box (by rw [blk_size]; decide) (by kernel_rfl) (fun w4 u => ?_); replace C : BkTo w g x k ⟨a0, a1, a2, a3, a4, a5, a6 + 1, a7, a8, a9, a10, a11, a12, a13⟩ (brk (brk (y) 0 (p + x 0 - a1) (e)) 1 (p + x 5 - a5) (e)) w4 := C.upd u; clear u; have f26 : w4.cell? ⟨g, 26, none⟩ = some (.int .i64 (a6 + 1)) := C.box.cell rfl; have f6 : w4.cell? ⟨g, 6, none⟩ = some (.int .i64 (x 6)) := C.box.cell rfl))
    (try go_frame)
    go_still_tail 9, (by kernel_rfl)
    change wpList _ _ _ _ _ w4.drew
    replace C := C.drew
    generalize w4.drew = w5 at C ⊢
    go_wp2_with (first
      | (go_at_call 85; (with_reducible refine (breaks14_any g x k ⟨a0, a1, a2, a3, a4, a5, a6 + 1, a7, a8, a9, a10, a11, a12, a13⟩ (brk (brk (y) 0 (p + x 0 - a1) (e)) 1 (p + x 5 - a5) (e)) 2 2 (at_) (e) _ C.box (by omega) rfl).mono ?_); rintro e w6 ⟨rfl, c⟩; replace C : BkTo w g x k ⟨a0, a1, a2, a3, a4, a5, a6 + 1, a7, a8, a9, a10, a11, a12, a13⟩ (brk (brk (brk (y) 0 (p + x 0 - a1) (e)) 1 (p + x 5 - a5) (e)) 2 (at_) (e)) w6 := C.trans c; clear c; have f21 : w6.cell? ⟨g, 21, none⟩ = some (.int .i64 (a1)) := C.box.cell rfl)
      | (refine wpList_store_fld (by rfl) 3 _ _ rfl g 21 (.int .i64 (a1 + (e - p))) rfl rfl rfl _ _ C.box (by rw [blk_size]; decide) (by kernel_rfl) (fun w7 u => ?_); replace C : BkTo w g x k ⟨a0, a1 + (e - p), a2, a3, a4, a5, a6 + 1, a7, a8, a9, a10, a11, a12, a13⟩ (brk (brk (brk (y) 0 (p + x 0 - a1) (e)) 1 (p + x 5 - a5) (e)) 2 (at_) (e)) w7 := C.upd u; clear u; have f25 : w7.cell? ⟨g, 25, none⟩ = some (.int .i64 (a5)) := C.box.cell rfl)
      | (refine wpList_store_fld (by rfl) 3 _ _ rfl g 25 (.int .i64 (a5 + (e - p))) rfl rfl rfl _ _ C.box (by rw [blk_size]; decide) (by kernel_rfl) (fun w8 u => ?_); replace C : BkTo w g x k ⟨a0, a1 + (e - p), a2, a3, a4, a5 + (e - p), a6 + 1, a7, a8, a9, a10, a11, a12, a13⟩ (brk (brk (brk (y) 0 (p + x 0 - a1) (e)) 1 (p + x 5 - a5) (e)) 2 (at_) (e)) w8 := C.upd u; clear u))
    refine bodyPost_end (results_none Try.results86 _ _ _) rfl ⟨rfl, ?_⟩
    rw [← HL.out, ← HY.out, if_pos HI.out, if_pos ⟨HI.out, H6.out⟩]
    exact C
  have d3 : decide (x 6 < a6 + 1) = false := decide_eq_false h6
  have H6 := Lib.hid h6
  clear hin h6
  have f26 : w3.cell? ⟨g, 26, none⟩ = some (.int .i64 (a6)) := C.box.cell rfl
  go_upto_region 6 with (first
    | (refine wpList_store_fld (by rfl) 3 _ _ rfl g 26 (.int .i64 (a6 + 1)) rfl rfl rfl _ _ C.box (by rw [blk_size]; decide) (by kernel_rfl) (fun w4 u => ?_); replace C : BkTo w g x k ⟨a0, a1, a2, a3, a4, a5, a6 + 1, a7, a8, a9, a10, a11, a12, a13⟩ (brk (brk (y) 0 (p + x 0 - a1) (e)) 1 (p + x 5 - a5) (e)) w4 := C.upd u; clear u; have f26 : w4.cell? ⟨g, 26, none⟩ = some (.int .i64 (a6 + 1)) := C.box.cell rfl; have f6 : w4.cell? ⟨g, 6, none⟩ = some (.int .i64 (x 6)) := C.box.cell rfl))
  (try go_frame)
  go_still_tail 9, (by kernel_rfl)
  change wpList _ _ _ _ _ w4.drew
  replace C := C.drew
  generalize w4.drew = w5 at C ⊢
  have f21 : w5.cell? ⟨g, 21, none⟩ = some (.int .i64 (a1)) := C.box.cell rfl
  go_wp2_with (first
    | (refine wpList_store_fld (by rfl) 3 _ _ rfl g 21 (.int .i64 (a1 + (e - p))) rfl rfl rfl _ _ C.box (by rw [blk_size]; decide) (by kernel_rfl) (fun w6 u => ?_); replace C : BkTo w g x k ⟨a0, a1 + (e - p), a2, a3, a4, a5, a6 + 1, a7, a8, a9, a10, a11, a12, a13⟩ (brk (brk (y) 0 (p + x 0 - a1) (e)) 1 (p + x 5 - a5) (e)) w6 := C.upd u; clear u; have f25 : w6.cell? ⟨g, 25, none⟩ = some (.int .i64 (a5)) := C.box.cell rfl)
    | (refine wpList_store_fld (by rfl) 3 _ _ rfl g 25 (.int .i64 (a5 + (e - p))) rfl rfl rfl _ _ C.box (by rw [blk_size]; decide) (by kernel_rfl) (fun w7 u => ?_); replace C : BkTo w g x k ⟨a0, a1 + (e - p), a2, a3, a4, a5 + (e - p), a6 + 1, a7, a8, a9, a10, a11, a12, a13⟩ (brk (brk (y) 0 (p + x 0 - a1) (e)) 1 (p + x 5 - a5) (e)) w7 := C.upd u; clear u))
  refine bodyPost_end (results_none Try.results86 _ _ _) rfl ⟨rfl, ?_⟩
  rw [← HL.out, ← HY.out, if_pos HI.out, if_neg (fun h => by have := H6.out; have := h.2; omega)]
  exact C

end Go.Proofs.Ytlbafgdbemhanaa
