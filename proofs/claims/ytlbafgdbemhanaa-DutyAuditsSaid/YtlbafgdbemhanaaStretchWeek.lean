/- What week of layer 14 leaves. Conditions: as the theorem says. -/
import Derived.Test.YtlbafgdbemhanaaRows
import Derived.Test.YtlbafgdbemhanaaBase
import Derived.Test.YtlbafgdbemhanaaZ2
import Derived.Test.YtlbafgdbemhanaaZ3
import Derived.Test.YtlbafgdbemhanaaMeterChk
import Derived.Test.YtlbafgdbemhanaaZ4
import Derived.Test.YtlbafgdbemhanaaStretchBreaks
import Derived.WalkKit
import Derived.WalkSpells
import Derived.WalkSmall
import Derived.Below
import Derived.Lib.Hide
import Derived.Shelf.Abstract
import Derived.BigQuiet
import Derived.OwnWalk
import Derived.Outline
import Derived.Deep.DeepCutAuto
import Derived.StillTailTactics
import Derived.Maps.RangeWalk
import Derived.OrdersHeld
namespace Go.Proofs.Ytlbafgdbemhanaa
open Go.RowKit

theorem wkY_of {y z : Nat → Int} {s : Wk} (h3 : z 3 = s.f3) (h4 : z 4 = s.f4) (h9 : z 9 = s.f9) (h : ∀ c, c ≠ 3 → c ≠ 4 → c ≠ 9 → z c = y c) : z = wkY y s := by
  funext c
  unfold wkY
  split
  · rename_i e; rw [e]; exact h3
  split
  · rename_i e; rw [e]; exact h4
  split
  · rename_i e; rw [e]; exact h9
  rename_i n3 n4 n9
  exact h c n3 n4 n9
theorem seg_three (x : Nat → Int) (m : Mt) (y : Nat → Int) (p e : Int) : wkM m (Wk.seg x 3 ⟨p, m.week, m.last, m.labour, y 3, y 4, y 9⟩ e) = { m with week := m.week + (e - p), labour := m.labour + (e - p) } ∧
    wkY y (Wk.seg x 3 ⟨p, m.week, m.last, m.labour, y 3, y 4, y 9⟩ e) = brk (brk (brk y 3 (p + x 15 - m.week) e) 4 (p + x 16 - m.last - m.week) e) 9 (p + x 17 - m.labour) e := by
  refine ⟨rfl, ?_⟩
  symm
  refine wkY_of ?_ ?_ ?_ ?_
  · rw [brk_other _ _ _ (by decide), brk_other _ _ _ (by decide), brk_same]
    simp [Wk.seg]
  · rw [brk_other _ _ _ (by decide), brk_same, brk_other _ _ _ (by decide)]
    simp [Wk.seg]
  · rw [brk_same, brk_other _ _ _ (by decide), brk_other _ _ _ (by decide)]
    simp [Wk.seg]
  · intro c h3 h4 h9
    rw [brk_other _ _ _ h9, brk_other _ _ _ h4, brk_other _ _ _ h3]
theorem seg_two (x : Nat → Int) (m : Mt) (y : Nat → Int) (p e : Int) : wkM m (Wk.seg x 2 ⟨p, m.week, m.last, m.labour, y 3, y 4, y 9⟩ e) = { m with labour := m.labour + (e - p) } ∧ wkY y (Wk.seg x 2 ⟨p, m.week, m.last, m.labour, y 3, y 4, y 9⟩ e) = brk y 9 (p + x 17 - m.labour) e := by
  refine ⟨rfl, ?_⟩
  symm
  refine wkY_of ?_ ?_ ?_ ?_
  · rw [brk_other _ _ _ (by decide)]
    simp [Wk.seg]
  · rw [brk_other _ _ _ (by decide)]
    simp [Wk.seg]
  · rw [brk_same]
    simp [Wk.seg]
  · intro c h3 h4 h9
    rw [brk_other _ _ _ h9]
theorem seg_none (x : Nat → Int) (k : Int) (m : Mt) (y : Nat → Int) (p e : Int) (h3 : ¬ k = 3) (h2 : ¬ k = 2) : wkM m (Wk.seg x k ⟨p, m.week, m.last, m.labour, y 3, y 4, y 9⟩ e) = m ∧ wkY y (Wk.seg x k ⟨p, m.week, m.last, m.labour, y 3, y 4, y 9⟩ e) = y := by
  refine ⟨by unfold wkM Wk.seg; simp [h3, h2], ?_⟩
  symm
  refine wkY_of ?_ ?_ ?_ ?_ <;> simp [Wk.seg, h3, h2]

set_option maxRecDepth 100000 in
set_option maxHeartbeats 4000000 in
theorem week_any (g : Nat) (x : Nat → Int) (k : Int) (m : Mt) (y : Nat → Int) (p e : Int) (w : World) (hb : Bk w g x k m y) (hp : 0 ≤ p ∧ p ≤ e ∧ e ≤ 300000) (hm : (0 ≤ m.week ∧ m.week ≤ 300000) ∧ (0 ≤ m.last ∧ m.last ≤ 300000) ∧ (0 ≤ m.labour ∧ m.labour ≤ 300000))
    (hx : (0 ≤ x 15 ∧ x 15 ≤ 40320) ∧ (0 ≤ x 16 ∧ x 16 ≤ 40320) ∧ (0 ≤ x 17 ∧ x 17 ≤ 40320)) :
    Calls Try.prog 101 #[.pointer (some ⟨g, 0, none⟩), .int .i64 p, .int .i64 e] w fun e' w' => e' = .returned (.tuple #[]) ∧ BkTo w g x k (wkM m (Wk.seg x k ⟨p, m.week, m.last, m.labour, y 3, y 4, y 9⟩ e)) (wkY y (Wk.seg x k ⟨p, m.week, m.last, m.labour, y 3, y 4, y 9⟩ e)) w' := by
  obtain ⟨i1, i2, i3⟩ := hp
  obtain ⟨⟨j0, j1⟩, ⟨j2, j3⟩, ⟨j4, j5⟩⟩ := hx
  have C : BkTo w g x k m y w := Chg.refl hb
  clear hb
  by_cases h3 : k = 3
  case pos =>
    subst h3
    obtain ⟨e1, e2⟩ := seg_three x m y p e
    rw [e1, e2]
    clear e1 e2
    obtain ⟨a0, a1, a2, a3, a4, a5, a6, a7, a8, a9, a10, a11, a12, a13⟩ := m
    dsimp only at hm ⊢
    obtain ⟨⟨r11, s11⟩, ⟨r12, s12⟩, ⟨r13, s13⟩⟩ := hm
    have z0 := wrap14 (p + x 15) (by omega) (by omega)
    have z1 := wrap14 (p + x 15 - a11) (by omega) (by omega)
    have z2 := wrap14 (p + x 16) (by omega) (by omega)
    have z3 := wrap14 (p + x 16 - a12) (by omega) (by omega)
    have z4 := wrap14 (p + x 16 - a12 - a11) (by omega) (by omega)
    have z5 := wrap14 (p + x 17) (by omega) (by omega)
    have z6 := wrap14 (p + x 17 - a13) (by omega) (by omega)
    have q3 : ((3 : Int) == 3) = true := rfl
    have f19 : w.cell? ⟨g, 19, none⟩ = some (.int .i64 (3)) := C.box.cell rfl
    have f15 : w.cell? ⟨g, 15, none⟩ = some (.int .i64 (x 15)) := C.box.cell rfl
    have f31 : w.cell? ⟨g, 31, none⟩ = some (.int .i64 (a11)) := C.box.cell rfl
    go_enter Try.func101, Try.ntmps101
    go_upto_region 2 with fail
    (try go_frame)
    go_still_tail 14, (by kernel_rfl)
    change wpList _ _ _ _ _ w.drew
    go_upto_region 3 with (first
      | (go_at_call 85; (with_reducible refine (breaks14_any g x (3) ⟨a0, a1, a2, a3, a4, a5, a6, a7, a8, a9, a10, a11, a12, a13⟩ (y) 3 3 (p + x 15 - a11) (e) _ C.drew.box (by omega) rfl).mono ?_); rintro e w1 ⟨rfl, c⟩; replace C : BkTo w g x (3) ⟨a0, a1, a2, a3, a4, a5, a6, a7, a8, a9, a10, a11, a12, a13⟩ (brk (y) 3 (p + x 15 - a11) (e)) w1 := C.drew.trans c; clear c; have f16 : w1.cell? ⟨g, 16, none⟩ = some (.int .i64 (x 16)) := C.box.cell rfl; have f32 : w1.cell? ⟨g, 32, none⟩ = some (.int .i64 (a12)) := C.box.cell rfl; have f31 : w1.cell? ⟨g, 31, none⟩ = some (.int .i64 (a11)) := C.box.cell rfl))
    (try go_frame)
    go_still_tail 19, (by kernel_rfl)
    change wpList _ _ _ _ _ w1.drew
    go_upto_region 6 with (first
      | (go_at_call 85; (with_reducible refine (breaks14_any g x (3) ⟨a0, a1, a2, a3, a4, a5, a6, a7, a8, a9, a10, a11, a12, a13⟩ (brk (y) 3 (p + x 15 - a11) (e)) 4 4 (p + x 16 - a12 - a11) (e) _ C.drew.box (by omega) rfl).mono ?_); rintro e w2 ⟨rfl, c⟩; replace C : BkTo w g x (3) ⟨a0, a1, a2, a3, a4, a5, a6, a7, a8, a9, a10, a11, a12, a13⟩ (brk (brk (y) 3 (p + x 15 - a11) (e)) 4 (p + x 16 - a12 - a11) (e)) w2 := C.drew.trans c; clear c; have f31 : w2.cell? ⟨g, 31, none⟩ = some (.int .i64 (a11)) := C.box.cell rfl)
      | (refine wpList_store_fld (by rfl) 3 _ _ rfl g 31 (.int .i64 (a11 + (e - p))) rfl rfl rfl _ _ C.box (by rw [blk_size]; decide) (by kernel_rfl) (fun w3 u => ?_); replace C : BkTo w g x (3) ⟨a0, a1, a2, a3, a4, a5, a6, a7, a8, a9, a10, a11 + (e - p), a12, a13⟩ (brk (brk (y) 3 (p + x 15 - a11) (e)) 4 (p + x 16 - a12 - a11) (e)) w3 := C.upd u; clear u; have f19 : w3.cell? ⟨g, 19, none⟩ = some (.int .i64 (3)) := C.box.cell rfl; have f17 : w3.cell? ⟨g, 17, none⟩ = some (.int .i64 (x 17)) := C.box.cell rfl; have f33 : w3.cell? ⟨g, 33, none⟩ = some (.int .i64 (a13)) := C.box.cell rfl))
    (try go_frame)
    go_still_tail 14, (by kernel_rfl)
    change wpList _ _ _ _ _ w3.drew
    go_wp2_with (first
      | (go_at_call 85; (with_reducible refine (breaks14_any g x (3) ⟨a0, a1, a2, a3, a4, a5, a6, a7, a8, a9, a10, a11 + (e - p), a12, a13⟩ (brk (brk (y) 3 (p + x 15 - a11) (e)) 4 (p + x 16 - a12 - a11) (e)) 9 9 (p + x 17 - a13) (e) _ C.drew.box (by omega) rfl).mono ?_); rintro e w4 ⟨rfl, c⟩; replace C : BkTo w g x (3) ⟨a0, a1, a2, a3, a4, a5, a6, a7, a8, a9, a10, a11 + (e - p), a12, a13⟩ (brk (brk (brk (y) 3 (p + x 15 - a11) (e)) 4 (p + x 16 - a12 - a11) (e)) 9 (p + x 17 - a13) (e)) w4 := C.drew.trans c; clear c; have f33 : w4.cell? ⟨g, 33, none⟩ = some (.int .i64 (a13)) := C.box.cell rfl)
      | (refine wpList_store_fld (by rfl) 3 _ _ rfl g 33 (.int .i64 (a13 + (e - p))) rfl rfl rfl _ _ C.box (by rw [blk_size]; decide) (by kernel_rfl) (fun w5 u => ?_); replace C : BkTo w g x (3) ⟨a0, a1, a2, a3, a4, a5, a6, a7, a8, a9, a10, a11 + (e - p), a12, a13 + (e - p)⟩ (brk (brk (brk (y) 3 (p + x 15 - a11) (e)) 4 (p + x 16 - a12 - a11) (e)) 9 (p + x 17 - a13) (e)) w5 := C.upd u; clear u))
    refine bodyPost_end (results_none Try.results101 _ _ _) rfl ⟨rfl, ?_⟩
    exact C
  by_cases h2 : k = 2
  case pos =>
    subst h2
    obtain ⟨e1, e2⟩ := seg_two x m y p e
    rw [e1, e2]
    clear e1 e2
    obtain ⟨a0, a1, a2, a3, a4, a5, a6, a7, a8, a9, a10, a11, a12, a13⟩ := m
    dsimp only at hm ⊢
    obtain ⟨⟨r11, s11⟩, ⟨r12, s12⟩, ⟨r13, s13⟩⟩ := hm
    have z0 := wrap14 (p + x 17) (by omega) (by omega)
    have z1 := wrap14 (p + x 17 - a13) (by omega) (by omega)
    have q3 : ((2 : Int) == 3) = false := rfl
    have f19 : w.cell? ⟨g, 19, none⟩ = some (.int .i64 (2)) := C.box.cell rfl
    have f17 : w.cell? ⟨g, 17, none⟩ = some (.int .i64 (x 17)) := C.box.cell rfl
    have f33 : w.cell? ⟨g, 33, none⟩ = some (.int .i64 (a13)) := C.box.cell rfl
    go_enter Try.func101, Try.ntmps101
    go_upto_region 6 with fail
    (try go_frame)
    go_still_tail 14, (by kernel_rfl)
    change wpList _ _ _ _ _ w.drew
    go_wp2_with (first
      | (go_at_call 85; (with_reducible refine (breaks14_any g x (2) ⟨a0, a1, a2, a3, a4, a5, a6, a7, a8, a9, a10, a11, a12, a13⟩ (y) 9 9 (p + x 17 - a13) (e) _ C.drew.box (by omega) rfl).mono ?_); rintro e w1 ⟨rfl, c⟩; replace C : BkTo w g x (2) ⟨a0, a1, a2, a3, a4, a5, a6, a7, a8, a9, a10, a11, a12, a13⟩ (brk (y) 9 (p + x 17 - a13) (e)) w1 := C.drew.trans c; clear c; have f33 : w1.cell? ⟨g, 33, none⟩ = some (.int .i64 (a13)) := C.box.cell rfl)
      | (refine wpList_store_fld (by rfl) 3 _ _ rfl g 33 (.int .i64 (a13 + (e - p))) rfl rfl rfl _ _ C.box (by rw [blk_size]; decide) (by kernel_rfl) (fun w2 u => ?_); replace C : BkTo w g x (2) ⟨a0, a1, a2, a3, a4, a5, a6, a7, a8, a9, a10, a11, a12, a13 + (e - p)⟩ (brk (y) 9 (p + x 17 - a13) (e)) w2 := C.upd u; clear u))
    refine bodyPost_end (results_none Try.results101 _ _ _) rfl ⟨rfl, ?_⟩
    exact C
  obtain ⟨e1, e2⟩ := seg_none x k m y p e h3 h2
  rw [e1, e2]
  clear e1 e2
  have q3 : (k == 3) = false := by simpa using h3
  have q2 : (k == 2) = false := by simpa using h2
  have f19 : w.cell? ⟨g, 19, none⟩ = some (.int .i64 k) := C.box.cell rfl
  clear h3 h2
  go_enter Try.func101, Try.ntmps101
  go_wp2
  refine bodyPost_end (results_none Try.results101 _ _ _) rfl ⟨rfl, ?_⟩
  exact C

end Go.Proofs.Ytlbafgdbemhanaa
