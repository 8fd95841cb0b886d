/- What drive of layer 13 leaves. Conditions: as the theorem says. -/
import Derived.Test.YtolbihfnogbjaaaRows
import Derived.Test.YtolbihfnogbjaaaBase
import Derived.Test.YtolbihfnogbjaaaZ2
import Derived.Test.YtolbihfnogbjaaaZ4
import Derived.WalkKit
import Derived.WalkSpells
import Derived.WalkSmall
import Derived.Below
import Derived.Lib.Hide
import Derived.Shelf.Abstract
import Derived.BigQuiet
import Derived.OwnWalk
import Derived.Outline
import Derived.Deep.DeepCutAuto
import Derived.StillTailTactics
import Derived.Maps.RangeWalk
namespace Go.Proofs.Ytolbihfnogbjaaa
open Go.RowKit

set_option maxRecDepth 100000 in
set_option maxHeartbeats 4000000 in
theorem drive_any (g : Nat) (x : Nat → Int) (m : Mt) (n : Nat) (w : World) (hb : Cn w g x m n) (hn : n < 1024) (hm : MayE m) (h4 : 0 ≤ x 4) (h5 : x 4 ≤ 40320) :
    Calls Try.prog 65 #[.pointer (some ⟨g, 0, none⟩)] w fun e w' => e = .returned (.tuple #[]) ∧ CnTo w g x (driveM x m) (orB (orB (orB (orB (orB n 0 (c0 x m)) 2 (c2 x m)) 1 (c1 x m)) 3 (c3 x m)) 4 (c4 x m)) w' := by
  obtain ⟨a0, a1, a2, a3, a4, a5, a6, a7, a8, a9, a10, a11, a12, a13⟩ := m
  unfold MayE at hm
  dsimp only at hm
  obtain ⟨⟨r0, s0⟩, ⟨r1, s1⟩, -, -, ⟨r5, s5⟩, ⟨r6, s6⟩, -, -, ⟨r11, s11⟩, ⟨r12, s12⟩, -⟩ := hm
  have C : CnTo w g x ⟨a0, a1, a2, a3, a4, a5, a6, a7, a8, a9, a10, a11, a12, a13⟩ n w := Chg.refl hb
  clear hb
  have f20 : w.cell? ⟨g, 20, none⟩ = some (.int .i64 (a1)) := C.box.cell rfl
  go_enter Try.func65, Try.ntmps65
  go_upto_region 2 with (first
    | (refine wpList_store_fld (by rfl) 3 _ _ rfl g 20 (.int .i64 (a1 + 1)) rfl rfl rfl _ _ C.box (by rw [cnt_size]; decide) (by kernel_rfl) (fun w1 u => ?_); replace C : CnTo w g x ⟨a0, a1 + 1, a2, a3, a4, a5, a6, a7, a8, a9, a10, a11, a12, a13⟩ (n) w1 := C.upd u; clear u; have f20 : w1.cell? ⟨g, 20, none⟩ = some (.int .i64 (a1 + 1)) := C.box.cell rfl; have f0 : w1.cell? ⟨g, 0, none⟩ = some (.int .i64 (x 0)) := C.box.cell rfl))
  (try go_frame)
  go_still_tail 11, (by kernel_rfl)
  change wpList _ _ _ _ _ w1.drew
  go_upto_region 4 with (first
    | (go_at_call 64; (with_reducible refine (breaks_any g x ⟨a0, a1 + 1, a2, a3, a4, a5, a6, a7, a8, a9, a10, a11, a12, a13⟩ (n) 0 _ _ _ C.drew.box hn (by omega) (by decide)).mono ?_); rintro e w2 ⟨rfl, c⟩; replace C : CnTo w g x ⟨a0, a1 + 1, a2, a3, a4, a5, a6, a7, a8, a9, a10, a11, a12, a13⟩ (orB (n) 0 (decide (x 0 < a1 + 1))) w2 := C.drew.trans c; clear c; have hn2 : orB (n) 0 (decide (x 0 < a1 + 1)) < 1024 := orB_lt _ hn (by omega); have f24 : w2.cell? ⟨g, 24, none⟩ = some (.int .i64 (a5)) := C.box.cell rfl)
    | (refine wpList_store_fld (by rfl) 3 _ _ rfl g 24 (.int .i64 (a5 + 1)) rfl rfl rfl _ _ C.box (by rw [cnt_size]; decide) (by kernel_rfl) (fun w3 u => ?_); replace C : CnTo w g x ⟨a0, a1 + 1, a2, a3, a4, a5 + 1, a6, a7, a8, a9, a10, a11, a12, a13⟩ (orB (n) 0 (decide (x 0 < a1 + 1))) w3 := C.upd u; clear u; have f24 : w3.cell? ⟨g, 24, none⟩ = some (.int .i64 (a5 + 1)) := C.box.cell rfl; have f4 : w3.cell? ⟨g, 4, none⟩ = some (.int .i64 (x 4)) := C.box.cell rfl))
  (try go_frame)
  by_cases hq : a5 = x 4
  case pos =>
    have q1 : (a5 == x 4) = true := by simpa using hq
    have q2 : (a5 + 1 == x 4 + 1) = true := by simpa using hq
    have HQ := Lib.hid hq
    clear hq
    go_still_tail 10, (by kernel_rfl)
    change wpList _ _ _ _ _ w3.drew
    replace C := C.drew
    generalize w3.drew = w4 at C ⊢
    have f25 : w4.cell? ⟨g, 25, none⟩ = some (.int .i64 (a6)) := C.box.cell rfl
    go_upto_region 6 with (first
      | (refine wpList_store_fld (by rfl) 3 _ _ rfl g 25 (.int .i64 (a6 + 1)) rfl rfl rfl _ _ C.box (by rw [cnt_size]; decide) (by kernel_rfl) (fun w5 u => ?_); replace C : CnTo w g x ⟨a0, a1 + 1, a2, a3, a4, a5 + 1, a6 + 1, a7, a8, a9, a10, a11, a12, a13⟩ (orB (n) 0 (decide (x 0 < a1 + 1))) w5 := C.upd u; clear u; have f25 : w5.cell? ⟨g, 25, none⟩ = some (.int .i64 (a6 + 1)) := C.box.cell rfl; have f6 : w5.cell? ⟨g, 6, none⟩ = some (.int .i64 (x 6)) := C.box.cell rfl))
    (try go_frame)
    go_still_tail 11, (by kernel_rfl)
    change wpList _ _ _ _ _ w5.drew
    go_upto_region 7 with (first
      | (go_at_call 64; (with_reducible refine (breaks_any g x ⟨a0, a1 + 1, a2, a3, a4, a5 + 1, a6 + 1, a7, a8, a9, a10, a11, a12, a13⟩ (orB (n) 0 (decide (x 0 < a1 + 1))) 2 _ _ _ C.drew.box hn2 (by omega) (by decide)).mono ?_); rintro e w6 ⟨rfl, c⟩; replace C : CnTo w g x ⟨a0, a1 + 1, a2, a3, a4, a5 + 1, a6 + 1, a7, a8, a9, a10, a11, a12, a13⟩ (orB (orB (n) 0 (decide (x 0 < a1 + 1))) 2 (decide (x 6 < a6 + 1))) w6 := C.drew.trans c; clear c; have hn6 : orB (orB (n) 0 (decide (x 0 < a1 + 1))) 2 (decide (x 6 < a6 + 1)) < 1024 := orB_lt _ hn2 (by omega); have f24 : w6.cell? ⟨g, 24, none⟩ = some (.int .i64 (a5 + 1)) := C.box.cell rfl; have f5 : w6.cell? ⟨g, 5, none⟩ = some (.int .i64 (x 5)) := C.box.cell rfl))
    (try go_frame)
    go_still_tail 11, (by kernel_rfl)
    change wpList _ _ _ _ _ w6.drew
    go_upto_region 9 with (first
      | (go_at_call 64; (with_reducible refine (breaks_any g x ⟨a0, a1 + 1, a2, a3, a4, a5 + 1, a6 + 1, a7, a8, a9, a10, a11, a12, a13⟩ (orB (orB (n) 0 (decide (x 0 < a1 + 1))) 2 (decide (x 6 < a6 + 1))) 1 _ _ _ C.drew.box hn6 (by omega) (by decide)).mono ?_); rintro e w7 ⟨rfl, c⟩; replace C : CnTo w g x ⟨a0, a1 + 1, a2, a3, a4, a5 + 1, a6 + 1, a7, a8, a9, a10, a11, a12, a13⟩ (orB (orB (orB (n) 0 (decide (x 0 < a1 + 1))) 2 (decide (x 6 < a6 + 1))) 1 (decide (x 5 < a5 + 1))) w7 := C.drew.trans c; clear c; have hn7 : orB (orB (orB (n) 0 (decide (x 0 < a1 + 1))) 2 (decide (x 6 < a6 + 1))) 1 (decide (x 5 < a5 + 1)) < 1024 := orB_lt _ hn6 (by omega); have f30 : w7.cell? ⟨g, 30, none⟩ = some (.int .i64 (a11)) := C.box.cell rfl)
      | (refine wpList_store_fld (by rfl) 3 _ _ rfl g 30 (.int .i64 (a11 + 1)) rfl rfl rfl _ _ C.box (by rw [cnt_size]; decide) (by kernel_rfl) (fun w8 u => ?_); replace C : CnTo w g x ⟨a0, a1 + 1, a2, a3, a4, a5 + 1, a6 + 1, a7, a8, a9, a10, a11 + 1, a12, a13⟩ (orB (orB (orB (n) 0 (decide (x 0 < a1 + 1))) 2 (decide (x 6 < a6 + 1))) 1 (decide (x 5 < a5 + 1))) w8 := C.upd u; clear u; have f30 : w8.cell? ⟨g, 30, none⟩ = some (.int .i64 (a11 + 1)) := C.box.cell rfl; have f15 : w8.cell? ⟨g, 15, none⟩ = some (.int .i64 (x 15)) := C.box.cell rfl))
    (try go_frame)
    go_still_tail 11, (by kernel_rfl)
    change wpList _ _ _ _ _ w8.drew
    go_upto_region 10 with (first
      | (go_at_call 64; (with_reducible refine (breaks_any g x ⟨a0, a1 + 1, a2, a3, a4, a5 + 1, a6 + 1, a7, a8, a9, a10, a11 + 1, a12, a13⟩ (orB (orB (orB (n) 0 (decide (x 0 < a1 + 1))) 2 (decide (x 6 < a6 + 1))) 1 (decide (x 5 < a5 + 1))) 3 _ _ _ C.drew.box hn7 (by omega) (by decide)).mono ?_); rintro e w9 ⟨rfl, c⟩; replace C : CnTo w g x ⟨a0, a1 + 1, a2, a3, a4, a5 + 1, a6 + 1, a7, a8, a9, a10, a11 + 1, a12, a13⟩ (orB (orB (orB (orB (n) 0 (decide (x 0 < a1 + 1))) 2 (decide (x 6 < a6 + 1))) 1 (decide (x 5 < a5 + 1))) 3 (decide (x 15 < a11 + 1))) w9 := C.drew.trans c; clear c; have hn9 : orB (orB (orB (orB (n) 0 (decide (x 0 < a1 + 1))) 2 (decide (x 6 < a6 + 1))) 1 (decide (x 5 < a5 + 1))) 3 (decide (x 15 < a11 + 1)) < 1024 := orB_lt _ hn7 (by omega); have f30 : w9.cell? ⟨g, 30, none⟩ = some (.int .i64 (a11 + 1)) := C.box.cell rfl; have f31 : w9.cell? ⟨g, 31, none⟩ = some (.int .i64 (a12)) := C.box.cell rfl; have f16 : w9.cell? ⟨g, 16, none⟩ = some (.int .i64 (x 16)) := C.box.cell rfl))
    (try go_frame)
    go_still_tail 16, (by kernel_rfl)
    change wpList _ _ _ _ _ w9.drew
    go_wp2_with (first
      | (go_at_call 64; (with_reducible refine (breaks_any g x ⟨a0, a1 + 1, a2, a3, a4, a5 + 1, a6 + 1, a7, a8, a9, a10, a11 + 1, a12, a13⟩ (orB (orB (orB (orB (n) 0 (decide (x 0 < a1 + 1))) 2 (decide (x 6 < a6 + 1))) 1 (decide (x 5 < a5 + 1))) 3 (decide (x 15 < a11 + 1))) 4 _ _ _ C.drew.box hn9 (by omega) (by decide)).mono ?_); rintro e w10 ⟨rfl, c⟩; replace C : CnTo w g x ⟨a0, a1 + 1, a2, a3, a4, a5 + 1, a6 + 1, a7, a8, a9, a10, a11 + 1, a12, a13⟩ (orB (orB (orB (orB (orB (n) 0 (decide (x 0 < a1 + 1))) 2 (decide (x 6 < a6 + 1))) 1 (decide (x 5 < a5 + 1))) 3 (decide (x 15 < a11 + 1))) 4 (decide (x 16 < a11 + 1 + a12))) w10 := C.drew.trans c; clear c; have hn10 : orB (orB (orB (orB (orB (n) 0 (decide (x 0 < a1 + 1))) 2 (decide (x 6 < a6 + 1))) 1 (decide (x 5 < a5 + 1))) 3 (decide (x 15 < a11 + 1))) 4 (decide (x 16 < a11 + 1 + a12)) < 1024 := orB_lt _ hn9 (by omega)))
    refine bodyPost_end (results_none Try.results65 _ _ _) rfl ⟨rfl, ?_⟩
    have hq := HQ.out
    have e2 : driveM x ⟨a0, a1, a2, a3, a4, a5, a6, a7, a8, a9, a10, a11, a12, a13⟩ = ⟨a0, a1 + 1, a2, a3, a4, a5 + 1, a6 + 1, a7, a8, a9, a10, a11 + 1, a12, a13⟩ := by
      unfold driveM d2 d1; dsimp only
      rw [if_pos (by omega)]
    have e3 : c2 x ⟨a0, a1, a2, a3, a4, a5, a6, a7, a8, a9, a10, a11, a12, a13⟩ = decide (x 6 < a6 + 1) := by unfold c2; simp [hq]
    rw [e2, e3]
    exact C
  case neg =>
    have q1 : (a5 == x 4) = false := by simpa using hq
    have q2 : (a5 + 1 == x 4 + 1) = false := by simpa using hq
    have HQ := Lib.hid hq
    clear hq
    go_still_tail 10, (by kernel_rfl)
    change wpList _ _ _ _ _ w3.drew
    replace C := C.drew
    generalize w3.drew = w4 at C ⊢
    have f24 : w4.cell? ⟨g, 24, none⟩ = some (.int .i64 (a5 + 1)) := C.box.cell rfl
    have f5 : w4.cell? ⟨g, 5, none⟩ = some (.int .i64 (x 5)) := C.box.cell rfl
    go_upto_region 7 with fail
    (try go_frame)
    go_still_tail 11, (by kernel_rfl)
    change wpList _ _ _ _ _ w4.drew
    go_upto_region 9 with (first
      | (go_at_call 64; (with_reducible refine (breaks_any g x ⟨a0, a1 + 1, a2, a3, a4, a5 + 1, a6, a7, a8, a9, a10, a11, a12, a13⟩ (orB (n) 0 (decide (x 0 < a1 + 1))) 1 _ _ _ C.drew.box hn2 (by omega) (by decide)).mono ?_); rintro e w5 ⟨rfl, c⟩; replace C : CnTo w g x ⟨a0, a1 + 1, a2, a3, a4, a5 + 1, a6, a7, a8, a9, a10, a11, a12, a13⟩ (orB (orB (n) 0 (decide (x 0 < a1 + 1))) 1 (decide (x 5 < a5 + 1))) w5 := C.drew.trans c; clear c; have hn5 : orB (orB (n) 0 (decide (x 0 < a1 + 1))) 1 (decide (x 5 < a5 + 1)) < 1024 := orB_lt _ hn2 (by omega); have f30 : w5.cell? ⟨g, 30, none⟩ = some (.int .i64 (a11)) := C.box.cell rfl)
      | (refine wpList_store_fld (by rfl) 3 _ _ rfl g 30 (.int .i64 (a11 + 1)) rfl rfl rfl _ _ C.box (by rw [cnt_size]; decide) (by kernel_rfl) (fun w6 u => ?_); replace C : CnTo w g x ⟨a0, a1 + 1, a2, a3, a4, a5 + 1, a6, a7, a8, a9, a10, a11 + 1, a12, a13⟩ (orB (orB (n) 0 (decide (x 0 < a1 + 1))) 1 (decide (x 5 < a5 + 1))) w6 := C.upd u; clear u; have f30 : w6.cell? ⟨g, 30, none⟩ = some (.int .i64 (a11 + 1)) := C.box.cell rfl; have f15 : w6.cell? ⟨g, 15, none⟩ = some (.int .i64 (x 15)) := C.box.cell rfl))
    (try go_frame)
    go_still_tail 11, (by kernel_rfl)
    change wpList _ _ _ _ _ w6.drew
    go_upto_region 10 with (first
      | (go_at_call 64; (with_reducible refine (breaks_any g x ⟨a0, a1 + 1, a2, a3, a4, a5 + 1, a6, a7, a8, a9, a10, a11 + 1, a12, a13⟩ (orB (orB (n) 0 (decide (x 0 < a1 + 1))) 1 (decide (x 5 < a5 + 1))) 3 _ _ _ C.drew.box hn5 (by omega) (by decide)).mono ?_); rintro e w7 ⟨rfl, c⟩; replace C : CnTo w g x ⟨a0, a1 + 1, a2, a3, a4, a5 + 1, a6, a7, a8, a9, a10, a11 + 1, a12, a13⟩ (orB (orB (orB (n) 0 (decide (x 0 < a1 + 1))) 1 (decide (x 5 < a5 + 1))) 3 (decide (x 15 < a11 + 1))) w7 := C.drew.trans c; clear c; have hn7 : orB (orB (orB (n) 0 (decide (x 0 < a1 + 1))) 1 (decide (x 5 < a5 + 1))) 3 (decide (x 15 < a11 + 1)) < 1024 := orB_lt _ hn5 (by omega); have f30 : w7.cell? ⟨g, 30, none⟩ = some (.int .i64 (a11 + 1)) := C.box.cell rfl; have f31 : w7.cell? ⟨g, 31, none⟩ = some (.int .i64 (a12)) := C.box.cell rfl; have f16 : w7.cell? ⟨g, 16, none⟩ = some (.int .i64 (x 16)) := C.box.cell rfl))
    (try go_frame)
    go_still_tail 16, (by kernel_rfl)
    change wpList _ _ _ _ _ w7.drew
    go_wp2_with (first
      | (go_at_call 64; (with_reducible refine (breaks_any g x ⟨a0, a1 + 1, a2, a3, a4, a5 + 1, a6, a7, a8, a9, a10, a11 + 1, a12, a13⟩ (orB (orB (orB (n) 0 (decide (x 0 < a1 + 1))) 1 (decide (x 5 < a5 + 1))) 3 (decide (x 15 < a11 + 1))) 4 _ _ _ C.drew.box hn7 (by omega) (by decide)).mono ?_); rintro e w8 ⟨rfl, c⟩; replace C : CnTo w g x ⟨a0, a1 + 1, a2, a3, a4, a5 + 1, a6, a7, a8, a9, a10, a11 + 1, a12, a13⟩ (orB (orB (orB (orB (n) 0 (decide (x 0 < a1 + 1))) 1 (decide (x 5 < a5 + 1))) 3 (decide (x 15 < a11 + 1))) 4 (decide (x 16 < a11 + 1 + a12))) w8 := C.drew.trans c; clear c; have hn8 : orB (orB (orB (orB (n) 0 (decide (x 0 < a1 + 1))) 1 (decide (x 5 < a5 + 1))) 3 (decide (x 15 < a11 + 1))) 4 (decide (x 16 < a11 + 1 + a12)) < 1024 := orB_lt _ hn7 (by omega)))
    refine bodyPost_end (results_none Try.results65 _ _ _) rfl ⟨rfl, ?_⟩
    have hq := HQ.out
    have e2 : driveM x ⟨a0, a1, a2, a3, a4, a5, a6, a7, a8, a9, a10, a11, a12, a13⟩ = ⟨a0, a1 + 1, a2, a3, a4, a5 + 1, a6, a7, a8, a9, a10, a11 + 1, a12, a13⟩ := by
      unfold driveM d2 d1; dsimp only
      rw [if_neg (by omega)]
    have e3 : c2 x ⟨a0, a1, a2, a3, a4, a5, a6, a7, a8, a9, a10, a11, a12, a13⟩ = false := by unfold c2; simp [hq]
    rw [e2, e3, orB_no]
    exact C

end Go.Proofs.Ytolbihfnogbjaaa
