/- What up of layer 13 leaves. Conditions: as the theorem says. -/
import Derived.Test.YtolbihfnogbjaaaRows
import Derived.Test.YtolbihfnogbjaaaBase
import Derived.Test.YtolbihfnogbjaaaZ2
import Derived.Test.YtolbihfnogbjaaaZ4
import Derived.Test.YtolbihfnogbjaaaMeterDrive
import Derived.Test.YtolbihfnogbjaaaMeterRise
import Derived.WalkKit
import Derived.WalkSpells
import Derived.WalkSmall
import Derived.Below
import Derived.Lib.Hide
import Derived.Shelf.Abstract
import Derived.BigQuiet
import Derived.OwnWalk
import Derived.Outline
import Derived.Deep.DeepCutAuto
import Derived.StillTailTactics
import Derived.Maps.RangeWalk
namespace Go.Proofs.Ytolbihfnogbjaaa
open Go.RowKit

set_option maxRecDepth 100000 in
set_option maxHeartbeats 4000000 in
theorem up_any (g : Nat) (x : Nat → Int) (m : Mt) (n : Nat) (k : Int) (w : World) (hb : Cn w g x m n) (hn : n < 1024) (hm : MayM m) (hx : May x) :
    Calls Try.prog 57 #[.pointer (some ⟨g, 0, none⟩), .int .i64 k] w fun e w' => e = .returned (.tuple #[]) ∧ CnTo w g x (upM x m k) (Cl.into n (upC x m k)) w' := by
  obtain ⟨h4, h5⟩ := may_time hx 4 (by omega)
  obtain ⟨h8, h8'⟩ := may_time hx 8 (by omega)
  obtain ⟨h11, h11'⟩ := may_time hx 11 (by omega)
  have hr := (may_upR (x := x) hm).1
  have hn0 : orB (orB n 8 (up8 x m)) 6 (up6 x m) < 1024 := orB_lt _ (orB_lt _ hn (by omega)) (by omega)
  have f22 : w.cell? ⟨g, 22, none⟩ = some (.int .i64 m.lie) := hb.cell rfl
  have RI : 0 < m.lie → Calls Try.prog 63 #[.pointer (some ⟨g, 0, none⟩)] w fun e w' => e = .returned (.tuple #[]) ∧ CnTo w g x (upR x m) (orB (orB n 8 (up8 x m)) 6 (up6 x m)) w' := fun hl => by
    have := rise_any g x m n w hb hn hm hl hx
    unfold upR up8 up6
    rw [if_pos hl, decide_eq_true hl, Bool.true_and, Bool.true_and]
    exact this
  have RN : ¬ 0 < m.lie → CnTo w g x (upR x m) (orB (orB n 8 (up8 x m)) 6 (up6 x m)) w := fun hl => by
    unfold upR up8 up6
    rw [if_neg hl, decide_eq_false hl, Bool.false_and, Bool.false_and, orB_no, orB_no]
    exact Chg.refl hb
  obtain ⟨n1, hn1⟩ : ∃ n1, orB (orB n 8 (up8 x m)) 6 (up6 x m) = n1 := ⟨_, rfl⟩
  obtain ⟨r, hre⟩ : ∃ r, upR x m = r := ⟨_, rfl⟩
  rw [hn1, hre] at RI RN
  rw [hn1] at hn0
  rw [hre] at hr
  unfold Cl.into upM upC
  dsimp only
  rw [hn1, hre]
  generalize m.lie = li at f22 RI RN
  clear hn1 hre hb hm hx hn m n
  go_enter Try.func57, Try.ntmps57
  go_upto_if 12 with fail
  go_cut [1, 4] (fun u1 u4 wx => u1 = .int .i64 k ∧ u4 = .pointer (some ⟨g, 19, none⟩) ∧ CnTo w g x r n1 wx)
  case first =>
    by_cases hl : 0 < li
    case pos =>
      replace RI := RI hl
      clear RN
      go_wp2_with (go_at_call 63; (with_reducible refine RI.mono ?_); rintro e w1 ⟨rfl, C⟩)
      go_meet
      exact ⟨rfl, rfl, C⟩
    case neg =>
      replace RN := RN hl
      clear RI
      go_wp2
      go_meet
      exact ⟨rfl, rfl, RN⟩
  case rest =>
  obtain ⟨rfl, rfl, C⟩ := hcut
  rename World => w1
  clear RI RN f22
  obtain ⟨b0, b1, b2, b3, b4, b5, b6, b7, b8, b9, b10, b11, b12, b13⟩ := r
  have HM := Lib.hid hr
  unfold MayE at hr
  dsimp only at hr
  obtain ⟨⟨r0, s0⟩, -, -, ⟨r4, s4⟩, -, -, -, ⟨r9, s9⟩, -, -, ⟨r13, s13⟩⟩ := hr
  have f19 : w1.cell? ⟨g, 19, none⟩ = some (.int .i64 (b0)) := C.box.cell rfl
  have f23 : w1.cell? ⟨g, 23, none⟩ = some (.int .i64 (b4)) := C.box.cell rfl
  have f11 : w1.cell? ⟨g, 11, none⟩ = some (.int .i64 (x 11)) := C.box.cell rfl
  have f8 : w1.cell? ⟨g, 8, none⟩ = some (.int .i64 (x 8)) := C.box.cell rfl
  have z1 := wrap_small (b0 - b4) (by omega) (by omega)
  have z2 := wrap_small (x 11 - x 8) (by omega) (by omega)
  have z3 := wrap_small (b0 - b9) (by omega) (by omega)
  go_upto_region 3 with fail
  (try go_frame)
  go_still_tail 22, (by kernel_rfl)
  change wpList _ _ _ _ _ w1.drew
  go_upto_region 4 with (first
    | (go_at_call 64; (with_reducible refine (breaks_any g x ⟨b0, b1, b2, b3, b4, b5, b6, b7, b8, b9, b10, b11, b12, b13⟩ (n1) 5 _ _ _ C.drew.box hn0 (by omega) (by decide)).mono ?_); rintro e w2 ⟨rfl, c⟩; replace C : CnTo w g x ⟨b0, b1, b2, b3, b4, b5, b6, b7, b8, b9, b10, b11, b12, b13⟩ (orB (n1) 5 (decide (x 11 - x 8 ≤ b0 - b4))) w2 := C.drew.trans c; clear c; have hn2 : orB (n1) 5 (decide (x 11 - x 8 ≤ b0 - b4)) < 1024 := orB_lt _ hn0 (by omega); have f19 : w2.cell? ⟨g, 19, none⟩ = some (.int .i64 (b0)) := C.box.cell rfl; have f28 : w2.cell? ⟨g, 28, none⟩ = some (.int .i64 (b9)) := C.box.cell rfl; have f14 : w2.cell? ⟨g, 14, none⟩ = some (.int .i64 (x 14)) := C.box.cell rfl))
  (try go_frame)
  go_still_tail 16, (by kernel_rfl)
  change wpList _ _ _ _ _ w2.drew
  go_upto_region 5 with (first
    | (go_at_call 64; (with_reducible refine (breaks_any g x ⟨b0, b1, b2, b3, b4, b5, b6, b7, b8, b9, b10, b11, b12, b13⟩ (orB (n1) 5 (decide (x 11 - x 8 ≤ b0 - b4))) 7 _ _ _ C.drew.box hn2 (by omega) (by decide)).mono ?_); rintro e w3 ⟨rfl, c⟩; replace C : CnTo w g x ⟨b0, b1, b2, b3, b4, b5, b6, b7, b8, b9, b10, b11, b12, b13⟩ (orB (orB (n1) 5 (decide (x 11 - x 8 ≤ b0 - b4))) 7 (decide (x 14 ≤ b0 - b9))) w3 := C.drew.trans c; clear c; have hn3 : orB (orB (n1) 5 (decide (x 11 - x 8 ≤ b0 - b4))) 7 (decide (x 14 ≤ b0 - b9)) < 1024 := orB_lt _ hn2 (by omega)))
  (try go_frame)
  by_cases hk3 : k = 3
  case pos =>
    subst hk3
    have q3 : ((3 : Int) == 3) = true := rfl
    have DL := (le_drive (x := x) HM.out).2.2
    have DR := fun W h => drive_any g x ⟨b0, b1, b2, b3, b4, b5, b6, b7, b8, b9, b10, b11, b12, b13⟩ (orB (orB (n1) 5 (decide (x 11 - x 8 ≤ b0 - b4))) 7 (decide (x 14 ≤ b0 - b9))) W h hn3 HM.out h4 h5
    have hnd : orB (orB (orB (orB (orB (orB (orB (n1) 5 (decide (x 11 - x 8 ≤ b0 - b4))) 7 (decide (x 14 ≤ b0 - b9))) 0 (c0 x ⟨b0, b1, b2, b3, b4, b5, b6, b7, b8, b9, b10, b11, b12, b13⟩)) 2 (c2 x ⟨b0, b1, b2, b3, b4, b5, b6, b7, b8, b9, b10, b11, b12, b13⟩)) 1 (c1 x ⟨b0, b1, b2, b3, b4, b5, b6, b7, b8, b9, b10, b11, b12, b13⟩)) 3 (c3 x ⟨b0, b1, b2, b3, b4, b5, b6, b7, b8, b9, b10, b11, b12, b13⟩)) 4 (c4 x ⟨b0, b1, b2, b3, b4, b5, b6, b7, b8, b9, b10, b11, b12, b13⟩) < 1024 := orB_lt _ (orB_lt _ (orB_lt _ (orB_lt _ (orB_lt _ hn3 (by omega)) (by omega)) (by omega)) (by omega)) (by omega)
    obtain ⟨D, hD⟩ : ∃ D, driveM x ⟨b0, b1, b2, b3, b4, b5, b6, b7, b8, b9, b10, b11, b12, b13⟩ = D := ⟨_, rfl⟩
    obtain ⟨nd, hnn⟩ : ∃ nd, orB (orB (orB (orB (orB (orB (orB (n1) 5 (decide (x 11 - x 8 ≤ b0 - b4))) 7 (decide (x 14 ≤ b0 - b9))) 0 (c0 x ⟨b0, b1, b2, b3, b4, b5, b6, b7, b8, b9, b10, b11, b12, b13⟩)) 2 (c2 x ⟨b0, b1, b2, b3, b4, b5, b6, b7, b8, b9, b10, b11, b12, b13⟩)) 1 (c1 x ⟨b0, b1, b2, b3, b4, b5, b6, b7, b8, b9, b10, b11, b12, b13⟩)) 3 (c3 x ⟨b0, b1, b2, b3, b4, b5, b6, b7, b8, b9, b10, b11, b12, b13⟩)) 4 (c4 x ⟨b0, b1, b2, b3, b4, b5, b6, b7, b8, b9, b10, b11, b12, b13⟩) = nd := ⟨_, rfl⟩
    rw [hD] at DL DR
    rw [hnn] at hnd DR
    obtain ⟨t0, t1, t2, t3, t4, t5, t6, t7, t8, t9, t10, t11, t12, t13⟩ := D
    dsimp only at DL
    have DL1 : 0 ≤ t13 := by omega
    have DL2 : t13 ≤ 40320 := by omega
    clear DL
    have HD := Lib.hid hD
    have HNN := Lib.hid hnn
    clear hD hnn
    go_upto_region 9 with (first
      | (go_at_call 65; (with_reducible refine (DR _ C.box).mono ?_); rintro e w4 ⟨rfl, c⟩; replace C : CnTo w g x ⟨t0, t1, t2, t3, t4, t5, t6, t7, t8, t9, t10, t11, t12, t13⟩ nd w4 := C.trans c; clear c; have f32 : w4.cell? ⟨g, 32, none⟩ = some (.int .i64 (t13)) := C.box.cell rfl)
      | (refine wpList_store_fld (by rfl) 3 _ _ rfl g 32 (.int .i64 (t13 + 1)) rfl rfl rfl _ _ C.box (by rw [cnt_size]; decide) (by kernel_rfl) (fun w5 u => ?_); replace C : CnTo w g x ⟨t0, t1, t2, t3, t4, t5, t6, t7, t8, t9, t10, t11, t12, t13 + 1⟩ (nd) w5 := C.upd u; clear u; have f32 : w5.cell? ⟨g, 32, none⟩ = some (.int .i64 (t13 + 1)) := C.box.cell rfl; have f17 : w5.cell? ⟨g, 17, none⟩ = some (.int .i64 (x 17)) := C.box.cell rfl))
    (try go_frame)
    go_still_tail 11, (by kernel_rfl)
    change wpList _ _ _ _ _ w5.drew
    go_wp2_with (first
      | (go_at_call 64; (with_reducible refine (breaks_any g x ⟨t0, t1, t2, t3, t4, t5, t6, t7, t8, t9, t10, t11, t12, t13 + 1⟩ (nd) 9 _ _ _ C.drew.box hnd (by omega) (by decide)).mono ?_); rintro e w6 ⟨rfl, c⟩; replace C : CnTo w g x ⟨t0, t1, t2, t3, t4, t5, t6, t7, t8, t9, t10, t11, t12, t13 + 1⟩ (orB (nd) 9 (decide (x 17 < t13 + 1))) w6 := C.drew.trans c; clear c; have hn6 : orB (nd) 9 (decide (x 17 < t13 + 1)) < 1024 := orB_lt _ hnd (by omega)))
    refine bodyPost_end (results_none Try.results57 _ _ _) rfl ⟨rfl, ?_⟩
    rw [HD.out]
    have hnn := HNN.out
    show CnTo w g x (workM _) (orB (orB (orB (orB (orB (orB (orB (orB (n1) 5 (decide (x 11 - x 8 ≤ b0 - b4))) 7 (decide (x 14 ≤ b0 - b9))) 0 (c0 x ⟨b0, b1, b2, b3, b4, b5, b6, b7, b8, b9, b10, b11, b12, b13⟩)) 2 (c2 x ⟨b0, b1, b2, b3, b4, b5, b6, b7, b8, b9, b10, b11, b12, b13⟩)) 1 (c1 x ⟨b0, b1, b2, b3, b4, b5, b6, b7, b8, b9, b10, b11, b12, b13⟩)) 3 (c3 x ⟨b0, b1, b2, b3, b4, b5, b6, b7, b8, b9, b10, b11, b12, b13⟩)) 4 (c4 x ⟨b0, b1, b2, b3, b4, b5, b6, b7, b8, b9, b10, b11, b12, b13⟩)) 9 _) _
    rw [hnn]
    exact C
  by_cases hk2 : k = 2
  case pos =>
    subst hk2
    have q3 : ((2 : Int) == 3) = false := rfl
    have f32 : w3.cell? ⟨g, 32, none⟩ = some (.int .i64 (b13)) := C.box.cell rfl
    go_upto_region 9 with (first
      | (refine wpList_store_fld (by rfl) 3 _ _ rfl g 32 (.int .i64 (b13 + 1)) rfl rfl rfl _ _ C.box (by rw [cnt_size]; decide) (by kernel_rfl) (fun w4 u => ?_); replace C : CnTo w g x ⟨b0, b1, b2, b3, b4, b5, b6, b7, b8, b9, b10, b11, b12, b13 + 1⟩ (orB (orB (n1) 5 (decide (x 11 - x 8 ≤ b0 - b4))) 7 (decide (x 14 ≤ b0 - b9))) w4 := C.upd u; clear u; have f32 : w4.cell? ⟨g, 32, none⟩ = some (.int .i64 (b13 + 1)) := C.box.cell rfl; have f17 : w4.cell? ⟨g, 17, none⟩ = some (.int .i64 (x 17)) := C.box.cell rfl))
    (try go_frame)
    go_still_tail 11, (by kernel_rfl)
    change wpList _ _ _ _ _ w4.drew
    go_wp2_with (first
      | (go_at_call 64; (with_reducible refine (breaks_any g x ⟨b0, b1, b2, b3, b4, b5, b6, b7, b8, b9, b10, b11, b12, b13 + 1⟩ (orB (orB (n1) 5 (decide (x 11 - x 8 ≤ b0 - b4))) 7 (decide (x 14 ≤ b0 - b9))) 9 _ _ _ C.drew.box hn3 (by omega) (by decide)).mono ?_); rintro e w5 ⟨rfl, c⟩; replace C : CnTo w g x ⟨b0, b1, b2, b3, b4, b5, b6, b7, b8, b9, b10, b11, b12, b13 + 1⟩ (orB (orB (orB (n1) 5 (decide (x 11 - x 8 ≤ b0 - b4))) 7 (decide (x 14 ≤ b0 - b9))) 9 (decide (x 17 < b13 + 1))) w5 := C.drew.trans c; clear c; have hn5 : orB (orB (orB (n1) 5 (decide (x 11 - x 8 ≤ b0 - b4))) 7 (decide (x 14 ≤ b0 - b9))) 9 (decide (x 17 < b13 + 1)) < 1024 := orB_lt _ hn3 (by omega)))
    refine bodyPost_end (results_none Try.results57 _ _ _) rfl ⟨rfl, ?_⟩
    simp only [orB_no]
    exact C
  have q3 : (k == 3) = false := by simpa using hk3
  have q2 : (k == 2) = false := by simpa using hk2
  go_wp2_with fail
  refine bodyPost_end (results_none Try.results57 _ _ _) rfl ⟨rfl, ?_⟩
  simp only [orB_no]
  exact C

end Go.Proofs.Ytolbihfnogbjaaa
