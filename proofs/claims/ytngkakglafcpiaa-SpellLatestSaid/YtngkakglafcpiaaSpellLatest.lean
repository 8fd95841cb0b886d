/- Latest and Regular answer as the document says, for any book and any minute. Conditions: none. -/
import Derived.Test.YtngkakglafcpiaaRows
import Derived.Test.YtngkakglafcpiaaBase
import Derived.Test.YtngkakglafcpiaaBookRow
import Derived.Test.YtngkakglafcpiaaBookLeaf
import Derived.Test.YtngkakglafcpiaaBookNum
import Derived.Test.YtngkakglafcpiaaBookBel
import Derived.Test.YtngkakglafcpiaaBookOrd
import Derived.Test.YtngkakglafcpiaaBookLim
import Derived.Test.YtngkakglafcpiaaBookMayR
import Derived.Test.YtngkakglafcpiaaBookLaws
import Derived.Test.YtngkakglafcpiaaBookOpen
import Derived.Test.YtngkakglafcpiaaBookAlive
import Derived.Test.YtngkakglafcpiaaIvalLeaf
import Derived.Test.YtngkakglafcpiaaBox
import Derived.Test.YtngkakglafcpiaaSpellMath
import Derived.Test.YtngkakglafcpiaaSpellLeaf
import Derived.Test.YtngkakglafcpiaaSpellSt
import Derived.Test.YtngkakglafcpiaaSpellOf
import Derived.Test.YtngkakglafcpiaaSpellOfR
import Derived.Test.YtngkakglafcpiaaSpellAlive
import Derived.Test.YtngkakglafcpiaaSpellLaws
import Derived.Test.YtngkakglafcpiaaSpellOpen
import Derived.WalkKit
import Derived.WalkSmall
import Derived.WalkSpells
import Derived.ProofKit
import Derived.OpenShut
import Derived.ShutString
import Derived.ChangeOld
import Derived.Below
import Derived.Lib.Hide
import Derived.OwnWalk
import Derived.BigQuiet
import Derived.Outline
import Derived.Deep.DeepCutAuto
import Derived.Deep.RegionHeld3
import Derived.Maps.RangeWalk
namespace Go.Proofs.Ytngkakglafcpiaa.spellLatest
open Go.ChangeShapes Go.WideShapes Go.ChangeAt Go.RowKit
open Go.ChangeMaps (open_string shut_string)
set_option linter.unusedVariables false

theorem own : ownKnob Try.prog.godebug = none := by kernel_rfl
theorem laidOut : laidOutB Try.prog = true := by kernel_rfl

set_option maxRecDepth 100000 in
set_option maxHeartbeats 8000000 in
open Classical in
theorem walk (w : World) (x0 : Nat → Int) (a1 : Int) (w1 : (Lit.int .i64 a1).wf = true) :
    Calls Try.prog 4 #[.agg (bk x0), .int .i64 a1] w fun e w' => e = .returned (.bool true) ∧ Below w.heap.size w w' := by
  have CL := fun W => latest_any x0 a1 W
  have CR := fun W => regular_any x0 a1 W
  have CM := fun W => refmay_any x0 W
  have z7 := bk_at x0 7 (by omega)
  have z8 := bk_at x0 8 (by omega)
  have z11 := bk_at x0 11 (by omega)
  by_cases hm : May x0
  case neg =>
    simp only [lastR, lastErr_no a1 hm, if_neg (show ¬ (14 : Int) = 0 by decide)] at CL CR
    simp only [if_neg hm] at CM
    clear hm
    by_cases c0 : a1 < 0
    case pos =>
      have d0 : decide (a1 < 0) = true := decide_eq_true c0
      go_enter Try.func4, Try.ntmps4
      go_wp2_with (first | refine wpList_load_bk (by rfl) 23 _ rfl _ _ rfl x0 _ (by first | assumption | exact RdI.new x0 _ rfl) Try.underlying23 rfl (by kernel_rfl) ?_ | (go_at_call 11; (with_reducible refine (CL _).mono ?_); rintro e w1 ⟨rfl, hb1⟩; have r1 := (RdI.new x0 23 (rfl : w.heap.size = _)).below hb1; have q7_1 : w1.cell? ⟨w.heap.size, 7, none⟩ = some (.int .i64 (x0 7)) := r1.2 7 (by omega); have q8_1 : w1.cell? ⟨w.heap.size, 8, none⟩ = some (.int .i64 (x0 8)) := r1.2 8 (by omega); have q11_1 : w1.cell? ⟨w.heap.size, 11, none⟩ = some (.int .i64 (x0 11)) := r1.2 11 (by omega)) | (go_at_call 12; (with_reducible refine (CR _).mono ?_); rintro e w2 ⟨rfl, hb2⟩; have r2 := r1.below hb2; have q7_2 : w2.cell? ⟨w.heap.size, 7, none⟩ = some (.int .i64 (x0 7)) := r2.2 7 (by omega); have q8_2 : w2.cell? ⟨w.heap.size, 8, none⟩ = some (.int .i64 (x0 8)) := r2.2 8 (by omega); have q11_2 : w2.cell? ⟨w.heap.size, 11, none⟩ = some (.int .i64 (x0 11)) := r2.2 11 (by omega)) | (go_at_call 13; (with_reducible refine (CM _).mono ?_); rintro e w3 ⟨rfl, hb3⟩; have r3 := r2.below hb3; have q7_3 : w3.cell? ⟨w.heap.size, 7, none⟩ = some (.int .i64 (x0 7)) := r3.2 7 (by omega); have q8_3 : w3.cell? ⟨w.heap.size, 8, none⟩ = some (.int .i64 (x0 8)) := r3.2 8 (by omega); have q11_3 : w3.cell? ⟨w.heap.size, 11, none⟩ = some (.int .i64 (x0 11)) := r3.2 11 (by omega)) | (go_at_call 9; (with_reducible refine (alive12_any _).mono ?_); rintro e w9 ⟨rfl, hb9⟩))
      go_ret
      refine ⟨rfl, ?_⟩
      (repeat (first | exact Below.refl _ _ | (refine b_st ?_ (by first | (simp; done) | (simp; omega))) | (refine b_al ?_ (Nat.le_refl _) _) | refine b_dn ?_ | refine b_dr ?_ | (refine b_cl ?_ (Nat.le_refl _) (by assumption))))
    have n0 : 0 ≤ a1 := by omega
    have d0 : decide (a1 < 0) = false := decide_eq_false c0
    clear c0
    by_cases c1 : 40320 < a1
    case pos =>
      have d1 : decide (40320 < a1) = true := decide_eq_true c1
      go_enter Try.func4, Try.ntmps4
      go_wp2_with (first | refine wpList_load_bk (by rfl) 23 _ rfl _ _ rfl x0 _ (by first | assumption | exact RdI.new x0 _ rfl) Try.underlying23 rfl (by kernel_rfl) ?_ | (go_at_call 11; (with_reducible refine (CL _).mono ?_); rintro e w1 ⟨rfl, hb1⟩; have r1 := (RdI.new x0 23 (rfl : w.heap.size = _)).below hb1; have q7_1 : w1.cell? ⟨w.heap.size, 7, none⟩ = some (.int .i64 (x0 7)) := r1.2 7 (by omega); have q8_1 : w1.cell? ⟨w.heap.size, 8, none⟩ = some (.int .i64 (x0 8)) := r1.2 8 (by omega); have q11_1 : w1.cell? ⟨w.heap.size, 11, none⟩ = some (.int .i64 (x0 11)) := r1.2 11 (by omega)) | (go_at_call 12; (with_reducible refine (CR _).mono ?_); rintro e w2 ⟨rfl, hb2⟩; have r2 := r1.below hb2; have q7_2 : w2.cell? ⟨w.heap.size, 7, none⟩ = some (.int .i64 (x0 7)) := r2.2 7 (by omega); have q8_2 : w2.cell? ⟨w.heap.size, 8, none⟩ = some (.int .i64 (x0 8)) := r2.2 8 (by omega); have q11_2 : w2.cell? ⟨w.heap.size, 11, none⟩ = some (.int .i64 (x0 11)) := r2.2 11 (by omega)) | (go_at_call 13; (with_reducible refine (CM _).mono ?_); rintro e w3 ⟨rfl, hb3⟩; have r3 := r2.below hb3; have q7_3 : w3.cell? ⟨w.heap.size, 7, none⟩ = some (.int .i64 (x0 7)) := r3.2 7 (by omega); have q8_3 : w3.cell? ⟨w.heap.size, 8, none⟩ = some (.int .i64 (x0 8)) := r3.2 8 (by omega); have q11_3 : w3.cell? ⟨w.heap.size, 11, none⟩ = some (.int .i64 (x0 11)) := r3.2 11 (by omega)) | (go_at_call 9; (with_reducible refine (alive12_any _).mono ?_); rintro e w9 ⟨rfl, hb9⟩))
      go_ret
      refine ⟨rfl, ?_⟩
      (repeat (first | exact Below.refl _ _ | (refine b_st ?_ (by first | (simp; done) | (simp; omega))) | (refine b_al ?_ (Nat.le_refl _) _) | refine b_dn ?_ | refine b_dr ?_ | (refine b_cl ?_ (Nat.le_refl _) (by assumption))))
    have n1 : a1 ≤ 40320 := by omega
    have d1 : decide (40320 < a1) = false := decide_eq_false c1
    clear c1
    go_enter Try.func4, Try.ntmps4
    go_wp2_with (first | refine wpList_load_bk (by rfl) 23 _ rfl _ _ rfl x0 _ (by first | assumption | exact RdI.new x0 _ rfl) Try.underlying23 rfl (by kernel_rfl) ?_ | (go_at_call 11; (with_reducible refine (CL _).mono ?_); rintro e w1 ⟨rfl, hb1⟩; have r1 := (RdI.new x0 23 (rfl : w.heap.size = _)).below hb1; have q7_1 : w1.cell? ⟨w.heap.size, 7, none⟩ = some (.int .i64 (x0 7)) := r1.2 7 (by omega); have q8_1 : w1.cell? ⟨w.heap.size, 8, none⟩ = some (.int .i64 (x0 8)) := r1.2 8 (by omega); have q11_1 : w1.cell? ⟨w.heap.size, 11, none⟩ = some (.int .i64 (x0 11)) := r1.2 11 (by omega)) | (go_at_call 12; (with_reducible refine (CR _).mono ?_); rintro e w2 ⟨rfl, hb2⟩; have r2 := r1.below hb2; have q7_2 : w2.cell? ⟨w.heap.size, 7, none⟩ = some (.int .i64 (x0 7)) := r2.2 7 (by omega); have q8_2 : w2.cell? ⟨w.heap.size, 8, none⟩ = some (.int .i64 (x0 8)) := r2.2 8 (by omega); have q11_2 : w2.cell? ⟨w.heap.size, 11, none⟩ = some (.int .i64 (x0 11)) := r2.2 11 (by omega)) | (go_at_call 13; (with_reducible refine (CM _).mono ?_); rintro e w3 ⟨rfl, hb3⟩; have r3 := r2.below hb3; have q7_3 : w3.cell? ⟨w.heap.size, 7, none⟩ = some (.int .i64 (x0 7)) := r3.2 7 (by omega); have q8_3 : w3.cell? ⟨w.heap.size, 8, none⟩ = some (.int .i64 (x0 8)) := r3.2 8 (by omega); have q11_3 : w3.cell? ⟨w.heap.size, 11, none⟩ = some (.int .i64 (x0 11)) := r3.2 11 (by omega)) | (go_at_call 9; (with_reducible refine (alive12_any _).mono ?_); rintro e w9 ⟨rfl, hb9⟩))
    go_ret
    refine ⟨rfl, ?_⟩
    (repeat (first | exact Below.refl _ _ | (refine b_st ?_ (by first | (simp; done) | (simp; omega))) | (refine b_al ?_ (Nat.le_refl _) _) | refine b_dn ?_ | refine b_dr ?_ | (refine b_cl ?_ (Nat.le_refl _) (by assumption))))
  have ho := may_ord hm
  have r7 := may_time hm 7 (by omega)
  have r8 := may_time hm 8 (by omega)
  have r11 := may_time hm 11 (by omega)
  simp only [if_pos hm] at CM
  by_cases c0 : a1 < 0
  case pos =>
    simp only [lastR, lastErr_yes a1 hm, if_pos (Or.inl c0 : a1 < 0 ∨ 40320 < a1), if_neg (show ¬ (1 : Int) = 0 by decide)] at CL CR
    have d0 : decide (a1 < 0) = true := decide_eq_true c0
    clear hm ho
    go_enter Try.func4, Try.ntmps4
    go_wp2_with (first | refine wpList_load_bk (by rfl) 23 _ rfl _ _ rfl x0 _ (by first | assumption | exact RdI.new x0 _ rfl) Try.underlying23 rfl (by kernel_rfl) ?_ | (go_at_call 11; (with_reducible refine (CL _).mono ?_); rintro e w1 ⟨rfl, hb1⟩; have r1 := (RdI.new x0 23 (rfl : w.heap.size = _)).below hb1; have q7_1 : w1.cell? ⟨w.heap.size, 7, none⟩ = some (.int .i64 (x0 7)) := r1.2 7 (by omega); have q8_1 : w1.cell? ⟨w.heap.size, 8, none⟩ = some (.int .i64 (x0 8)) := r1.2 8 (by omega); have q11_1 : w1.cell? ⟨w.heap.size, 11, none⟩ = some (.int .i64 (x0 11)) := r1.2 11 (by omega)) | (go_at_call 12; (with_reducible refine (CR _).mono ?_); rintro e w2 ⟨rfl, hb2⟩; have r2 := r1.below hb2; have q7_2 : w2.cell? ⟨w.heap.size, 7, none⟩ = some (.int .i64 (x0 7)) := r2.2 7 (by omega); have q8_2 : w2.cell? ⟨w.heap.size, 8, none⟩ = some (.int .i64 (x0 8)) := r2.2 8 (by omega); have q11_2 : w2.cell? ⟨w.heap.size, 11, none⟩ = some (.int .i64 (x0 11)) := r2.2 11 (by omega)) | (go_at_call 13; (with_reducible refine (CM _).mono ?_); rintro e w3 ⟨rfl, hb3⟩; have r3 := r2.below hb3; have q7_3 : w3.cell? ⟨w.heap.size, 7, none⟩ = some (.int .i64 (x0 7)) := r3.2 7 (by omega); have q8_3 : w3.cell? ⟨w.heap.size, 8, none⟩ = some (.int .i64 (x0 8)) := r3.2 8 (by omega); have q11_3 : w3.cell? ⟨w.heap.size, 11, none⟩ = some (.int .i64 (x0 11)) := r3.2 11 (by omega)) | (go_at_call 9; (with_reducible refine (alive12_any _).mono ?_); rintro e w9 ⟨rfl, hb9⟩))
    go_ret
    refine ⟨rfl, ?_⟩
    (repeat (first | exact Below.refl _ _ | (refine b_st ?_ (by first | (simp; done) | (simp; omega))) | (refine b_al ?_ (Nat.le_refl _) _) | refine b_dn ?_ | refine b_dr ?_ | (refine b_cl ?_ (Nat.le_refl _) (by assumption))))
  have n0 : 0 ≤ a1 := by omega
  by_cases c1 : 40320 < a1
  case pos =>
    simp only [lastR, lastErr_yes a1 hm, if_pos (Or.inr c1 : a1 < 0 ∨ 40320 < a1), if_neg (show ¬ (1 : Int) = 0 by decide)] at CL CR
    have d0 : decide (a1 < 0) = false := decide_eq_false c0
    have d1 : decide (40320 < a1) = true := decide_eq_true c1
    clear hm ho c0
    go_enter Try.func4, Try.ntmps4
    go_wp2_with (first | refine wpList_load_bk (by rfl) 23 _ rfl _ _ rfl x0 _ (by first | assumption | exact RdI.new x0 _ rfl) Try.underlying23 rfl (by kernel_rfl) ?_ | (go_at_call 11; (with_reducible refine (CL _).mono ?_); rintro e w1 ⟨rfl, hb1⟩; have r1 := (RdI.new x0 23 (rfl : w.heap.size = _)).below hb1; have q7_1 : w1.cell? ⟨w.heap.size, 7, none⟩ = some (.int .i64 (x0 7)) := r1.2 7 (by omega); have q8_1 : w1.cell? ⟨w.heap.size, 8, none⟩ = some (.int .i64 (x0 8)) := r1.2 8 (by omega); have q11_1 : w1.cell? ⟨w.heap.size, 11, none⟩ = some (.int .i64 (x0 11)) := r1.2 11 (by omega)) | (go_at_call 12; (with_reducible refine (CR _).mono ?_); rintro e w2 ⟨rfl, hb2⟩; have r2 := r1.below hb2; have q7_2 : w2.cell? ⟨w.heap.size, 7, none⟩ = some (.int .i64 (x0 7)) := r2.2 7 (by omega); have q8_2 : w2.cell? ⟨w.heap.size, 8, none⟩ = some (.int .i64 (x0 8)) := r2.2 8 (by omega); have q11_2 : w2.cell? ⟨w.heap.size, 11, none⟩ = some (.int .i64 (x0 11)) := r2.2 11 (by omega)) | (go_at_call 13; (with_reducible refine (CM _).mono ?_); rintro e w3 ⟨rfl, hb3⟩; have r3 := r2.below hb3; have q7_3 : w3.cell? ⟨w.heap.size, 7, none⟩ = some (.int .i64 (x0 7)) := r3.2 7 (by omega); have q8_3 : w3.cell? ⟨w.heap.size, 8, none⟩ = some (.int .i64 (x0 8)) := r3.2 8 (by omega); have q11_3 : w3.cell? ⟨w.heap.size, 11, none⟩ = some (.int .i64 (x0 11)) := r3.2 11 (by omega)) | (go_at_call 9; (with_reducible refine (alive12_any _).mono ?_); rintro e w9 ⟨rfl, hb9⟩))
    go_ret
    refine ⟨rfl, ?_⟩
    (repeat (first | exact Below.refl _ _ | (refine b_st ?_ (by first | (simp; done) | (simp; omega))) | (refine b_al ?_ (Nat.le_refl _) _) | refine b_dn ?_ | refine b_dr ?_ | (refine b_cl ?_ (Nat.le_refl _) (by assumption))))
  have n1 : a1 ≤ 40320 := by omega
  have e8 : lastR x0 a1 (x0 8) = a1 + x0 11 - x0 8 := by unfold lastR; rw [if_pos (lastErr_ok.2 ⟨hm, n0, n1⟩)]; unfold lastV; omega
  have e0 : lastErr x0 a1 = 0 := lastErr_ok.2 ⟨hm, n0, n1⟩
  have d0 : decide (a1 < 0) = false := decide_eq_false c0
  have d1 : decide (40320 < a1) = false := decide_eq_false c1
  rw [e0] at CL CR
  rw [e8] at CL
  by_cases c2 : a1 + x0 11 - x0 7 < 0
  case pos =>
    have e7 : lastR x0 a1 (x0 7) = 0 := by unfold lastR; rw [if_pos e0]; unfold lastV; omega
    rw [e7] at CR
    have d2 : decide (a1 + x0 11 - x0 7 < 0) = true := decide_eq_true c2
    have d3 : decide (a1 + x0 11 < x0 7) = true := decide_eq_true (by omega)
    have n3 : a1 + x0 11 < x0 7 := by omega
    clear e7 e8 e0 c0 c1 c2 hm ho
    go_enter Try.func4, Try.ntmps4
    go_wp2_with (first | refine wpList_load_bk (by rfl) 23 _ rfl _ _ rfl x0 _ (by first | assumption | exact RdI.new x0 _ rfl) Try.underlying23 rfl (by kernel_rfl) ?_ | (go_at_call 11; (with_reducible refine (CL _).mono ?_); rintro e w1 ⟨rfl, hb1⟩; have r1 := (RdI.new x0 23 (rfl : w.heap.size = _)).below hb1; have q7_1 : w1.cell? ⟨w.heap.size, 7, none⟩ = some (.int .i64 (x0 7)) := r1.2 7 (by omega); have q8_1 : w1.cell? ⟨w.heap.size, 8, none⟩ = some (.int .i64 (x0 8)) := r1.2 8 (by omega); have q11_1 : w1.cell? ⟨w.heap.size, 11, none⟩ = some (.int .i64 (x0 11)) := r1.2 11 (by omega)) | (go_at_call 12; (with_reducible refine (CR _).mono ?_); rintro e w2 ⟨rfl, hb2⟩; have r2 := r1.below hb2; have q7_2 : w2.cell? ⟨w.heap.size, 7, none⟩ = some (.int .i64 (x0 7)) := r2.2 7 (by omega); have q8_2 : w2.cell? ⟨w.heap.size, 8, none⟩ = some (.int .i64 (x0 8)) := r2.2 8 (by omega); have q11_2 : w2.cell? ⟨w.heap.size, 11, none⟩ = some (.int .i64 (x0 11)) := r2.2 11 (by omega)) | (go_at_call 13; (with_reducible refine (CM _).mono ?_); rintro e w3 ⟨rfl, hb3⟩; have r3 := r2.below hb3; have q7_3 : w3.cell? ⟨w.heap.size, 7, none⟩ = some (.int .i64 (x0 7)) := r3.2 7 (by omega); have q8_3 : w3.cell? ⟨w.heap.size, 8, none⟩ = some (.int .i64 (x0 8)) := r3.2 8 (by omega); have q11_3 : w3.cell? ⟨w.heap.size, 11, none⟩ = some (.int .i64 (x0 11)) := r3.2 11 (by omega)) | (go_at_call 9; (with_reducible refine (alive12_any _).mono ?_); rintro e w9 ⟨rfl, hb9⟩))
    go_ret
    refine ⟨rfl, ?_⟩
    (repeat (first | exact Below.refl _ _ | (refine b_st ?_ (by first | (simp; done) | (simp; omega))) | (refine b_al ?_ (Nat.le_refl _) _) | refine b_dn ?_ | refine b_dr ?_ | (refine b_cl ?_ (Nat.le_refl _) (by assumption))))
  have e7 : lastR x0 a1 (x0 7) = a1 + x0 11 - x0 7 := by unfold lastR; rw [if_pos e0]; unfold lastV; omega
  rw [e7] at CR
  have d2 : decide (a1 + x0 11 - x0 7 < 0) = false := decide_eq_false c2
  have d3 : decide (a1 + x0 11 < x0 7) = false := decide_eq_false (by omega)
  have n3 : x0 7 ≤ a1 + x0 11 := by omega
  clear e7 e8 e0 c0 c1 c2 hm ho
  go_enter Try.func4, Try.ntmps4
  go_wp2_with (first | refine wpList_load_bk (by rfl) 23 _ rfl _ _ rfl x0 _ (by first | assumption | exact RdI.new x0 _ rfl) Try.underlying23 rfl (by kernel_rfl) ?_ | (go_at_call 11; (with_reducible refine (CL _).mono ?_); rintro e w1 ⟨rfl, hb1⟩; have r1 := (RdI.new x0 23 (rfl : w.heap.size = _)).below hb1; have q7_1 : w1.cell? ⟨w.heap.size, 7, none⟩ = some (.int .i64 (x0 7)) := r1.2 7 (by omega); have q8_1 : w1.cell? ⟨w.heap.size, 8, none⟩ = some (.int .i64 (x0 8)) := r1.2 8 (by omega); have q11_1 : w1.cell? ⟨w.heap.size, 11, none⟩ = some (.int .i64 (x0 11)) := r1.2 11 (by omega)) | (go_at_call 12; (with_reducible refine (CR _).mono ?_); rintro e w2 ⟨rfl, hb2⟩; have r2 := r1.below hb2; have q7_2 : w2.cell? ⟨w.heap.size, 7, none⟩ = some (.int .i64 (x0 7)) := r2.2 7 (by omega); have q8_2 : w2.cell? ⟨w.heap.size, 8, none⟩ = some (.int .i64 (x0 8)) := r2.2 8 (by omega); have q11_2 : w2.cell? ⟨w.heap.size, 11, none⟩ = some (.int .i64 (x0 11)) := r2.2 11 (by omega)) | (go_at_call 13; (with_reducible refine (CM _).mono ?_); rintro e w3 ⟨rfl, hb3⟩; have r3 := r2.below hb3; have q7_3 : w3.cell? ⟨w.heap.size, 7, none⟩ = some (.int .i64 (x0 7)) := r3.2 7 (by omega); have q8_3 : w3.cell? ⟨w.heap.size, 8, none⟩ = some (.int .i64 (x0 8)) := r3.2 8 (by omega); have q11_3 : w3.cell? ⟨w.heap.size, 11, none⟩ = some (.int .i64 (x0 11)) := r3.2 11 (by omega)) | (go_at_call 9; (with_reducible refine (alive12_any _).mono ?_); rintro e w9 ⟨rfl, hb9⟩))
  go_ret
  refine ⟨rfl, ?_⟩
  (repeat (first | exact Below.refl _ _ | (refine b_st ?_ (by first | (simp; done) | (simp; omega))) | (refine b_al ?_ (Nat.le_refl _) _) | refine b_dn ?_ | refine b_dr ?_ | (refine b_cl ?_ (Nat.le_refl _) (by assumption))))

set_option maxRecDepth 100000 in
theorem lifted (os : Os) (started : os.Started) (H : Type) (enc : TypeId × Value → H) :
    ReturnsInHanded {} Try.checked os 4 .any (Rows.spellLatestSpec.pre6 enc Try.prog Try.f4 Rows.spellLatestRow.domain false) (Rows.spellLatestSpec.post enc Try.prog Try.f4 false true false false) := by
  refine returnsInHanded_of_change (C := Try.checked) own started (by kernel_rfl) Try.func4
    (ChangeSpec.witness6 (enc := enc) (C := Try.checked) false ⟨#[], #[.agg #[.int .i64 0, .int .i64 0, .int .i64 0, .int .i64 0, .int .i64 0, .int .i64 0, .int .i64 0, .int .i64 0, .int .i64 0, .int .i64 0, .int .i64 0, .int .i64 0, .int .i64 0, .int .i64 0, .int .i64 0, .int .i64 0, .int .i64 0, .int .i64 0, .int .i64 0], .int .i64 0], []⟩ 8 (by kernel_rfl) (by kernel_rfl) (by kernel_rfl) (by kernel_rfl)) ?_
  intro W base args ds gs before hval0 hW hcnd _
  have hval : ∀ (j : Nat) t v, Try.f4.params[j]? = some t → args[j]? = some v → Value.okWide Try.prog W .any base t v := hval0
  have hW' := hW
  obtain ⟨p, q, hA0, hV, rfl, hfz, hnd⟩ := hW
  have hA : DataW.TrodAll enc Try.prog W 0 (fun _ => true) true Try.f4.params.toList args.toList ds p := hA0
  rw [Try.params4] at hA hval
  obtain ⟨v0, vs0, d0, ds0, p0, q0, hargs, rfl, rfl, h0, r0⟩ := trodAll_cons hA
  obtain ⟨v1, vs1, d1, ds1, p1, q1, rfl, rfl, rfl, h1, r1⟩ := trodAll_cons r0
  obtain ⟨rfl, rfl, rfl⟩ := trodAll_nil r1
  obtain rfl : args = #[v0, v1] := by cases args; simp_all
  obtain ⟨rfl, rfl⟩ := trodVars_none hV
  have k0 := h0
  have lt0 : ∀ x ∈ p0, x.block < W.heap.size := by obtain ⟨m, hm⟩ := k0; exact DataW.trod_lt m _ _ _ hm
  obtain ⟨x0, rfl⟩ := open_book (hval 0 23 v0 rfl rfl) h0
  obtain ⟨a1, rfl, rfl, rfl, w1⟩ := open_int Try.underlying3 (hval 1 3 v1 rfl rfl) h1
  clear hA0 hval0
  refine (walk W x0 a1 w1).mono fun e W' ⟨he, bel⟩ => ?_
  subst he
  exact ⟨_, rfl, _, _, _, [], _, [], hW', trodAll_mk1 (shut_bool Try.underlying4 _), (trodAll_cons_mk (Below.trod laidOut (by kernel_rfl) (of_decide_eq_true (by kernel_rfl)) k0 bel lt0) (trodAll_cons_mk (shut_int Try.underlying3 w1) trodAll_mk0)), rfl, bel.frame _, fun h => by cases h⟩

theorem over : Rows.spellLatestRow.holds Try.pinned (OpenSpec.ofChange Rows.spellLatestSpec) :=
  OpenClaim.holds_of_wide 4 Try.f4 rfl rfl rfl rfl rfl rfl rfl ⟨rfl, rfl, rfl, rfl, rfl⟩ rfl rfl rfl rfl rfl (by kernel_rfl) Try.func4 (by kernel_rfl)
    (of_decide_eq_true (by kernel_rfl)) (by unfold Func.isWrapper; first | (rw [if_pos (by decide +kernel)]; kernel_rfl) | (rw [if_neg (by decide +kernel)]; exact ⟨rfl, rfl⟩))
    (fun os started H enc _ => lifted os started H enc)

theorem proved : Rows.SpellLatestSaid := over
#print axioms proved
end Go.Proofs.Ytngkakglafcpiaa.spellLatest
