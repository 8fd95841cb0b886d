/- A rest that begins with the last minute that may be ends with the round, one that begins in time for a regular one is not reduced; for any book and any minute. Conditions: none. -/
import Derived.Test.YtngkakglafcpiaaRows
import Derived.Test.YtngkakglafcpiaaBase
import Derived.Test.YtngkakglafcpiaaBookRow
import Derived.Test.YtngkakglafcpiaaBookLeaf
import Derived.Test.YtngkakglafcpiaaBookNum
import Derived.Test.YtngkakglafcpiaaBookBel
import Derived.Test.YtngkakglafcpiaaBookOrd
import Derived.Test.YtngkakglafcpiaaBookLim
import Derived.Test.YtngkakglafcpiaaBookMayR
import Derived.Test.YtngkakglafcpiaaBookLaws
import Derived.Test.YtngkakglafcpiaaBookOpen
import Derived.Test.YtngkakglafcpiaaBookAlive
import Derived.Test.YtngkakglafcpiaaIvalLeaf
import Derived.Test.YtngkakglafcpiaaBox
import Derived.Test.YtngkakglafcpiaaSpellMath
import Derived.Test.YtngkakglafcpiaaSpellLeaf
import Derived.Test.YtngkakglafcpiaaSpellSt
import Derived.Test.YtngkakglafcpiaaSpellOf
import Derived.Test.YtngkakglafcpiaaSpellOfR
import Derived.Test.YtngkakglafcpiaaSpellAlive
import Derived.Test.YtngkakglafcpiaaSpellLaws
import Derived.Test.YtngkakglafcpiaaSpellOpen
import Derived.WalkKit
import Derived.WalkSmall
import Derived.WalkSpells
import Derived.ProofKit
import Derived.OpenShut
import Derived.ShutString
import Derived.ChangeOld
import Derived.Below
import Derived.Lib.Hide
import Derived.OwnWalk
import Derived.BigQuiet
import Derived.Outline
import Derived.Deep.DeepCutAuto
import Derived.Deep.RegionHeld3
import Derived.Maps.RangeWalk
namespace Go.Proofs.Ytngkakglafcpiaa.spellBegins
open Go.ChangeShapes Go.WideShapes Go.ChangeAt Go.RowKit
open Go.ChangeMaps (open_string shut_string)
set_option linter.unusedVariables false

theorem own : ownKnob Try.prog.godebug = none := by kernel_rfl
theorem laidOut : laidOutB Try.prog = true := by kernel_rfl

set_option maxRecDepth 100000 in
set_option maxHeartbeats 8000000 in
open Classical in
theorem walk (w : World) (x0 : Nat → Int) (a1 : Int) (w1 : (Lit.int .i64 a1).wf = true) :
    Calls Try.prog 6 #[.agg (bk x0), .int .i64 a1] w fun e w' => e = .returned (.bool true) ∧ Below w.heap.size w w' := by
  have r0 : RdI (w.alloc (.cells (bk x0) 23)) w.heap.size 0 x0 := RdI.new x0 23 rfl
  have B0 : Below w.heap.size w (w.alloc (.cells (bk x0) 23)) := b_al (Below.refl _ _) (Nat.le_refl _) _
  have CL := fun W => latest_any x0 a1 W
  have CR := fun W => regular_any x0 a1 W
  have z7 := bk_at x0 7 (by omega)
  have z8 := bk_at x0 8 (by omega)
  have z11 := bk_at x0 11 (by omega)
  by_cases he : lastErr x0 a1 = 0
  case neg =>
    simp only [lastR, if_neg he] at CL CR
    generalize lastErr x0 a1 = er at CL CR he
    have h1 : (er != 0) = true := by simpa using he
    have h2 : (er == 0) = false := by simpa using he
    clear he
    go_enter Try.func6, Try.ntmps6
    go_wp2_with (first | refine wpList_load_bk (by rfl) 23 _ rfl _ _ rfl x0 _ (by assumption) Try.underlying23 rfl (by kernel_rfl) ?_ | (go_at_call 11; (with_reducible refine (CL _).mono ?_); rintro e w1 ⟨rfl, hb1⟩; have r1 := r0.below hb1; have B1 := b_cl B0 (Nat.le_refl _) hb1; have q7_1 : w1.cell? ⟨w.heap.size, 7, none⟩ = some (.int .i64 (x0 7)) := r1.2 7 (by omega); have q8_1 : w1.cell? ⟨w.heap.size, 8, none⟩ = some (.int .i64 (x0 8)) := r1.2 8 (by omega); have q11_1 : w1.cell? ⟨w.heap.size, 11, none⟩ = some (.int .i64 (x0 11)) := r1.2 11 (by omega)) | (go_at_call 12; (with_reducible refine (CR _).mono ?_); rintro e w2 ⟨rfl, hb2⟩; have r2 := r1.below hb2; have B2 := b_cl B1 (Nat.le_refl _) hb2; have q7_2 : w2.cell? ⟨w.heap.size, 7, none⟩ = some (.int .i64 (x0 7)) := r2.2 7 (by omega); have q8_2 : w2.cell? ⟨w.heap.size, 8, none⟩ = some (.int .i64 (x0 8)) := r2.2 8 (by omega); have q11_2 : w2.cell? ⟨w.heap.size, 11, none⟩ = some (.int .i64 (x0 11)) := r2.2 11 (by omega)) | (go_at_call 9; (with_reducible refine (alive12_any _).mono ?_); rintro e w9 ⟨rfl, hb9⟩))
    go_ret
    exact ⟨rfl, b_cl (by assumption) (Nat.le_refl _) hb9⟩
  obtain ⟨hm, n0, n1⟩ := lastErr_ok.1 he
  have ho := may_ord hm
  have r7 := may_time hm 7 (by omega)
  have g8 := hm.1 8 (by omega)
  have g7 := hm.1 7 (by omega)
  rw [lim_time (by omega)] at g8 g7
  have r11 := may_time hm 11 (by omega)
  obtain ⟨la, hla⟩ : ∃ la, lastR x0 a1 (x0 8) = la := ⟨_, rfl⟩
  obtain ⟨lc, hlc⟩ : ∃ lc, lastR x0 a1 (x0 7) = lc := ⟨_, rfl⟩
  have ha : la = a1 + x0 11 - x0 8 := by rw [← hla]; unfold lastR; rw [if_pos he]; unfold lastV; omega
  have hc : lc = max 0 (a1 + x0 11 - x0 7) := by rw [← hlc]; unfold lastR; rw [if_pos he]; rfl
  rw [he, hla] at CL
  rw [he, hlc] at CR
  clear he hla hlc
  have k1 : la + x0 8 ≤ a1 + x0 11 := by omega
  have k2 : a1 + x0 11 ≤ la + x0 8 := by omega
  have k3 : 0 ≤ lc := by omega
  have k4 : lc ≤ 80640 := by omega
  have k5 : ((la + x0 8) != (a1 + x0 11)) = false := by rw [show la + x0 8 = a1 + x0 11 by omega]; simp
  have k6 : decide (la < a1) = false := decide_eq_false (by omega)
  have k7 : a1 ≤ la := by omega
  have k8 : decide (a1 ≤ la) = true := decide_eq_true (by omega)
  by_cases c0 : 40320 - x0 8 < la
  case pos =>
    have d0 : decide (40320 - x0 8 < la) = true := decide_eq_true c0
    clear hm ho ha hc
    go_enter Try.func6, Try.ntmps6
    go_wp2_with (first | refine wpList_load_bk (by rfl) 23 _ rfl _ _ rfl x0 _ (by assumption) Try.underlying23 rfl (by kernel_rfl) ?_ | (go_at_call 11; (with_reducible refine (CL _).mono ?_); rintro e w1 ⟨rfl, hb1⟩; have r1 := r0.below hb1; have B1 := b_cl B0 (Nat.le_refl _) hb1; have q7_1 : w1.cell? ⟨w.heap.size, 7, none⟩ = some (.int .i64 (x0 7)) := r1.2 7 (by omega); have q8_1 : w1.cell? ⟨w.heap.size, 8, none⟩ = some (.int .i64 (x0 8)) := r1.2 8 (by omega); have q11_1 : w1.cell? ⟨w.heap.size, 11, none⟩ = some (.int .i64 (x0 11)) := r1.2 11 (by omega)) | (go_at_call 12; (with_reducible refine (CR _).mono ?_); rintro e w2 ⟨rfl, hb2⟩; have r2 := r1.below hb2; have B2 := b_cl B1 (Nat.le_refl _) hb2; have q7_2 : w2.cell? ⟨w.heap.size, 7, none⟩ = some (.int .i64 (x0 7)) := r2.2 7 (by omega); have q8_2 : w2.cell? ⟨w.heap.size, 8, none⟩ = some (.int .i64 (x0 8)) := r2.2 8 (by omega); have q11_2 : w2.cell? ⟨w.heap.size, 11, none⟩ = some (.int .i64 (x0 11)) := r2.2 11 (by omega)) | (go_at_call 9; (with_reducible refine (alive12_any _).mono ?_); rintro e w9 ⟨rfl, hb9⟩))
    go_ret
    exact ⟨rfl, b_cl (by assumption) (Nat.le_refl _) hb9⟩
  have d0 : decide (40320 - x0 8 < la) = false := decide_eq_false c0
  have m0 : la + x0 8 ≤ 40320 := by omega
  have m0' : la ≤ 40320 - x0 8 := by omega
  clear c0
  have CO1 := fun W => of_good x0 la (la + x0 8) a1 false false W hm (by omega) (by omega) m0 n0 k7
  have hV1 : (ofV x0 la (la + x0 8) a1 false false).daily = true := by show lastB (la + x0 8 - la) (x0 8) = true; unfold lastB; exact decide_eq_true (by omega)
  generalize ofV x0 la (la + x0 8) a1 false false = V1 at CO1 hV1
  replace hV1 := Lib.hid hV1
  by_cases c1 : lc < a1
  case pos =>
    have d1 : decide (lc < a1) = true := decide_eq_true c1
    clear hm ho ha hc
    go_enter Try.func6, Try.ntmps6
    go_wp2_with (first | refine wpList_load_bk (by rfl) 23 _ rfl _ _ rfl x0 _ (by assumption) Try.underlying23 rfl (by kernel_rfl) ?_ | (go_at_call 11; (with_reducible refine (CL _).mono ?_); rintro e w1 ⟨rfl, hb1⟩; have r1 := r0.below hb1; have B1 := b_cl B0 (Nat.le_refl _) hb1; have q7_1 : w1.cell? ⟨w.heap.size, 7, none⟩ = some (.int .i64 (x0 7)) := r1.2 7 (by omega); have q8_1 : w1.cell? ⟨w.heap.size, 8, none⟩ = some (.int .i64 (x0 8)) := r1.2 8 (by omega); have q11_1 : w1.cell? ⟨w.heap.size, 11, none⟩ = some (.int .i64 (x0 11)) := r1.2 11 (by omega)) | (go_at_call 12; (with_reducible refine (CR _).mono ?_); rintro e w2 ⟨rfl, hb2⟩; have r2 := r1.below hb2; have B2 := b_cl B1 (Nat.le_refl _) hb2; have q7_2 : w2.cell? ⟨w.heap.size, 7, none⟩ = some (.int .i64 (x0 7)) := r2.2 7 (by omega); have q8_2 : w2.cell? ⟨w.heap.size, 8, none⟩ = some (.int .i64 (x0 8)) := r2.2 8 (by omega); have q11_2 : w2.cell? ⟨w.heap.size, 11, none⟩ = some (.int .i64 (x0 11)) := r2.2 11 (by omega)) | (go_at_call 7; (with_reducible refine (CO1 _).mono ?_); rintro e w3 ⟨rfl, hb3⟩; have r3 := r2.below hb3; have B3 := b_cl B2 (Nat.le_refl _) hb3; have q7_3 : w3.cell? ⟨w.heap.size, 7, none⟩ = some (.int .i64 (x0 7)) := r3.2 7 (by omega); have q8_3 : w3.cell? ⟨w.heap.size, 8, none⟩ = some (.int .i64 (x0 8)) := r3.2 8 (by omega); have q11_3 : w3.cell? ⟨w.heap.size, 11, none⟩ = some (.int .i64 (x0 11)) := r3.2 11 (by omega)) | (refine wpList_store_box rfl 29 _ _ rfl (w3.heap.size) (wo V1) rfl rfl 29 (wo .zero) (Bx.new (W := w3) 29 (wo .zero) rfl) (by kernel_rfl) rfl (wo_one _) (fun w4 u4 => ?_); have r4 := (r3.alloc _).upd u4 (Nat.ne_of_lt r3.1); have B4 := (b_al B3 (Nat.le_refl _) _).trans (u4.bel _ B3.size); have q7_4 : w4.cell? ⟨w.heap.size, 7, none⟩ = some (.int .i64 (x0 7)) := r4.2 7 (by omega); have q8_4 : w4.cell? ⟨w.heap.size, 8, none⟩ = some (.int .i64 (x0 8)) := r4.2 8 (by omega); have q11_4 : w4.cell? ⟨w.heap.size, 11, none⟩ = some (.int .i64 (x0 11)) := r4.2 11 (by omega); have v4 : w4.cell? ⟨w3.heap.size, 3, none⟩ = some (.bool true) := (by have : w4.cell? ⟨w3.heap.size, 3, none⟩ = some (.bool V1.daily) := u4.box.cell rfl; rwa [hV1.out] at this)) | (go_at_call 9; (with_reducible refine (alive12_any _).mono ?_); rintro e w9 ⟨rfl, hb9⟩))
    go_ret
    exact ⟨rfl, b_cl (by assumption) (Nat.le_refl _) hb9⟩
  have d1 : decide (lc < a1) = false := decide_eq_false c1
  have m1 : a1 ≤ lc := by omega
  clear c1
  by_cases c2 : lc + x0 7 = a1 + x0 11
  case neg =>
    have d2 : ((lc + x0 7) != (a1 + x0 11)) = true := by simpa using c2
    clear hm ho ha hc c2
    go_enter Try.func6, Try.ntmps6
    go_wp2_with (first | refine wpList_load_bk (by rfl) 23 _ rfl _ _ rfl x0 _ (by assumption) Try.underlying23 rfl (by kernel_rfl) ?_ | (go_at_call 11; (with_reducible refine (CL _).mono ?_); rintro e w1 ⟨rfl, hb1⟩; have r1 := r0.below hb1; have B1 := b_cl B0 (Nat.le_refl _) hb1; have q7_1 : w1.cell? ⟨w.heap.size, 7, none⟩ = some (.int .i64 (x0 7)) := r1.2 7 (by omega); have q8_1 : w1.cell? ⟨w.heap.size, 8, none⟩ = some (.int .i64 (x0 8)) := r1.2 8 (by omega); have q11_1 : w1.cell? ⟨w.heap.size, 11, none⟩ = some (.int .i64 (x0 11)) := r1.2 11 (by omega)) | (go_at_call 12; (with_reducible refine (CR _).mono ?_); rintro e w2 ⟨rfl, hb2⟩; have r2 := r1.below hb2; have B2 := b_cl B1 (Nat.le_refl _) hb2; have q7_2 : w2.cell? ⟨w.heap.size, 7, none⟩ = some (.int .i64 (x0 7)) := r2.2 7 (by omega); have q8_2 : w2.cell? ⟨w.heap.size, 8, none⟩ = some (.int .i64 (x0 8)) := r2.2 8 (by omega); have q11_2 : w2.cell? ⟨w.heap.size, 11, none⟩ = some (.int .i64 (x0 11)) := r2.2 11 (by omega)) | (go_at_call 7; (with_reducible refine (CO1 _).mono ?_); rintro e w3 ⟨rfl, hb3⟩; have r3 := r2.below hb3; have B3 := b_cl B2 (Nat.le_refl _) hb3; have q7_3 : w3.cell? ⟨w.heap.size, 7, none⟩ = some (.int .i64 (x0 7)) := r3.2 7 (by omega); have q8_3 : w3.cell? ⟨w.heap.size, 8, none⟩ = some (.int .i64 (x0 8)) := r3.2 8 (by omega); have q11_3 : w3.cell? ⟨w.heap.size, 11, none⟩ = some (.int .i64 (x0 11)) := r3.2 11 (by omega)) | (refine wpList_store_box rfl 29 _ _ rfl (w3.heap.size) (wo V1) rfl rfl 29 (wo .zero) (Bx.new (W := w3) 29 (wo .zero) rfl) (by kernel_rfl) rfl (wo_one _) (fun w4 u4 => ?_); have r4 := (r3.alloc _).upd u4 (Nat.ne_of_lt r3.1); have B4 := (b_al B3 (Nat.le_refl _) _).trans (u4.bel _ B3.size); have q7_4 : w4.cell? ⟨w.heap.size, 7, none⟩ = some (.int .i64 (x0 7)) := r4.2 7 (by omega); have q8_4 : w4.cell? ⟨w.heap.size, 8, none⟩ = some (.int .i64 (x0 8)) := r4.2 8 (by omega); have q11_4 : w4.cell? ⟨w.heap.size, 11, none⟩ = some (.int .i64 (x0 11)) := r4.2 11 (by omega); have v4 : w4.cell? ⟨w3.heap.size, 3, none⟩ = some (.bool true) := (by have : w4.cell? ⟨w3.heap.size, 3, none⟩ = some (.bool V1.daily) := u4.box.cell rfl; rwa [hV1.out] at this)) | (go_at_call 9; (with_reducible refine (alive12_any _).mono ?_); rintro e w9 ⟨rfl, hb9⟩))
    go_ret
    exact ⟨rfl, b_cl (by assumption) (Nat.le_refl _) hb9⟩
  have d2 : ((lc + x0 7) != (a1 + x0 11)) = false := by rw [c2]; simp
  have m2 : lc + x0 7 ≤ 40320 := by omega
  have m2' : lc ≤ 40320 - x0 7 := by omega
  have d3 : decide (40320 - x0 7 < lc) = false := decide_eq_false (by omega)
  have CO2 := fun W => of_good x0 lc (lc + x0 7) a1 false false W hm (by omega) k3 m2 n0 m1
  have hV2 : (ofV x0 lc (lc + x0 7) a1 false false).daily = true ∧ (ofV x0 lc (lc + x0 7) a1 false false).red = false := by
    constructor
    · show lastB (lc + x0 7 - lc) (x0 8) = true; unfold lastB; exact decide_eq_true (by omega)
    · show (lastB (lc + x0 7 - lc) (x0 8) && !lastB (lc + x0 7 - lc) (x0 13) && !false && !lastB (min (lc + x0 7) (a1 + x0 11) - lc) (x0 7)) = false
      have : lastB (min (lc + x0 7) (a1 + x0 11) - lc) (x0 7) = true := by unfold lastB; exact decide_eq_true (by omega)
      rw [this]; simp
  generalize ofV x0 lc (lc + x0 7) a1 false false = V2 at CO2 hV2
  replace hV2 := Lib.hid hV2
  clear hm ho ha hc c2
  go_enter Try.func6, Try.ntmps6
  go_wp2_with (first | refine wpList_load_bk (by rfl) 23 _ rfl _ _ rfl x0 _ (by assumption) Try.underlying23 rfl (by kernel_rfl) ?_ | (go_at_call 11; (with_reducible refine (CL _).mono ?_); rintro e w1 ⟨rfl, hb1⟩; have r1 := r0.below hb1; have B1 := b_cl B0 (Nat.le_refl _) hb1; have q7_1 : w1.cell? ⟨w.heap.size, 7, none⟩ = some (.int .i64 (x0 7)) := r1.2 7 (by omega); have q8_1 : w1.cell? ⟨w.heap.size, 8, none⟩ = some (.int .i64 (x0 8)) := r1.2 8 (by omega); have q11_1 : w1.cell? ⟨w.heap.size, 11, none⟩ = some (.int .i64 (x0 11)) := r1.2 11 (by omega)) | (go_at_call 12; (with_reducible refine (CR _).mono ?_); rintro e w2 ⟨rfl, hb2⟩; have r2 := r1.below hb2; have B2 := b_cl B1 (Nat.le_refl _) hb2; have q7_2 : w2.cell? ⟨w.heap.size, 7, none⟩ = some (.int .i64 (x0 7)) := r2.2 7 (by omega); have q8_2 : w2.cell? ⟨w.heap.size, 8, none⟩ = some (.int .i64 (x0 8)) := r2.2 8 (by omega); have q11_2 : w2.cell? ⟨w.heap.size, 11, none⟩ = some (.int .i64 (x0 11)) := r2.2 11 (by omega)) | (go_at_call 7; (with_reducible refine (CO1 _).mono ?_); rintro e w3 ⟨rfl, hb3⟩; have r3 := r2.below hb3; have B3 := b_cl B2 (Nat.le_refl _) hb3; have q7_3 : w3.cell? ⟨w.heap.size, 7, none⟩ = some (.int .i64 (x0 7)) := r3.2 7 (by omega); have q8_3 : w3.cell? ⟨w.heap.size, 8, none⟩ = some (.int .i64 (x0 8)) := r3.2 8 (by omega); have q11_3 : w3.cell? ⟨w.heap.size, 11, none⟩ = some (.int .i64 (x0 11)) := r3.2 11 (by omega)) | (refine wpList_store_box rfl 29 _ _ rfl (w3.heap.size) (wo V1) rfl rfl 29 (wo .zero) (Bx.new (W := w3) 29 (wo .zero) rfl) (by kernel_rfl) rfl (wo_one _) (fun w4 u4 => ?_); have r4 := (r3.alloc _).upd u4 (Nat.ne_of_lt r3.1); have B4 := (b_al B3 (Nat.le_refl _) _).trans (u4.bel _ B3.size); have q7_4 : w4.cell? ⟨w.heap.size, 7, none⟩ = some (.int .i64 (x0 7)) := r4.2 7 (by omega); have q8_4 : w4.cell? ⟨w.heap.size, 8, none⟩ = some (.int .i64 (x0 8)) := r4.2 8 (by omega); have q11_4 : w4.cell? ⟨w.heap.size, 11, none⟩ = some (.int .i64 (x0 11)) := r4.2 11 (by omega); have v4 : w4.cell? ⟨w3.heap.size, 3, none⟩ = some (.bool true) := (by have : w4.cell? ⟨w3.heap.size, 3, none⟩ = some (.bool V1.daily) := u4.box.cell rfl; rwa [hV1.out] at this)) | (go_at_call 7; (with_reducible refine (CO2 _).mono ?_); rintro e w5 ⟨rfl, hb5⟩; have r5 := r4.below hb5; have B5 := b_cl B4 (Nat.le_refl _) hb5; have q7_5 : w5.cell? ⟨w.heap.size, 7, none⟩ = some (.int .i64 (x0 7)) := r5.2 7 (by omega); have q8_5 : w5.cell? ⟨w.heap.size, 8, none⟩ = some (.int .i64 (x0 8)) := r5.2 8 (by omega); have q11_5 : w5.cell? ⟨w.heap.size, 11, none⟩ = some (.int .i64 (x0 11)) := r5.2 11 (by omega)) | (refine wpList_store_box rfl 29 _ _ rfl (w5.heap.size) (wo V2) rfl rfl 29 (wo .zero) (Bx.new (W := w5) 29 (wo .zero) rfl) (by kernel_rfl) rfl (wo_one _) (fun w6 u6 => ?_); have r6 := (r5.alloc _).upd u6 (Nat.ne_of_lt r5.1); have B6 := (b_al B5 (Nat.le_refl _) _).trans (u6.bel _ B5.size); have q7_6 : w6.cell? ⟨w.heap.size, 7, none⟩ = some (.int .i64 (x0 7)) := r6.2 7 (by omega); have q8_6 : w6.cell? ⟨w.heap.size, 8, none⟩ = some (.int .i64 (x0 8)) := r6.2 8 (by omega); have q11_6 : w6.cell? ⟨w.heap.size, 11, none⟩ = some (.int .i64 (x0 11)) := r6.2 11 (by omega); have v6 : w6.cell? ⟨w5.heap.size, 3, none⟩ = some (.bool true) := (by have : w6.cell? ⟨w5.heap.size, 3, none⟩ = some (.bool V2.daily) := u6.box.cell rfl; rwa [hV2.out.1] at this); have y6 : w6.cell? ⟨w5.heap.size, 4, none⟩ = some (.bool false) := (by have : w6.cell? ⟨w5.heap.size, 4, none⟩ = some (.bool V2.red) := u6.box.cell rfl; rwa [hV2.out.2] at this)) | (go_at_call 9; (with_reducible refine (alive12_any _).mono ?_); rintro e w9 ⟨rfl, hb9⟩))
  go_ret
  exact ⟨rfl, b_cl (by assumption) (Nat.le_refl _) hb9⟩

set_option maxRecDepth 100000 in
theorem lifted (os : Os) (started : os.Started) (H : Type) (enc : TypeId × Value → H) :
    ReturnsInHanded {} Try.checked os 6 .any (Rows.spellBeginsSpec.pre6 enc Try.prog Try.f6 Rows.spellBeginsRow.domain false) (Rows.spellBeginsSpec.post enc Try.prog Try.f6 false true false false) := by
  refine returnsInHanded_of_change (C := Try.checked) own started (by kernel_rfl) Try.func6
    (ChangeSpec.witness6 (enc := enc) (C := Try.checked) false ⟨#[], #[.agg #[.int .i64 0, .int .i64 0, .int .i64 0, .int .i64 0, .int .i64 0, .int .i64 0, .int .i64 0, .int .i64 0, .int .i64 0, .int .i64 0, .int .i64 0, .int .i64 0, .int .i64 0, .int .i64 0, .int .i64 0, .int .i64 0, .int .i64 0, .int .i64 0, .int .i64 0], .int .i64 0], []⟩ 8 (by kernel_rfl) (by kernel_rfl) (by kernel_rfl) (by kernel_rfl)) ?_
  intro W base args ds gs before hval0 hW hcnd _
  have hval : ∀ (j : Nat) t v, Try.f6.params[j]? = some t → args[j]? = some v → Value.okWide Try.prog W .any base t v := hval0
  have hW' := hW
  obtain ⟨p, q, hA0, hV, rfl, hfz, hnd⟩ := hW
  have hA : DataW.TrodAll enc Try.prog W 0 (fun _ => true) true Try.f6.params.toList args.toList ds p := hA0
  rw [Try.params6] at hA hval
  obtain ⟨v0, vs0, d0, ds0, p0, q0, hargs, rfl, rfl, h0, r0⟩ := trodAll_cons hA
  obtain ⟨v1, vs1, d1, ds1, p1, q1, rfl, rfl, rfl, h1, r1⟩ := trodAll_cons r0
  obtain ⟨rfl, rfl, rfl⟩ := trodAll_nil r1
  obtain rfl : args = #[v0, v1] := by cases args; simp_all
  obtain ⟨rfl, rfl⟩ := trodVars_none hV
  have k0 := h0
  have lt0 : ∀ x ∈ p0, x.block < W.heap.size := by obtain ⟨m, hm⟩ := k0; exact DataW.trod_lt m _ _ _ hm
  obtain ⟨x0, rfl⟩ := open_book (hval 0 23 v0 rfl rfl) h0
  obtain ⟨a1, rfl, rfl, rfl, w1⟩ := open_int Try.underlying3 (hval 1 3 v1 rfl rfl) h1
  clear hA0 hval0
  refine (walk W x0 a1 w1).mono fun e W' ⟨he, bel⟩ => ?_
  subst he
  exact ⟨_, rfl, _, _, _, [], _, [], hW', trodAll_mk1 (shut_bool Try.underlying4 _), (trodAll_cons_mk (Below.trod laidOut (by kernel_rfl) (of_decide_eq_true (by kernel_rfl)) k0 bel lt0) (trodAll_cons_mk (shut_int Try.underlying3 w1) trodAll_mk0)), rfl, bel.frame _, fun h => by cases h⟩

theorem over : Rows.spellBeginsRow.holds Try.pinned (OpenSpec.ofChange Rows.spellBeginsSpec) :=
  OpenClaim.holds_of_wide 6 Try.f6 rfl rfl rfl rfl rfl rfl rfl ⟨rfl, rfl, rfl, rfl, rfl⟩ rfl rfl rfl rfl rfl (by kernel_rfl) Try.func6 (by kernel_rfl)
    (of_decide_eq_true (by kernel_rfl)) (by unfold Func.isWrapper; first | (rw [if_pos (by decide +kernel)]; kernel_rfl) | (rw [if_neg (by decide +kernel)]; exact ⟨rfl, rfl⟩))
    (fun os started H enc _ => lifted os started H enc)

theorem proved : Rows.SpellBeginsSaid := over
#print axioms proved
end Go.Proofs.Ytngkakglafcpiaa.spellBegins
