/- What is run in two parts is run as one; a meter may be behind each minute; rest breaks nothing. Conditions: none. -/
import Derived.Test.YteepjpegojlihaaRows
import Derived.Test.YteepjpegojlihaaBase
import Derived.Test.YteepjpegojlihaaRow
import Derived.Test.YteepjpegojlihaaBookRow
import Derived.Test.YteepjpegojlihaaBookLim
import Derived.Test.YteepjpegojlihaaBookMayR
import Derived.Test.YteepjpegojlihaaBookLaws
import Derived.Test.YteepjpegojlihaaBookOpen
import Derived.Test.YteepjpegojlihaaBookAlive
import Derived.Test.YteepjpegojlihaaRecMath
import Derived.Test.YteepjpegojlihaaRecHeap
import Derived.Test.YteepjpegojlihaaBox
import Derived.Test.YteepjpegojlihaaSpellMath
import Derived.Test.YteepjpegojlihaaMeterMath
import Derived.Test.YteepjpegojlihaaMeterRun
import Derived.Test.YteepjpegojlihaaMeterStep
import Derived.Test.YteepjpegojlihaaMeterChk
import Derived.Test.YteepjpegojlihaaMeterMayR
import Derived.Test.YteepjpegojlihaaMeterRRun
import Derived.Test.YteepjpegojlihaaMeterOpen
import Derived.Test.YteepjpegojlihaaMeterLaws
import Derived.Test.YteepjpegojlihaaMeterAlive
import Derived.Test.YteepjpegojlihaaMeterBit
import Derived.Test.YteepjpegojlihaaIntsApp
import Derived.WalkKit
import Derived.WalkSmall
import Derived.WalkSpells
import Derived.ProofKit
import Derived.OpenShut
import Derived.ShutString
import Derived.ChangeOld
import Derived.Below
import Derived.Lib.Hide
import Derived.OwnWalk
import Derived.BigQuiet
import Derived.Outline
import Derived.Great.BuildSlice
import Derived.Maps.RangeWalk
import Derived.Deep.DeepCutAuto
import Derived.OrdersHeld
import Derived.Deep.RegionHeld3
namespace Go.Proofs.Yteepjpegojlihaa.meterParts
open Go.ChangeShapes Go.WideShapes Go.ChangeAt Go.RowKit
open Go.ChangeMaps (open_string shut_string)
set_option linter.unusedVariables false

theorem own : ownKnob Try.prog.godebug = none := by kernel_rfl
theorem laidOut : laidOutB Try.prog = true := by kernel_rfl

theorem RdI.other {W W' : World} {b off g : Nat} {x : Nat → Int} {T : TypeId} {cs : Array Value} (h : RdI W b off x) (u : Upd W g T cs W') (hne : b ≠ g) : RdI W' b off x :=
  ⟨by rw [u.size]; exact h.1, fun i hi => (u.cell (p := ⟨b, off + i, none⟩) hne).trans (h.2 i hi)⟩

set_option maxRecDepth 100000 in
set_option maxHeartbeats 8000000 in
theorem long1 (w : World) (x0 : Nat → Int) (m1 : Mt) (A2 : Option Addr) (c2 : Nat) (l2 : List Int) (D2 : Option Addr) (e2 : Nat) (k'2 : List Int) (rd2 : RdN w A2 l2) (rk2 : RdN w D2 k'2) (zz2 : A2 = none → c2 = 0) (zk2 : D2 = none → e2 = 0) (hl : 300 < l2.length) :
    Calls Try.prog 6 #[.agg (bk x0), .agg (mt m1), .agg #[.slice A2 l2.length c2, .slice D2 k'2.length e2]] w fun e w' => e = .returned (.bool true) ∧ Below w.heap.size w w' := by
  have r0 : RdI (((w.alloc (.cells (bk x0) 23)).alloc (.cells (mt m1) 25)).alloc (.cells #[.slice A2 l2.length c2, .slice D2 k'2.length e2] 41)) w.heap.size 0 x0 := ((RdI.new x0 23 rfl).alloc _).alloc _
  have ya0 : Bx (((w.alloc (.cells (bk x0) 23)).alloc (.cells (mt m1) 25)).alloc (.cells #[.slice A2 l2.length c2, .slice D2 k'2.length e2] 41)) (w.heap.size + 1) 25 (mt m1) := (Bx.new (W := w.alloc (.cells (bk x0) 23)) _ _ (by simp)).alloc _
  have xa0 : Bx (((w.alloc (.cells (bk x0) 23)).alloc (.cells (mt m1) 25)).alloc (.cells #[.slice A2 l2.length c2, .slice D2 k'2.length e2] 41)) (w.heap.size + 2) 41 #[.slice A2 l2.length c2, .slice D2 k'2.length e2] := Bx.new (W := (w.alloc (.cells (bk x0) 23)).alloc (.cells (mt m1) 25)) _ _ (by simp)
  have B0 : Below w.heap.size w (((w.alloc (.cells (bk x0) 23)).alloc (.cells (mt m1) 25)).alloc (.cells #[.slice A2 l2.length c2, .slice D2 k'2.length e2] 41)) := b_al (b_al (b_al (Below.refl _ _) (Nat.le_refl _) _) (Nat.le_refl _) _) (Nat.le_refl _) _
  have p0 : (((w.alloc (.cells (bk x0) 23)).alloc (.cells (mt m1) 25)).alloc (.cells #[.slice A2 l2.length c2, .slice D2 k'2.length e2] 41)).cell? ⟨w.heap.size + 2, 0, none⟩ = some (.slice A2 l2.length c2) := xa0.cell rfl
  have q0 : (((w.alloc (.cells (bk x0) 23)).alloc (.cells (mt m1) 25)).alloc (.cells #[.slice A2 l2.length c2, .slice D2 k'2.length e2] 41)).cell? ⟨w.heap.size + 2, 1, none⟩ = some (.slice D2 k'2.length e2) := xa0.cell rfl
  have d0 : decide ((300 : Int) < (l2.length : Int)) = true := decide_eq_true (by omega)
  go_enter Try.func6, Try.ntmps6
  go_wp2_with (go_at_call 11; (with_reducible refine (alive13_any _).mono ?_); rintro e w99 ⟨rfl, hb99⟩)
  go_ret
  exact ⟨rfl, b_cl (by assumption) (Nat.le_refl _) hb99⟩

set_option maxRecDepth 100000 in
set_option maxHeartbeats 8000000 in
theorem long2 (w : World) (x0 : Nat → Int) (m1 : Mt) (A2 : Option Addr) (c2 : Nat) (l2 : List Int) (D2 : Option Addr) (e2 : Nat) (k'2 : List Int) (rd2 : RdN w A2 l2) (rk2 : RdN w D2 k'2) (zz2 : A2 = none → c2 = 0) (zk2 : D2 = none → e2 = 0) (hl : l2.length ≤ 300) (hk : 300 < k'2.length) :
    Calls Try.prog 6 #[.agg (bk x0), .agg (mt m1), .agg #[.slice A2 l2.length c2, .slice D2 k'2.length e2]] w fun e w' => e = .returned (.bool true) ∧ Below w.heap.size w w' := by
  have r0 : RdI (((w.alloc (.cells (bk x0) 23)).alloc (.cells (mt m1) 25)).alloc (.cells #[.slice A2 l2.length c2, .slice D2 k'2.length e2] 41)) w.heap.size 0 x0 := ((RdI.new x0 23 rfl).alloc _).alloc _
  have ya0 : Bx (((w.alloc (.cells (bk x0) 23)).alloc (.cells (mt m1) 25)).alloc (.cells #[.slice A2 l2.length c2, .slice D2 k'2.length e2] 41)) (w.heap.size + 1) 25 (mt m1) := (Bx.new (W := w.alloc (.cells (bk x0) 23)) _ _ (by simp)).alloc _
  have xa0 : Bx (((w.alloc (.cells (bk x0) 23)).alloc (.cells (mt m1) 25)).alloc (.cells #[.slice A2 l2.length c2, .slice D2 k'2.length e2] 41)) (w.heap.size + 2) 41 #[.slice A2 l2.length c2, .slice D2 k'2.length e2] := Bx.new (W := (w.alloc (.cells (bk x0) 23)).alloc (.cells (mt m1) 25)) _ _ (by simp)
  have B0 : Below w.heap.size w (((w.alloc (.cells (bk x0) 23)).alloc (.cells (mt m1) 25)).alloc (.cells #[.slice A2 l2.length c2, .slice D2 k'2.length e2] 41)) := b_al (b_al (b_al (Below.refl _ _) (Nat.le_refl _) _) (Nat.le_refl _) _) (Nat.le_refl _) _
  have p0 : (((w.alloc (.cells (bk x0) 23)).alloc (.cells (mt m1) 25)).alloc (.cells #[.slice A2 l2.length c2, .slice D2 k'2.length e2] 41)).cell? ⟨w.heap.size + 2, 0, none⟩ = some (.slice A2 l2.length c2) := xa0.cell rfl
  have q0 : (((w.alloc (.cells (bk x0) 23)).alloc (.cells (mt m1) 25)).alloc (.cells #[.slice A2 l2.length c2, .slice D2 k'2.length e2] 41)).cell? ⟨w.heap.size + 2, 1, none⟩ = some (.slice D2 k'2.length e2) := xa0.cell rfl
  have d0 : decide ((300 : Int) < (l2.length : Int)) = false := decide_eq_false (by omega)
  have d1 : decide ((300 : Int) < (k'2.length : Int)) = true := decide_eq_true (by omega)
  have d2 : ¬ ((300 : Int) < (l2.length : Int)) := by omega
  have d3 : (300 : Int) < (k'2.length : Int) := by omega
  go_enter Try.func6, Try.ntmps6
  go_wp2_with (go_at_call 11; (with_reducible refine (alive13_any _).mono ?_); rintro e w99 ⟨rfl, hb99⟩)
  go_ret
  exact ⟨rfl, b_cl (by assumption) (Nat.le_refl _) hb99⟩

set_option maxRecDepth 100000 in
set_option maxHeartbeats 8000000 in
theorem bad (w : World) (x0 : Nat → Int) (m1 : Mt) (A2 : Option Addr) (c2 : Nat) (l2 : List Int) (D2 : Option Addr) (e2 : Nat) (k'2 : List Int) (rd2 : RdN w A2 l2) (rk2 : RdN w D2 k'2) (zz2 : A2 = none → c2 = 0) (zk2 : D2 = none → e2 = 0) (hl : l2.length ≤ 300) (hk : k'2.length ≤ 300) (er : Int) (hV : meterV x0 m1 l2 = (.zero, 0, er)) (hE : er ≠ 0) :
    Calls Try.prog 6 #[.agg (bk x0), .agg (mt m1), .agg #[.slice A2 l2.length c2, .slice D2 k'2.length e2]] w fun e w' => e = .returned (.bool true) ∧ Below w.heap.size w w' := by
  have r0 : RdI (((w.alloc (.cells (bk x0) 23)).alloc (.cells (mt m1) 25)).alloc (.cells #[.slice A2 l2.length c2, .slice D2 k'2.length e2] 41)) w.heap.size 0 x0 := ((RdI.new x0 23 rfl).alloc _).alloc _
  have ya0 : Bx (((w.alloc (.cells (bk x0) 23)).alloc (.cells (mt m1) 25)).alloc (.cells #[.slice A2 l2.length c2, .slice D2 k'2.length e2] 41)) (w.heap.size + 1) 25 (mt m1) := (Bx.new (W := w.alloc (.cells (bk x0) 23)) _ _ (by simp)).alloc _
  have xa0 : Bx (((w.alloc (.cells (bk x0) 23)).alloc (.cells (mt m1) 25)).alloc (.cells #[.slice A2 l2.length c2, .slice D2 k'2.length e2] 41)) (w.heap.size + 2) 41 #[.slice A2 l2.length c2, .slice D2 k'2.length e2] := Bx.new (W := (w.alloc (.cells (bk x0) 23)).alloc (.cells (mt m1) 25)) _ _ (by simp)
  have B0 : Below w.heap.size w (((w.alloc (.cells (bk x0) 23)).alloc (.cells (mt m1) 25)).alloc (.cells #[.slice A2 l2.length c2, .slice D2 k'2.length e2] 41)) := b_al (b_al (b_al (Below.refl _ _) (Nat.le_refl _) _) (Nat.le_refl _) _) (Nat.le_refl _) _
  have p0 : (((w.alloc (.cells (bk x0) 23)).alloc (.cells (mt m1) 25)).alloc (.cells #[.slice A2 l2.length c2, .slice D2 k'2.length e2] 41)).cell? ⟨w.heap.size + 2, 0, none⟩ = some (.slice A2 l2.length c2) := xa0.cell rfl
  have q0 : (((w.alloc (.cells (bk x0) 23)).alloc (.cells (mt m1) 25)).alloc (.cells #[.slice A2 l2.length c2, .slice D2 k'2.length e2] 41)).cell? ⟨w.heap.size + 2, 1, none⟩ = some (.slice D2 k'2.length e2) := xa0.cell rfl
  have d0 : decide ((300 : Int) < (l2.length : Int)) = false := decide_eq_false (by omega)
  have d1 : decide ((300 : Int) < (k'2.length : Int)) = false := decide_eq_false (by omega)
  have d2 : ¬ ((300 : Int) < (l2.length : Int)) := by omega
  have d3 : ¬ ((300 : Int) < (k'2.length : Int)) := by omega
  have RN := fun W h => run_any x0 m1 A2 c2 l2 W h (by omega)
  rw [hV] at RN
  dsimp only at RN
  have R0 := rd2.below B0
  have ne : (er != 0) = true := by simpa using hE
  have ne2 : (er == 0) = false := by simpa using hE
  clear hl hk hE hV
  go_enter Try.func6, Try.ntmps6
  go_wp2_with (first
    | go_skip
    | refine wpList_load_bk (by rfl) 23 _ rfl _ _ rfl x0 _ (by assumption) Try.underlying23 rfl (by kernel_rfl) ?_
    | refine wpList_load_box (by rfl) 25 _ rfl (w.heap.size + 1) rfl 25 (mt m1) _ (by assumption) Try.underlying25 rfl (by kernel_rfl) ?_
    | (go_at_call 12; (with_reducible refine (RN _ R0).mono ?_); rintro e w1 ⟨rfl, hb1⟩; have r1 := r0.below hb1; have ya1 := ya0.below hb1; have xa1 := xa0.below hb1; have B1 := b_cl B0 (Nat.le_refl _) hb1; have p1 : w1.cell? ⟨w.heap.size + 2, 0, none⟩ = some (.slice A2 l2.length c2) := xa1.cell rfl; have q1 : w1.cell? ⟨w.heap.size + 2, 1, none⟩ = some (.slice D2 k'2.length e2) := xa1.cell rfl)
    | (refine wpList_store_box rfl 25 _ _ rfl w1.heap.size (mt .zero) rfl rfl 25 (mt .zero) (Bx.new (W := w1) 25 (mt .zero) rfl) (by kernel_rfl) rfl (mt_one _) (fun w2 u2 => ?_); have r2 := RdI.other (r1.alloc _) u2 (Nat.ne_of_lt r1.1); have ya2 := u2.bx (ya1.alloc _) (Nat.ne_of_lt ya1.lt); have xa2 := u2.bx (xa1.alloc _) (Nat.ne_of_lt xa1.lt); have B2 := (b_al B1 (Nat.le_refl _) _).trans (u2.bel _ B1.size); have yn2 := u2.box; have p2 : w2.cell? ⟨w.heap.size + 2, 0, none⟩ = some (.slice A2 l2.length c2) := xa2.cell rfl; have q2 : w2.cell? ⟨w.heap.size + 2, 1, none⟩ = some (.slice D2 k'2.length e2) := xa2.cell rfl)
    | refine wpList_load_box (by rfl) 25 _ rfl (w1.heap.size) rfl 25 (mt .zero) _ (by assumption) Try.underlying25 rfl (by kernel_rfl) ?_
    | refine wpList_build_as rfl 25 _ rfl (mt .zero) (by kernel_rfl) ?_
    | refine wpList_eql_mt (by rfl) rfl .zero .zero true rfl rfl (Mt.eqB_self _) ?_
    | (go_at_call 11; (with_reducible refine (alive13_any _).mono ?_); rintro e w99 ⟨rfl, hb99⟩))
  go_ret
  exact ⟨rfl, b_cl (by assumption) (Nat.le_refl _) hb99⟩

end Go.Proofs.Yteepjpegojlihaa.meterParts
