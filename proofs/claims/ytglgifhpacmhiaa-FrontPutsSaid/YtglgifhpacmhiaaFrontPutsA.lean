/- The law FrontPuts where too many meters are given, or the book may not be. Conditions: as the theorems say. -/
import Derived.Test.YtglgifhpacmhiaaBase
import Derived.Test.YtglgifhpacmhiaaRow
import Derived.Test.YtglgifhpacmhiaaBookRow
import Derived.Test.YtglgifhpacmhiaaBookLim
import Derived.Test.YtglgifhpacmhiaaBookLaws
import Derived.Test.YtglgifhpacmhiaaBookOpen
import Derived.Test.YtglgifhpacmhiaaRecMath
import Derived.Test.YtglgifhpacmhiaaBox
import Derived.Test.YtglgifhpacmhiaaBoxRes
import Derived.Test.YtglgifhpacmhiaaChg
import Derived.Test.YtglgifhpacmhiaaSpellMath
import Derived.Test.YtglgifhpacmhiaaMeterMath
import Derived.Test.YtglgifhpacmhiaaMeterChk
import Derived.Test.YtglgifhpacmhiaaBelowMath
import Derived.Test.YtglgifhpacmhiaaBelowC
import Derived.Test.YtglgifhpacmhiaaSortMath
import Derived.Test.YtglgifhpacmhiaaWide
import Derived.Test.YtglgifhpacmhiaaFrontMath
import Derived.Test.YtglgifhpacmhiaaFrontEq
import Derived.Test.YtglgifhpacmhiaaFrontMap
import Derived.Test.YtglgifhpacmhiaaFrontHeap
import Derived.Test.YtglgifhpacmhiaaFrontForm
import Derived.Test.YtglgifhpacmhiaaFrontLib
import Derived.Test.YtglgifhpacmhiaaFrontSet
import Derived.Test.YtglgifhpacmhiaaFrontFn
import Derived.Test.YtglgifhpacmhiaaFrontPut
import Derived.Test.YtglgifhpacmhiaaFrontLen
import Derived.Test.YtglgifhpacmhiaaFrontAlive
import Derived.Test.YtglgifhpacmhiaaFrontOpen
import Derived.Test.YtglgifhpacmhiaaSpotSort
import Derived.Test.YtglgifhpacmhiaaFrontRef
import Derived.Test.YtglgifhpacmhiaaFrontRefS
import Derived.Test.YtglgifhpacmhiaaFrontSpots
import Derived.Test.YtglgifhpacmhiaaBookMayR
import Derived.Test.YtglgifhpacmhiaaBelowRef
import Derived.WalkKit
import Derived.WalkSpells
import Derived.WalkSmall
import Derived.Below
import Derived.Lib.Hide
import Derived.BigQuiet
import Derived.OwnWalk
import Derived.Outline
import Derived.Maps.RangeWalk
import Derived.Deep.DeepCutAuto
import Derived.OrdersHeld
import Derived.Deep.RegionHeld3
namespace Go.Proofs.Ytglgifhpacmhiaa
open Go.RowKit

set_option linter.unusedVariables false

set_option maxRecDepth 100000 in
set_option maxHeartbeats 8000000 in
theorem puts_long (w : World) (x0 : Nat → Int) (A1 : Option Addr) (n1 c1 : Nat) (l1 : List Ad) (hn1 : l1.length = n1) (r1 : RdG adW w A1 l1) (z1 : A1 = none → n1 = 0 ∧ c1 = 0) (s2 : Rc) (hl : ¬ n1 ≤ 40) :
    Calls Try.prog 3 #[.agg (bk x0), .slice A1 n1 c1, .agg (sp s2)] w fun e w' => e = .returned (.bool true) ∧ Below w.heap.size w w' := by
  have XB : Bx ((w.alloc (.cells (bk x0) 23)).alloc (.cells (sp s2) 26)) w.heap.size 23 (bk x0) := (Bx.new (W := w) _ _ rfl).alloc _
  have XS : Bx ((w.alloc (.cells (bk x0) 23)).alloc (.cells (sp s2) 26)) (w.heap.size + 1) 26 (sp s2) := Bx.new (W := (w.alloc (.cells (bk x0) 23))) _ _ (by simp)
  have B0 : Below w.heap.size w ((w.alloc (.cells (bk x0) 23)).alloc (.cells (sp s2) 26)) := b_al (b_al (Below.refl _ _) (Nat.le_refl _) _) (Nat.le_refl _) _
  have gl : (40 : Int) < (n1 : Int) := by omega
  clear r1 z1 hn1
  go_enter Try.func3, Try.ntmps3
  go_wp2_with (first
    | (go_at_call 5; refine (alive24_any _).mono ?_; rintro e w99 ⟨rfl, hb99⟩; have B99 := Lib.hid (b_cl (B0) (Nat.le_refl _) hb99); clear hb99))
  go_ret
  exact ⟨rfl, B99.out⟩

set_option maxRecDepth 100000 in
set_option maxHeartbeats 8000000 in
theorem puts_noBook (w : World) (x0 : Nat → Int) (A1 : Option Addr) (n1 c1 : Nat) (l1 : List Ad) (hn1 : l1.length = n1) (r1 : RdG adW w A1 l1) (z1 : A1 = none → n1 = 0 ∧ c1 = 0) (s2 : Rc) (hl : n1 ≤ 40) (hm : ¬ May x0) :
    Calls Try.prog 3 #[.agg (bk x0), .slice A1 n1 c1, .agg (sp s2)] w fun e w' => e = .returned (.bool true) ∧ Below w.heap.size w w' := by
  have XB : Bx ((w.alloc (.cells (bk x0) 23)).alloc (.cells (sp s2) 26)) w.heap.size 23 (bk x0) := (Bx.new (W := w) _ _ rfl).alloc _
  have XS : Bx ((w.alloc (.cells (bk x0) 23)).alloc (.cells (sp s2) 26)) (w.heap.size + 1) 26 (sp s2) := Bx.new (W := (w.alloc (.cells (bk x0) 23))) _ _ (by simp)
  have B0 : Below w.heap.size w ((w.alloc (.cells (bk x0) 23)).alloc (.cells (sp s2) 26)) := b_al (b_al (Below.refl _ _) (Nat.le_refl _) _) (Nat.le_refl _) _
  have gl : ¬ (40 : Int) < (n1 : Int) := by omega
  have CM := fun W => refmay_any x0 W
  simp only [if_neg hm] at CM
  clear r1 z1 hn1 hl
  go_enter Try.func3, Try.ntmps3
  go_wp2_with (first
    | go_skip
    | refine wpList_load_box (by rfl) 23 _ rfl (w.heap.size) rfl 23 (bk x0) _ (by assumption) Try.underlying23 rfl (by kernel_rfl) ?_
    | refine wpList_load_box (by rfl) 26 _ rfl (w.heap.size + 1) rfl 26 (sp s2) _ (by assumption) Try.underlying26 rfl (by kernel_rfl) ?_
    | (go_at_call 6; refine (new24_bad x0 hm _).mono ?_; rintro e w1 ⟨rfl, hb1⟩; have B1 := b_cl B0 (Nat.le_refl _) hb1; have XB1 := XB.below hb1; have XS1 := XS.below hb1)
    | (go_at_call 7; (with_reducible refine (CM _).mono ?_); rintro e w2 ⟨rfl, hb2⟩; have B2 := b_cl B1 (Nat.le_refl _) hb2; have XS2 := XS1.below hb2)
    | (go_at_call 8; (with_reducible refine (len24_nil _).mono ?_); rintro e w3 ⟨rfl, hb3⟩; have B3 := b_cl B2 (Nat.le_refl _) hb3; have XS3 := XS2.below hb3)
    | (go_at_call 9; refine (put24_nil s2 .zero _).mono ?_; rintro e w4 ⟨rfl, hb4⟩; have B4 := b_cl B3 (Nat.le_refl _) hb4; have XS4 := XS3.below hb4)
    | (go_at_call 10; (with_reducible refine (all24_nil s2 _).mono ?_); rintro e w5 ⟨rfl, hb5⟩; have B5 := b_cl B4 (Nat.le_refl _) hb5)
    | (go_at_call 11; (with_reducible refine (spots24_nil _).mono ?_); rintro e w6 ⟨rfl, hb6⟩; have B6 := b_cl B5 (Nat.le_refl _) hb6)
    | (go_at_call 5; refine (alive24_any _).mono ?_; rintro e w99 ⟨rfl, hb99⟩; have B99 := Lib.hid (b_cl (B6) (Nat.le_refl _) hb99); clear hb99))
  go_ret
  exact ⟨rfl, B99.out⟩

end Go.Proofs.Ytglgifhpacmhiaa
