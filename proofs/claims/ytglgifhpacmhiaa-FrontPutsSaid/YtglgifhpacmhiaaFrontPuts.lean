/- Which of any meters at any spots are taken, and which are there then, by any book, is as the document says. Conditions: none beyond the statement own. -/
import Derived.Test.YtglgifhpacmhiaaRows
import Derived.Test.YtglgifhpacmhiaaBase
import Derived.Test.YtglgifhpacmhiaaRow
import Derived.Test.YtglgifhpacmhiaaBookRow
import Derived.Test.YtglgifhpacmhiaaBookLim
import Derived.Test.YtglgifhpacmhiaaBookLaws
import Derived.Test.YtglgifhpacmhiaaBookOpen
import Derived.Test.YtglgifhpacmhiaaRecMath
import Derived.Test.YtglgifhpacmhiaaBox
import Derived.Test.YtglgifhpacmhiaaBoxRes
import Derived.Test.YtglgifhpacmhiaaChg
import Derived.Test.YtglgifhpacmhiaaSpellMath
import Derived.Test.YtglgifhpacmhiaaMeterMath
import Derived.Test.YtglgifhpacmhiaaMeterChk
import Derived.Test.YtglgifhpacmhiaaBelowMath
import Derived.Test.YtglgifhpacmhiaaBelowC
import Derived.Test.YtglgifhpacmhiaaSortMath
import Derived.Test.YtglgifhpacmhiaaWide
import Derived.Test.YtglgifhpacmhiaaFrontMath
import Derived.Test.YtglgifhpacmhiaaFrontEq
import Derived.Test.YtglgifhpacmhiaaFrontMap
import Derived.Test.YtglgifhpacmhiaaFrontHeap
import Derived.Test.YtglgifhpacmhiaaFrontForm
import Derived.Test.YtglgifhpacmhiaaFrontLib
import Derived.Test.YtglgifhpacmhiaaFrontSet
import Derived.Test.YtglgifhpacmhiaaFrontFn
import Derived.Test.YtglgifhpacmhiaaFrontPut
import Derived.Test.YtglgifhpacmhiaaFrontLen
import Derived.Test.YtglgifhpacmhiaaFrontAlive
import Derived.Test.YtglgifhpacmhiaaFrontOpen
import Derived.Test.YtglgifhpacmhiaaSpotSort
import Derived.Test.YtglgifhpacmhiaaFrontRef
import Derived.Test.YtglgifhpacmhiaaFrontRefS
import Derived.Test.YtglgifhpacmhiaaFrontSpots
import Derived.Test.YtglgifhpacmhiaaBookMayR
import Derived.Test.YtglgifhpacmhiaaBelowRef
import Derived.Test.YtglgifhpacmhiaaFrontPutsA
import Derived.Test.YtglgifhpacmhiaaFrontPutsG
import Derived.WalkKit
import Derived.WalkSmall
import Derived.WalkSpells
import Derived.ProofKit
import Derived.OpenShut
import Derived.ShutString
import Derived.ChangeOld
import Derived.Below
import Derived.Lib.Hide
import Derived.OwnWalk
import Derived.BigQuiet
import Derived.Outline
import Derived.Maps.RangeWalk
import Derived.Deep.DeepCutAuto
import Derived.OrdersHeld
import Derived.Deep.RegionHeld3
namespace Go.Proofs.Ytglgifhpacmhiaa.frontPuts
open Go.ChangeShapes Go.WideShapes Go.ChangeAt Go.RowKit
open Go.ChangeMaps (open_string shut_string)
set_option linter.unusedVariables false

theorem own : ownKnob Try.prog.godebug = none := by kernel_rfl
theorem laidOut : laidOutB Try.prog = true := by kernel_rfl

theorem walk (w : World) (x0 : Nat → Int) (A1 : Option Addr) (n1 c1 : Nat) (l1 : List Ad) (hn1 : l1.length = n1) (r1 : RdG adW w A1 l1) (z1 : A1 = none → n1 = 0 ∧ c1 = 0) (s2 : Rc) :
    Calls Try.prog 3 #[.agg (bk x0), .slice A1 n1 c1, .agg (sp s2)] w fun e w' => e = .returned (.bool true) ∧ Below w.heap.size w w' := by
  by_cases hl : n1 ≤ 40
  case neg => exact puts_long w x0 A1 n1 c1 l1 hn1 r1 z1 s2 hl
  by_cases hm : May x0
  · exact puts_good w x0 A1 n1 c1 l1 hn1 r1 z1 s2 hl hm
  · exact puts_noBook w x0 A1 n1 c1 l1 hn1 r1 z1 s2 hl hm

set_option maxRecDepth 100000 in
theorem lifted (os : Os) (started : os.Started) (H : Type) (enc : TypeId × Value → H) :
    ReturnsInHanded {} Try.checked os 3 .any (Rows.frontPutsSpec.pre6 enc Try.prog Try.f3 Rows.frontPutsRow.domain false) (Rows.frontPutsSpec.post enc Try.prog Try.f3 false true false false) := by
  refine returnsInHanded_of_change (C := Try.checked) own started (by kernel_rfl) Try.func3
    (ChangeSpec.witness6 (enc := enc) (C := Try.checked) false ⟨#[], #[.agg #[.int .i64 0, .int .i64 0, .int .i64 0, .int .i64 0, .int .i64 0, .int .i64 0, .int .i64 0, .int .i64 0, .int .i64 0, .int .i64 0, .int .i64 0, .int .i64 0, .int .i64 0, .int .i64 0, .int .i64 0, .int .i64 0, .int .i64 0, .int .i64 0, .int .i64 0], .slice none 0 0, .agg #[.int .i64 0, .int .i64 0, .int .i64 0]], []⟩ 8 (by kernel_rfl) (by kernel_rfl) (by kernel_rfl) (by kernel_rfl)) ?_
  intro W base args ds gs before hval0 hW hcnd _
  have hval : ∀ (j : Nat) t v, Try.f3.params[j]? = some t → args[j]? = some v → Value.okWide Try.prog W .any base t v := hval0
  have hW' := hW
  obtain ⟨p, q, hA0, hV, rfl, hfz, hnd⟩ := hW
  have hA : DataW.TrodAll enc Try.prog W 0 (fun _ => true) true Try.f3.params.toList args.toList ds p := hA0
  rw [Try.params3] at hA hval
  obtain ⟨v0, vs0, d0, ds0, p0, q0, hargs, rfl, rfl, h0, r0⟩ := trodAll_cons hA
  obtain ⟨v1, vs1, d1, ds1, p1, q1, rfl, rfl, rfl, h1, r1⟩ := trodAll_cons r0
  obtain ⟨v2, vs2, d2, ds2, p2, q2, rfl, rfl, rfl, h2, r2⟩ := trodAll_cons r1
  obtain ⟨rfl, rfl, rfl⟩ := trodAll_nil r2
  obtain rfl : args = #[v0, v1, v2] := by cases args; simp_all
  obtain ⟨rfl, rfl⟩ := trodVars_none hV
  have k0 := h0
  have lt0 : ∀ x ∈ p0, x.block < W.heap.size := by obtain ⟨m, hm⟩ := k0; exact DataW.trod_lt m _ _ _ hm
  obtain ⟨x0, rfl⟩ := open_book (hval 0 23 v0 rfl rfl) h0
  have k1 := h1
  have lt1 : ∀ x ∈ p1, x.block < W.heap.size := by obtain ⟨m, hm⟩ := k1; exact DataW.trod_lt m _ _ _ hm
  obtain ⟨A1, n1, c1, l1, rfl, hn1, rd1, z1⟩ := open_ats24 (hval 1 24 v1 rfl rfl) h1
  have k2 := h2
  have lt2 : ∀ x ∈ p2, x.block < W.heap.size := by obtain ⟨m, hm⟩ := k2; exact DataW.trod_lt m _ _ _ hm
  obtain ⟨s2, rfl⟩ := open_spot24 (hval 2 26 v2 rfl rfl) h2
  clear hA0 hval0
  refine (walk W x0 A1 n1 c1 l1 hn1 rd1 z1 s2).mono fun e W' ⟨he, bel⟩ => ?_
  subst he
  exact ⟨_, rfl, _, _, _, [], _, [], hW', trodAll_mk1 (shut_bool Try.underlying4 _), (trodAll_cons_mk (Below.trod laidOut (by kernel_rfl) (of_decide_eq_true (by kernel_rfl)) k0 bel lt0) (trodAll_cons_mk (Below.trod laidOut (by kernel_rfl) (of_decide_eq_true (by kernel_rfl)) k1 bel lt1) (trodAll_cons_mk (Below.trod laidOut (by kernel_rfl) (of_decide_eq_true (by kernel_rfl)) k2 bel lt2) trodAll_mk0))), rfl, bel.frame _, fun h => by cases h⟩

theorem over : Rows.frontPutsRow.holds Try.pinned (OpenSpec.ofChange Rows.frontPutsSpec) :=
  OpenClaim.holds_of_wide 3 Try.f3 rfl rfl rfl rfl rfl rfl rfl ⟨rfl, rfl, rfl, rfl, rfl⟩ rfl rfl rfl rfl rfl (by kernel_rfl) Try.func3 (by kernel_rfl)
    (of_decide_eq_true (by kernel_rfl)) (by unfold Func.isWrapper; first | (rw [if_pos (by decide +kernel)]; kernel_rfl) | (rw [if_neg (by decide +kernel)]; exact ⟨rfl, rfl⟩))
    (fun os started H enc _ => lifted os started H enc)

theorem proved : Rows.FrontPutsSaid := over
#print axioms proved
end Go.Proofs.Ytglgifhpacmhiaa.frontPuts
