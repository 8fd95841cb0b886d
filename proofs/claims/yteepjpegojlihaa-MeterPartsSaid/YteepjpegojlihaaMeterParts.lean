/- What is run in two parts is run as one; a meter may be behind each minute; rest breaks nothing. Conditions: none. -/
import Derived.Test.YteepjpegojlihaaRows
import Derived.Test.YteepjpegojlihaaBase
import Derived.Test.YteepjpegojlihaaRow
import Derived.Test.YteepjpegojlihaaBookRow
import Derived.Test.YteepjpegojlihaaBookLim
import Derived.Test.YteepjpegojlihaaBookMayR
import Derived.Test.YteepjpegojlihaaBookLaws
import Derived.Test.YteepjpegojlihaaBookOpen
import Derived.Test.YteepjpegojlihaaBookAlive
import Derived.Test.YteepjpegojlihaaRecMath
import Derived.Test.YteepjpegojlihaaRecHeap
import Derived.Test.YteepjpegojlihaaBox
import Derived.Test.YteepjpegojlihaaSpellMath
import Derived.Test.YteepjpegojlihaaMeterMath
import Derived.Test.YteepjpegojlihaaMeterRun
import Derived.Test.YteepjpegojlihaaMeterStep
import Derived.Test.YteepjpegojlihaaMeterChk
import Derived.Test.YteepjpegojlihaaMeterMayR
import Derived.Test.YteepjpegojlihaaMeterRRun
import Derived.Test.YteepjpegojlihaaMeterOpen
import Derived.Test.YteepjpegojlihaaMeterLaws
import Derived.Test.YteepjpegojlihaaMeterAlive
import Derived.Test.YteepjpegojlihaaMeterBit
import Derived.Test.YteepjpegojlihaaIntsApp
import Derived.WalkKit
import Derived.WalkSmall
import Derived.WalkSpells
import Derived.ProofKit
import Derived.OpenShut
import Derived.ShutString
import Derived.ChangeOld
import Derived.Below
import Derived.Lib.Hide
import Derived.OwnWalk
import Derived.BigQuiet
import Derived.Outline
import Derived.Great.BuildSlice
import Derived.Maps.RangeWalk
import Derived.Deep.DeepCutAuto
import Derived.OrdersHeld
import Derived.Deep.RegionHeld3
import Derived.Test.YteepjpegojlihaaMeterPartsP0
import Derived.Test.YteepjpegojlihaaMeterPartsP1
import Derived.Test.YteepjpegojlihaaMeterPartsP2
import Derived.Test.YteepjpegojlihaaMeterPartsP3
import Derived.Test.YteepjpegojlihaaMeterPartsP4
namespace Go.Proofs.Yteepjpegojlihaa.meterParts
open Go.ChangeShapes Go.WideShapes Go.ChangeAt Go.RowKit
open Go.ChangeMaps (open_string shut_string)
set_option linter.unusedVariables false

theorem rest_step (x : Nat → Int) (m : Mt) (n : Nat) : runV x (stepM x m 0) (n ||| stepC x m 0) [] = (⟨m.now + 1, m.acc, m.half, m.lie + 1, m.dawn, m.day, m.longers, m.split, m.reduces, m.sabbath, m.brief, (wrapM x m).week, (wrapM x m).last, (wrapM x m).labour⟩, n, 0) := by
  unfold runV stepM stepC
  simp only [if_pos, Nat.or_zero]
  unfold wrapM
  split <;> rfl

theorem walk (w : World) (x0 : Nat → Int) (m1 : Mt) (A2 : Option Addr) (c2 : Nat) (l2 : List Int) (D2 : Option Addr) (e2 : Nat) (k'2 : List Int) (rd2 : RdN w A2 l2) (rk2 : RdN w D2 k'2) (zz2 : A2 = none → c2 = 0) (zk2 : D2 = none → e2 = 0) :
    Calls Try.prog 6 #[.agg (bk x0), .agg (mt m1), .agg #[.slice A2 l2.length c2, .slice D2 k'2.length e2]] w fun e w' => e = .returned (.bool true) ∧ Below w.heap.size w w' := by
  by_cases hl : l2.length ≤ 300
  case neg => exact long1 w x0 m1 A2 c2 l2 D2 e2 k'2 rd2 rk2 zz2 zk2 (by omega)
  by_cases hk : k'2.length ≤ 300
  case neg => exact long2 w x0 m1 A2 c2 l2 D2 e2 k'2 rd2 rk2 zz2 zk2 hl (by omega)
  by_cases he : bmErr x0 m1 = 0
  case neg => exact bad w x0 m1 A2 c2 l2 D2 e2 k'2 rd2 rk2 zz2 zk2 hl hk _ (meterV_bad l2 he) he
  obtain ⟨hx, hm⟩ := bmErr_ok.1 he
  have h1 := runV_may (x := x0) l2 m1 0 hm (by decide)
  have hV1 := meterV_good (x := x0) l2 hx hm
  have hV3 := meterV_good (x := x0) (l2 ++ k'2) hx hm
  rw [runV_append] at hV3
  generalize runV x0 m1 0 l2 = V1 at h1 hV1 hV3
  obtain ⟨M1, N1, E1⟩ := V1
  dsimp only at h1 hV3
  by_cases hE1 : E1 = 0
  case neg =>
    obtain ⟨e1, e2'⟩ := h1.2.2 hE1
    subst e1 e2'
    exact bad w x0 m1 A2 c2 l2 D2 e2 k'2 rd2 rk2 zz2 zk2 hl hk _ hV1 hE1
  subst hE1
  rw [if_pos rfl] at hV3
  have hM := h1.2.1 rfl
  have h2 := runV_may (x := x0) k'2 M1 0 hM (by decide)
  have hV2 := meterV_good (x := x0) k'2 hx hM
  rw [runV_or] at hV3
  generalize runV x0 M1 0 k'2 = V2 at h2 hV2 hV3
  obtain ⟨M2, N2, E2⟩ := V2
  dsimp only at h2 hV3
  have hV4 := meterV_good (x := x0) [0] hx hM
  rw [runV_cons, if_neg (by omega)] at hV4
  by_cases hE2 : E2 = 0
  · subst hE2
    rw [if_pos rfl] at hV3
    by_cases hn : M1.now = 40320
    · rw [if_pos hn] at hV4
      exact gs w x0 m1 A2 c2 l2 D2 e2 k'2 rd2 rk2 zz2 zk2 hl hk M1 M2 N1 N2 hM hV1 hV2 hV3 h1.1 h2.1 hn hV4
    · rw [if_neg hn] at hV4
      have e := rest_step x0 M1 0
      exact gg w x0 m1 A2 c2 l2 D2 e2 k'2 rd2 rk2 zz2 zk2 hl hk M1 M2 N1 N2 hM hV1 hV2 hV3 h1.1 h2.1 _ _ _ _ _ _ _ _ _ _ _ _ (hV4.trans e)
  · rw [if_neg hE2] at hV3
    by_cases hn : M1.now = 40320
    · rw [if_pos hn] at hV4
      exact bs w x0 m1 A2 c2 l2 D2 e2 k'2 rd2 rk2 zz2 zk2 hl hk M1 M2 N1 N2 hM hV1 E2 hE2 _ _ hV2 hV3 hn hV4
    · rw [if_neg hn] at hV4
      have e := rest_step x0 M1 0
      exact bg w x0 m1 A2 c2 l2 D2 e2 k'2 rd2 rk2 zz2 zk2 hl hk M1 M2 N1 N2 hM hV1 E2 hE2 _ _ hV2 hV3 _ _ _ _ _ _ _ _ _ _ _ _ (hV4.trans e)

set_option maxRecDepth 100000 in
theorem lifted (os : Os) (started : os.Started) (H : Type) (enc : TypeId × Value → H) :
    ReturnsInHanded {} Try.checked os 6 .any (Rows.meterPartsSpec.pre6 enc Try.prog Try.f6 Rows.meterPartsRow.domain false) (Rows.meterPartsSpec.post enc Try.prog Try.f6 false true false false) := by
  refine returnsInHanded_of_change (C := Try.checked) own started (by kernel_rfl) Try.func6
    (ChangeSpec.witness6 (enc := enc) (C := Try.checked) false ⟨#[], #[.agg #[.int .i64 0, .int .i64 0, .int .i64 0, .int .i64 0, .int .i64 0, .int .i64 0, .int .i64 0, .int .i64 0, .int .i64 0, .int .i64 0, .int .i64 0, .int .i64 0, .int .i64 0, .int .i64 0, .int .i64 0, .int .i64 0, .int .i64 0, .int .i64 0, .int .i64 0], .agg #[.int .i64 0, .int .i64 0, .bool false, .int .i64 0, .int .i64 0, .int .i64 0, .int .i64 0, .bool false, .int .i64 0, .int .i64 0, .bool false, .int .i64 0, .int .i64 0, .int .i64 0], .agg #[.slice none 0 0, .slice none 0 0]], []⟩ 8 (by kernel_rfl) (by kernel_rfl) (by kernel_rfl) (by kernel_rfl)) ?_
  intro W base args ds gs before hval0 hW hcnd _
  have hval : ∀ (j : Nat) t v, Try.f6.params[j]? = some t → args[j]? = some v → Value.okWide Try.prog W .any base t v := hval0
  have hW' := hW
  obtain ⟨p, q, hA0, hV, rfl, hfz, hnd⟩ := hW
  have hA : DataW.TrodAll enc Try.prog W 0 (fun _ => true) true Try.f6.params.toList args.toList ds p := hA0
  rw [Try.params6] at hA hval
  obtain ⟨v0, vs0, d0, ds0, p0, q0, hargs, rfl, rfl, h0, r0⟩ := trodAll_cons hA
  obtain ⟨v1, vs1, d1, ds1, p1, q1, rfl, rfl, rfl, h1, r1⟩ := trodAll_cons r0
  obtain ⟨v2, vs2, d2, ds2, p2, q2, rfl, rfl, rfl, h2, r2⟩ := trodAll_cons r1
  obtain ⟨rfl, rfl, rfl⟩ := trodAll_nil r2
  obtain rfl : args = #[v0, v1, v2] := by cases args; simp_all
  obtain ⟨rfl, rfl⟩ := trodVars_none hV
  have k0 := h0
  have lt0 : ∀ x ∈ p0, x.block < W.heap.size := by obtain ⟨m, hm⟩ := k0; exact DataW.trod_lt m _ _ _ hm
  obtain ⟨x0, rfl⟩ := open_book (hval 0 23 v0 rfl rfl) h0
  have k1 := h1
  have lt1 : ∀ x ∈ p1, x.block < W.heap.size := by obtain ⟨m, hm⟩ := k1; exact DataW.trod_lt m _ _ _ hm
  obtain ⟨m1, rfl⟩ := open_meter (hval 1 25 v1 rfl rfl) h1
  have k2 := h2
  have lt2 : ∀ x ∈ p2, x.block < W.heap.size := by obtain ⟨m, hm⟩ := k2; exact DataW.trod_lt m _ _ _ hm
  obtain ⟨A2, c2, l2, D2, e2, k'2, rfl, rd2, rk2, zz2, zk2⟩ := open_parts (hval 2 41 v2 rfl rfl) h2
  clear hA0 hval0
  refine (walk W x0 m1 A2 c2 l2 D2 e2 k'2 rd2 rk2 zz2 zk2).mono fun e W' ⟨he, bel⟩ => ?_
  subst he
  exact ⟨_, rfl, _, _, _, [], _, [], hW', trodAll_mk1 (shut_bool Try.underlying4 _), (trodAll_cons_mk (Below.trod laidOut (by kernel_rfl) (of_decide_eq_true (by kernel_rfl)) k0 bel lt0) (trodAll_cons_mk (Below.trod laidOut (by kernel_rfl) (of_decide_eq_true (by kernel_rfl)) k1 bel lt1) (trodAll_cons_mk (Below.trod laidOut (by kernel_rfl) (of_decide_eq_true (by kernel_rfl)) k2 bel lt2) trodAll_mk0))), rfl, bel.frame _, fun h => by cases h⟩

theorem over : Rows.meterPartsRow.holds Try.pinned (OpenSpec.ofChange Rows.meterPartsSpec) :=
  OpenClaim.holds_of_wide 6 Try.f6 rfl rfl rfl rfl rfl rfl rfl ⟨rfl, rfl, rfl, rfl, rfl⟩ rfl rfl rfl rfl rfl (by kernel_rfl) Try.func6 (by kernel_rfl)
    (of_decide_eq_true (by kernel_rfl)) (by unfold Func.isWrapper; first | (rw [if_pos (by decide +kernel)]; kernel_rfl) | (rw [if_neg (by decide +kernel)]; exact ⟨rfl, rfl⟩))
    (fun os started H enc _ => lifted os started H enc)

theorem proved : Rows.MeterPartsSaid := over
#print axioms proved
end Go.Proofs.Yteepjpegojlihaa.meterParts
