/- A minute is in what both have just if it is in both; what holds both holds each minute of one. Conditions: none: any two spans of numbers of 64 bits, any minute. -/
import Derived.Test.YteijjkdfffmikaaRows
import Derived.Test.YteijjkdfffmikaaMath
import Derived.Test.YteijjkdfffmikaaBase
import Derived.Test.YteijjkdfffmikaaLeaf
import Derived.Test.YteijjkdfffmikaaAdd
import Derived.Test.YteijjkdfffmikaaIvalLeaf
import Derived.Test.YteijjkdfffmikaaIvalTwo
import Derived.Test.YteijjkdfffmikaaIvalRest
import Derived.Test.YteijjkdfffmikaaIvalAlive
import Derived.Test.YteijjkdfffmikaaSpan
import Derived.Test.YteijjkdfffmikaaIvalMin1
import Derived.Test.YteijjkdfffmikaaIvalMin2
import Derived.Test.YteijjkdfffmikaaIvalMin3
import Derived.WalkKit
import Derived.WalkSmall
import Derived.WalkSpells
import Derived.ProofKit
import Derived.OpenShut
import Derived.ShutString
import Derived.ChangeOld
import Derived.Below
import Derived.Lib.Hide
import Derived.OwnWalk
namespace Go.Proofs.Yteijjkdfffmikaa.ivalMinutes
open Go.ChangeShapes Go.WideShapes Go.ChangeAt Go.RowKit
open Go.ChangeMaps (open_string shut_string)
set_option linter.unusedVariables false

theorem own : ownKnob Try.prog.godebug = none := by kernel_rfl
theorem laidOut : laidOutB Try.prog = true := by kernel_rfl

theorem ordv_swap (a0 b0 a1 b1 : Int) : ordv a0 b0 a1 b1 = -(ordv a1 b1 a0 b0) := by
  unfold ordv
  by_cases e0 : a0 = a1
  · subst e0
    by_cases e1 : b0 = b1
    · subst e1; simp
    · by_cases l : b0 < b1
      · rw [if_neg (by omega), if_pos (by omega), if_neg (by omega), if_neg (by omega)]
      · rw [if_neg (by omega), if_neg (by omega), if_neg (by omega), if_pos (by omega)]; rfl
  · by_cases l : a0 < a1
    · rw [if_neg (by omega), if_pos (by omega), if_neg (by omega), if_neg (by omega)]
    · rw [if_neg (by omega), if_neg (by omega), if_neg (by omega), if_pos (by omega)]; rfl
theorem ordv_bd (a0 b0 a1 b1 : Int) : -1 ≤ ordv a0 b0 a1 b1 ∧ ordv a0 b0 a1 b1 ≤ 1 := by
  unfold ordv; split
  · decide
  · split <;> decide
theorem both_right {a0 b0 a1 b1 : Int} (h : up2 a0 a1 < lo2 b0 b1) : a0 < b0 ∧ a1 < b1 := by
  unfold up2 lo2 at h
  split at h <;> split at h <;> constructor <;> omega

theorem walk (a0 b0 : Int) (w0 : (Lit.int .i64 a0).wf = true) (u0 : (Lit.int .i64 b0).wf = true) (a1 b1 : Int) (w1 : (Lit.int .i64 a1).wf = true) (u1 : (Lit.int .i64 b1).wf = true) (a2 : Int) (w2 : (Lit.int .i64 a2).wf = true) (w : World) :
    Calls Try.prog 5 #[.agg #[.int .i64 a0, .int .i64 b0], .agg #[.int .i64 a1, .int .i64 b1], .int .i64 a2] w fun e w' => e = .returned (.bool true) ∧ Below w.heap.size w w' := by
  clear w0 u0 w1 u1 w2
  have HQ := Lib.hid (fun W : World => order_any a1 b1 a0 b0 W)
  have HO : Hid (∀ W : World, Calls Try.prog 20 #[.agg #[.int .i64 a0, .int .i64 b0], .agg #[.int .i64 a1, .int .i64 b1]] W fun e w' => e = .returned (.int .i64 (-(ordv a1 b1 a0 b0))) ∧ Below W.heap.size W w') :=
    Lib.hid (fun W : World => by rw [← ordv_swap]; exact order_any a0 b0 a1 b1 W)
  by_cases k1 : a0 ≤ a2 ∧ a2 < b0
  · by_cases k2 : a1 ≤ a2 ∧ a2 < b1
    · have k3 : up2 a0 a1 < lo2 b0 b1 := by unfold up2 lo2; split <;> split <;> omega
      exact minutes_yesh_tt _ _ _ _ _ _ _ _ _ _ _ (ordv_bd _ _ _ _).1 (ordv_bd _ _ _ _).2 (Lib.hid fun W => has_yes _ _ _ W (by omega)) (Lib.hid fun W => has_yes _ _ _ W (by omega)) (Lib.hid fun W => both_yes a0 b0 a1 b1 W k3) (Lib.hid fun W => right_yes _ _ W k3) (Lib.hid fun W => hull_yes a0 b0 a1 b1 W (by omega) (by omega)) (Lib.hid fun W => right_yes _ _ W (by omega)) HO HQ (Lib.hid fun W => has_yes _ _ _ W (by unfold up2 lo2; split <;> split <;> omega)) (Lib.hid fun W => has_yes _ _ _ W (by unfold up2 lo2; split <;> split <;> omega)) (Lib.hid fun W => right_yes _ _ W (by omega))
    · by_cases k3 : up2 a0 a1 < lo2 b0 b1
      · have k4 : a0 < b0 ∧ a1 < b1 := both_right k3
        exact minutes_yesh_tf _ _ _ _ _ _ _ _ _ _ _ (ordv_bd _ _ _ _).1 (ordv_bd _ _ _ _).2 (Lib.hid fun W => has_yes _ _ _ W (by omega)) (Lib.hid fun W => has_no _ _ _ W (by omega)) (Lib.hid fun W => both_yes a0 b0 a1 b1 W k3) (Lib.hid fun W => right_yes _ _ W k3) (Lib.hid fun W => hull_yes a0 b0 a1 b1 W (by omega) (by omega)) (Lib.hid fun W => right_yes _ _ W (by omega)) HO HQ (Lib.hid fun W => has_no _ _ _ W (by unfold up2 lo2; split <;> split <;> omega)) (Lib.hid fun W => has_yes _ _ _ W (by unfold up2 lo2; split <;> split <;> omega)) (Lib.hid fun W => right_yes _ _ W (by omega))
      · by_cases k4 : a1 < b1
        · exact minutes_noh_tf _ _ _ _ _ _ _ _ _ _ _ (ordv_bd _ _ _ _).1 (ordv_bd _ _ _ _).2 (Lib.hid fun W => has_yes _ _ _ W (by omega)) (Lib.hid fun W => has_no _ _ _ W (by omega)) (Lib.hid fun W => both_no a0 b0 a1 b1 W k3) (Lib.hid fun W => right_no _ _ W (by decide)) (Lib.hid fun W => hull_yes a0 b0 a1 b1 W (by omega) (by omega)) (Lib.hid fun W => right_yes _ _ W (by omega)) HO HQ (Lib.hid fun W => has_yes _ _ _ W (by unfold up2 lo2; split <;> split <;> omega)) (Lib.hid fun W => right_yes _ _ W (by omega))
        · exact minutes_nob_tf _ _ _ _ _ _ _ _ _ _ _ (ordv_bd _ _ _ _).1 (ordv_bd _ _ _ _).2 (Lib.hid fun W => has_yes _ _ _ W (by omega)) (Lib.hid fun W => has_no _ _ _ W (by omega)) (Lib.hid fun W => both_no a0 b0 a1 b1 W k3) (Lib.hid fun W => right_no _ _ W (by decide)) (Lib.hid fun W => hull_nob a0 b0 a1 b1 W (by omega) (by omega)) (Lib.hid fun W => right_yes _ _ W (by omega)) HO HQ (Lib.hid fun W => right_no _ _ W (by omega))
  · by_cases k2 : a1 ≤ a2 ∧ a2 < b1
    · by_cases k3 : up2 a0 a1 < lo2 b0 b1
      · have k4 : a0 < b0 ∧ a1 < b1 := both_right k3
        exact minutes_yesh_ft _ _ _ _ _ _ _ _ _ _ _ (ordv_bd _ _ _ _).1 (ordv_bd _ _ _ _).2 (Lib.hid fun W => has_no _ _ _ W (by omega)) (Lib.hid fun W => has_yes _ _ _ W (by omega)) (Lib.hid fun W => both_yes a0 b0 a1 b1 W k3) (Lib.hid fun W => right_yes _ _ W k3) (Lib.hid fun W => hull_yes a0 b0 a1 b1 W (by omega) (by omega)) (Lib.hid fun W => right_yes _ _ W (by omega)) HO HQ (Lib.hid fun W => has_no _ _ _ W (by unfold up2 lo2; split <;> split <;> omega)) (Lib.hid fun W => has_yes _ _ _ W (by unfold up2 lo2; split <;> split <;> omega)) (Lib.hid fun W => right_yes _ _ W (by omega))
      · by_cases k4 : a0 < b0
        · exact minutes_noh_ft _ _ _ _ _ _ _ _ _ _ _ (ordv_bd _ _ _ _).1 (ordv_bd _ _ _ _).2 (Lib.hid fun W => has_no _ _ _ W (by omega)) (Lib.hid fun W => has_yes _ _ _ W (by omega)) (Lib.hid fun W => both_no a0 b0 a1 b1 W k3) (Lib.hid fun W => right_no _ _ W (by decide)) (Lib.hid fun W => hull_yes a0 b0 a1 b1 W (by omega) (by omega)) (Lib.hid fun W => right_yes _ _ W (by omega)) HO HQ (Lib.hid fun W => has_yes _ _ _ W (by unfold up2 lo2; split <;> split <;> omega)) (Lib.hid fun W => right_yes _ _ W (by omega))
        · exact minutes_noa_ft _ _ _ _ _ _ _ _ _ _ _ (ordv_bd _ _ _ _).1 (ordv_bd _ _ _ _).2 (Lib.hid fun W => has_no _ _ _ W (by omega)) (Lib.hid fun W => has_yes _ _ _ W (by omega)) (Lib.hid fun W => both_no a0 b0 a1 b1 W k3) (Lib.hid fun W => right_no _ _ W (by decide)) (Lib.hid fun W => hull_noa a0 b0 a1 b1 W (by omega)) (Lib.hid fun W => right_no _ _ W (by omega)) HO HQ
    · by_cases k3 : up2 a0 a1 < lo2 b0 b1
      · have k4 : a0 < b0 ∧ a1 < b1 := both_right k3
        exact minutes_yesh_ff _ _ _ _ _ _ _ _ _ _ _ (ordv_bd _ _ _ _).1 (ordv_bd _ _ _ _).2 (Lib.hid fun W => has_no _ _ _ W (by omega)) (Lib.hid fun W => has_no _ _ _ W (by omega)) (Lib.hid fun W => both_yes a0 b0 a1 b1 W k3) (Lib.hid fun W => right_yes _ _ W k3) (Lib.hid fun W => hull_yes a0 b0 a1 b1 W (by omega) (by omega)) (Lib.hid fun W => right_yes _ _ W (by omega)) HO HQ (Lib.hid fun W => has_no _ _ _ W (by unfold up2 lo2; split <;> split <;> omega)) (Lib.hid fun W => right_yes _ _ W (by omega))
      · by_cases k4 : a0 < b0
        · by_cases k5 : a1 < b1
          · exact minutes_noh_ff _ _ _ _ _ _ _ _ _ _ _ (ordv_bd _ _ _ _).1 (ordv_bd _ _ _ _).2 (Lib.hid fun W => has_no _ _ _ W (by omega)) (Lib.hid fun W => has_no _ _ _ W (by omega)) (Lib.hid fun W => both_no a0 b0 a1 b1 W k3) (Lib.hid fun W => right_no _ _ W (by decide)) (Lib.hid fun W => hull_yes a0 b0 a1 b1 W (by omega) (by omega)) (Lib.hid fun W => right_yes _ _ W (by omega)) HO HQ (Lib.hid fun W => right_yes _ _ W (by omega))
          · exact minutes_nob_ff _ _ _ _ _ _ _ _ _ _ _ (ordv_bd _ _ _ _).1 (ordv_bd _ _ _ _).2 (Lib.hid fun W => has_no _ _ _ W (by omega)) (Lib.hid fun W => has_no _ _ _ W (by omega)) (Lib.hid fun W => both_no a0 b0 a1 b1 W k3) (Lib.hid fun W => right_no _ _ W (by decide)) (Lib.hid fun W => hull_nob a0 b0 a1 b1 W (by omega) (by omega)) (Lib.hid fun W => right_yes _ _ W (by omega)) HO HQ (Lib.hid fun W => right_no _ _ W (by omega))
        · exact minutes_noa_ff _ _ _ _ _ _ _ _ _ _ _ (ordv_bd _ _ _ _).1 (ordv_bd _ _ _ _).2 (Lib.hid fun W => has_no _ _ _ W (by omega)) (Lib.hid fun W => has_no _ _ _ W (by omega)) (Lib.hid fun W => both_no a0 b0 a1 b1 W k3) (Lib.hid fun W => right_no _ _ W (by decide)) (Lib.hid fun W => hull_noa a0 b0 a1 b1 W (by omega)) (Lib.hid fun W => right_no _ _ W (by omega)) HO HQ

set_option maxRecDepth 100000 in
theorem lifted (os : Os) (started : os.Started) (H : Type) (enc : TypeId × Value → H) :
    ReturnsInHanded {} Try.checked os 5 .any (Rows.ivalMinutesSpec.pre6 enc Try.prog Try.f5 Rows.ivalMinutesRow.domain false) (Rows.ivalMinutesSpec.post enc Try.prog Try.f5 false true false false) := by
  refine returnsInHanded_of_change (C := Try.checked) own started (by kernel_rfl) Try.func5
    (ChangeSpec.witness6 (enc := enc) (C := Try.checked) false ⟨#[], #[.agg #[.int .i64 0, .int .i64 0], .agg #[.int .i64 0, .int .i64 0], .int .i64 0], []⟩ 8 (by kernel_rfl) (by kernel_rfl) (by kernel_rfl) (by kernel_rfl)) ?_
  intro W base args ds gs before hval0 hW hcnd _
  have hval : ∀ (j : Nat) t v, Try.f5.params[j]? = some t → args[j]? = some v → Value.okWide Try.prog W .any base t v := hval0
  have hW' := hW
  obtain ⟨p, q, hA0, hV, rfl, hfz, hnd⟩ := hW
  have hA : DataW.TrodAll enc Try.prog W 0 (fun _ => true) true Try.f5.params.toList args.toList ds p := hA0
  rw [Try.params5] at hA hval
  obtain ⟨v0, vs0, d0, ds0, p0, q0, hargs, rfl, rfl, h0, r0⟩ := trodAll_cons hA
  obtain ⟨v1, vs1, d1, ds1, p1, q1, rfl, rfl, rfl, h1, r1⟩ := trodAll_cons r0
  obtain ⟨v2, vs2, d2, ds2, p2, q2, rfl, rfl, rfl, h2, r2⟩ := trodAll_cons r1
  obtain ⟨rfl, rfl, rfl⟩ := trodAll_nil r2
  obtain rfl : args = #[v0, v1, v2] := by cases args; simp_all
  obtain ⟨rfl, rfl⟩ := trodVars_none hV
  obtain ⟨a0, b0, rfl, rfl, rfl, w0, u0⟩ := open_span (hval 0 23 v0 rfl rfl) h0
  obtain ⟨a1, b1, rfl, rfl, rfl, w1, u1⟩ := open_span (hval 1 23 v1 rfl rfl) h1
  obtain ⟨a2, rfl, rfl, rfl, w2⟩ := open_int Try.underlying3 (hval 2 3 v2 rfl rfl) h2
  clear hA0 hval0
  simp only [List.append_nil] at hW'
  refine (walk a0 b0 w0 u0 a1 b1 w1 u1 a2 w2 W).mono fun e W' ⟨he, bel⟩ => ?_
  subst he
  exact ⟨_, rfl, _, _, _, [], [], [], hW', trodAll_mk1 (shut_bool Try.underlying4 _), (trodAll_cons_mk (shut_span w0 u0) (trodAll_cons_mk (shut_span w1 u1) (trodAll_cons_mk (shut_int Try.underlying3 w2) trodAll_mk0))), rfl, bel.frame _, fun h => by cases h⟩

theorem over : Rows.ivalMinutesRow.holds Try.pinned (OpenSpec.ofChange Rows.ivalMinutesSpec) :=
  OpenClaim.holds_of_wide 5 Try.f5 rfl rfl rfl rfl rfl rfl rfl ⟨rfl, rfl, rfl, rfl, rfl⟩ rfl rfl rfl rfl rfl (by kernel_rfl) Try.func5 (by kernel_rfl)
    (of_decide_eq_true (by kernel_rfl)) (by unfold Func.isWrapper; first | (rw [if_pos (by decide +kernel)]; kernel_rfl) | (rw [if_neg (by decide +kernel)]; exact ⟨rfl, rfl⟩))
    (fun os started H enc _ => lifted os started H enc)

theorem proved : Rows.IvalMinutesSaid := over
#print axioms proved
end Go.Proofs.Yteijjkdfffmikaa.ivalMinutes
