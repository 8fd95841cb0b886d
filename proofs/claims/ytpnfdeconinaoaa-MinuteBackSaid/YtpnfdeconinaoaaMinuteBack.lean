/- What was reckoned is reckoned back: a sum less one of two, a quotient times its divisor and what is left. Conditions: none: any two numbers of 64 bits. -/
import Derived.Test.YtpnfdeconinaoaaRows
import Derived.Test.YtpnfdeconinaoaaMath
import Derived.Test.YtpnfdeconinaoaaLeaf
import Derived.Test.YtpnfdeconinaoaaDiv
import Derived.Test.YtpnfdeconinaoaaMul
import Derived.Test.YtpnfdeconinaoaaAdd
import Derived.Test.YtpnfdeconinaoaaUp
import Derived.Test.YtpnfdeconinaoaaAlive
import Derived.Test.YtpnfdeconinaoaaParts
import Derived.WalkKit
import Derived.WalkSmall
import Derived.ProofKit
import Derived.OpenShut
import Derived.ShutString
import Derived.ChangeOld
import Derived.Below
import Derived.Lib.Hide
namespace Go.Proofs.Ytpnfdeconinaoaa.minuteBack
open Go.ChangeShapes Go.WideShapes Go.ChangeAt Go.RowKit
open Go.ChangeMaps (open_string shut_string)
set_option linter.unusedVariables false

theorem own : ownKnob Try.prog.godebug = none := by kernel_rfl
theorem laidOut : laidOutB Try.prog = true := by kernel_rfl

theorem walk (a0 : Int) (a1 : Int) (w0 : (Lit.int .i64 a0).wf = true) (w1 : (Lit.int .i64 a1).wf = true) (w : World) :
    Calls Try.prog 6 #[.int .i64 a0, .int .i64 a1] w fun e w' => e = .returned (.bool true) ∧ Below w.heap.size w w' := by
  have B0 := Lib.hid (show Fits a0 from wf_bd w0)
  have B1 := Lib.hid (show Fits a1 from wf_bd w1)
  clear w0 w1
  have tok1 : True := trivial
  by_cases hb : a1 < 1
  · by_cases hs : Fits (a0 + a1)
    · have BS := Lib.hid hs
      clear hs
      go_enter Try.func6, Try.ntmps6
      go_wp2_with (first | (go_at_call 8; have tk1 := tok1; go_must (refine (add_fits _ _ a0 a1 (a0 + a1) _ (by exact (two_cells_at _ _ _ _ _ (by simp)).1) (by exact (two_cells_at _ _ _ _ _ (by simp)).2) B0.out B1.out BS.out rfl).mono ?_); clear tok1 tk1; rintro e w' ⟨rfl, rfl⟩) | (go_at_call 10; go_must (refine (sub_sum _ a1 a0 _ BS.out B1.out B0.out (by omega)).mono ?_); rintro e w' ⟨rfl, rfl⟩) | (go_at_call 12; go_must (refine (div_bad _ _ _ B0.out B1.out hb).mono ?_); rintro e w' ⟨rfl, k1, rfl⟩) | (go_at_call 7; refine (alive_any _).mono ?_; rintro e w3 ⟨rfl, hb3⟩))
      go_ret
      exact ⟨rfl, (below_drewN ((Below.refl _ _).alloc (Nat.le_refl _) _) _).trans (hb3.mono (by simp))⟩
    · have BS := Lib.hid hs
      clear hs
      go_enter Try.func6, Try.ntmps6
      go_wp2_with (first | (go_at_call 8; have tk1 := tok1; go_must (refine (add_over _ _ a0 a1 _ (by exact (two_cells_at _ _ _ _ _ (by simp)).1) (by exact (two_cells_at _ _ _ _ _ (by simp)).2) B0.out B1.out BS.out).mono ?_); clear tok1 tk1; rintro e w' ⟨rfl, rfl⟩) | (go_at_call 12; go_must (refine (div_bad _ _ _ B0.out B1.out hb).mono ?_); rintro e w' ⟨rfl, k1, rfl⟩) | (go_at_call 7; refine (alive_any _).mono ?_; rintro e w3 ⟨rfl, hb3⟩))
      go_ret
      exact ⟨rfl, (below_drewN ((Below.refl _ _).alloc (Nat.le_refl _) _) _).trans (hb3.mono (by simp))⟩
  · have hb : 1 ≤ a1 := by omega
    obtain ⟨r0, r1⟩ := emod_bd a0 a1 hb
    have hn := neg_of_out a0 a1 hb B0.out
    have BQ := Lib.hid (show Fits (a0 / a1) from ediv_bd a0 a1 hb B0.out)
    have BR := Lib.hid (show Fits (a0 % a1) from ⟨by omega, by have := B1.out.2; omega⟩)
    have MR := div_sum a0 a1
    generalize hq : a0 / a1 = q at *
    generalize hr : a0 % a1 = r at *
    generalize hm : q * a1 = m at *
    have Q := Lib.hid hq
    have R := Lib.hid hr
    have M := Lib.hid hm
    have MR := Lib.hid MR
    clear hq hr hm
    rename_i gone
    clear gone
    by_cases hf : Fits m
    · have BM := Lib.hid hf
      clear hf hn
      by_cases hs : Fits (a0 + a1)
      · have BS := Lib.hid hs
        clear hs
        go_enter Try.func6, Try.ntmps6
        go_wp2_with (first | (go_at_call 8; have tk1 := tok1; go_must (refine (add_fits _ _ a0 a1 (a0 + a1) _ (by exact (two_cells_at _ _ _ _ _ (by simp)).1) (by exact (two_cells_at _ _ _ _ _ (by simp)).2) B0.out B1.out BS.out rfl).mono ?_); clear tok1 tk1; rintro e w' ⟨rfl, rfl⟩) | (go_at_call 10; go_must (refine (sub_sum _ a1 a0 _ BS.out B1.out B0.out (by omega)).mono ?_); rintro e w' ⟨rfl, rfl⟩) | (go_at_call 12; go_must (refine (div_good a0 a1 q r _ B0.out B1.out hb Q.out R.out).mono ?_); rintro e w' ⟨rfl, k1, rfl⟩) | (go_at_call 11; go_must (refine (mul_fits q a1 m _ BQ.out B1.out BM.out M.out).mono ?_); rintro e w' ⟨rfl, rfl⟩) | (go_at_call 8; go_must (refine (add_fits _ _ m r a0 _ (by exact (two_cells_at _ _ _ _ _ (by simp)).1) (by exact (two_cells_at _ _ _ _ _ (by simp)).2) BM.out BR.out B0.out MR.out).mono ?_); rintro e w' ⟨rfl, rfl⟩) | (go_at_call 7; refine (alive_any _).mono ?_; rintro e w3 ⟨rfl, hb3⟩))
        go_ret
        exact ⟨rfl, ((below_drewN ((Below.refl _ _).alloc (Nat.le_refl _) _) _).alloc (by simp) _).trans (hb3.mono (by simp; omega))⟩
      · have BS := Lib.hid hs
        clear hs
        go_enter Try.func6, Try.ntmps6
        go_wp2_with (first | (go_at_call 8; have tk1 := tok1; go_must (refine (add_over _ _ a0 a1 _ (by exact (two_cells_at _ _ _ _ _ (by simp)).1) (by exact (two_cells_at _ _ _ _ _ (by simp)).2) B0.out B1.out BS.out).mono ?_); clear tok1 tk1; rintro e w' ⟨rfl, rfl⟩) | (go_at_call 12; go_must (refine (div_good a0 a1 q r _ B0.out B1.out hb Q.out R.out).mono ?_); rintro e w' ⟨rfl, k1, rfl⟩) | (go_at_call 11; go_must (refine (mul_fits q a1 m _ BQ.out B1.out BM.out M.out).mono ?_); rintro e w' ⟨rfl, rfl⟩) | (go_at_call 8; go_must (refine (add_fits _ _ m r a0 _ (by exact (two_cells_at _ _ _ _ _ (by simp)).1) (by exact (two_cells_at _ _ _ _ _ (by simp)).2) BM.out BR.out B0.out MR.out).mono ?_); rintro e w' ⟨rfl, rfl⟩) | (go_at_call 7; refine (alive_any _).mono ?_; rintro e w3 ⟨rfl, hb3⟩))
        go_ret
        exact ⟨rfl, ((below_drewN ((Below.refl _ _).alloc (Nat.le_refl _) _) _).alloc (by simp) _).trans (hb3.mono (by simp; omega))⟩
    · have n0 : a0 < 0 := hn hf
      have BM := Lib.hid (show ¬ Fits (q * a1) by rw [M.out]; exact hf)
      clear hf hn
      by_cases hs : Fits (a0 + a1)
      · have BS := Lib.hid hs
        clear hs
        go_enter Try.func6, Try.ntmps6
        go_wp2_with (first | (go_at_call 8; have tk1 := tok1; go_must (refine (add_fits _ _ a0 a1 (a0 + a1) _ (by exact (two_cells_at _ _ _ _ _ (by simp)).1) (by exact (two_cells_at _ _ _ _ _ (by simp)).2) B0.out B1.out BS.out rfl).mono ?_); clear tok1 tk1; rintro e w' ⟨rfl, rfl⟩) | (go_at_call 10; go_must (refine (sub_sum _ a1 a0 _ BS.out B1.out B0.out (by omega)).mono ?_); rintro e w' ⟨rfl, rfl⟩) | (go_at_call 12; go_must (refine (div_good a0 a1 q r _ B0.out B1.out hb Q.out R.out).mono ?_); rintro e w' ⟨rfl, k1, rfl⟩) | (go_at_call 11; go_must (refine (mul_out q a1 _ BQ.out B1.out BM.out).mono ?_); rintro e w' ⟨rfl, rfl⟩) | (go_at_call 7; refine (alive_any _).mono ?_; rintro e w3 ⟨rfl, hb3⟩))
        go_ret
        exact ⟨rfl, (below_drewN ((Below.refl _ _).alloc (Nat.le_refl _) _) _).trans (hb3.mono (by simp))⟩
      · have BS := Lib.hid hs
        clear hs
        go_enter Try.func6, Try.ntmps6
        go_wp2_with (first | (go_at_call 8; have tk1 := tok1; go_must (refine (add_over _ _ a0 a1 _ (by exact (two_cells_at _ _ _ _ _ (by simp)).1) (by exact (two_cells_at _ _ _ _ _ (by simp)).2) B0.out B1.out BS.out).mono ?_); clear tok1 tk1; rintro e w' ⟨rfl, rfl⟩) | (go_at_call 12; go_must (refine (div_good a0 a1 q r _ B0.out B1.out hb Q.out R.out).mono ?_); rintro e w' ⟨rfl, k1, rfl⟩) | (go_at_call 11; go_must (refine (mul_out q a1 _ BQ.out B1.out BM.out).mono ?_); rintro e w' ⟨rfl, rfl⟩) | (go_at_call 7; refine (alive_any _).mono ?_; rintro e w3 ⟨rfl, hb3⟩))
        go_ret
        exact ⟨rfl, (below_drewN ((Below.refl _ _).alloc (Nat.le_refl _) _) _).trans (hb3.mono (by simp))⟩

set_option maxRecDepth 100000 in
theorem lifted (os : Os) (started : os.Started) (H : Type) (enc : TypeId × Value → H) :
    ReturnsInHanded {} Try.checked os 6 .any (Rows.minuteBackSpec.pre6 enc Try.prog Try.f6 Rows.minuteBackRow.domain false) (Rows.minuteBackSpec.post enc Try.prog Try.f6 false true false false) := by
  refine returnsInHanded_of_change (C := Try.checked) own started (by kernel_rfl) Try.func6
    (ChangeSpec.witness6 (enc := enc) (C := Try.checked) false ⟨#[], #[.int .i64 0, .int .i64 0], []⟩ 8 (by kernel_rfl) (by kernel_rfl) (by kernel_rfl) (by kernel_rfl)) ?_
  intro W base args ds gs before hval0 hW hcnd _
  have hval : ∀ (j : Nat) t v, Try.f6.params[j]? = some t → args[j]? = some v → Value.okWide Try.prog W .any base t v := hval0
  have hW' := hW
  obtain ⟨p, q, hA0, hV, rfl, hfz, hnd⟩ := hW
  have hA : DataW.TrodAll enc Try.prog W 0 (fun _ => true) true Try.f6.params.toList args.toList ds p := hA0
  rw [Try.params6] at hA hval
  obtain ⟨v0, vs0, d0, ds0, p0, q0, hargs, rfl, rfl, h0, r0⟩ := trodAll_cons hA
  obtain ⟨v1, vs1, d1, ds1, p1, q1, rfl, rfl, rfl, h1, r1⟩ := trodAll_cons r0
  obtain ⟨rfl, rfl, rfl⟩ := trodAll_nil r1
  obtain rfl : args = #[v0, v1] := by cases args; simp_all
  obtain ⟨rfl, rfl⟩ := trodVars_none hV
  obtain ⟨a0, rfl, rfl, rfl, w0⟩ := open_int Try.underlying3 (hval 0 3 v0 rfl rfl) h0
  obtain ⟨a1, rfl, rfl, rfl, w1⟩ := open_int Try.underlying3 (hval 1 3 v1 rfl rfl) h1
  clear hA0 hval0
  simp only [List.append_nil] at hW'
  refine (walk a0 a1 w0 w1 W).mono fun e W' ⟨he, bel⟩ => ?_
  subst he
  exact ⟨_, rfl, _, _, _, [], [], [], hW', trodAll_mk1 (shut_bool Try.underlying4 _), (trodAll_cons_mk (shut_int Try.underlying3 w0) (trodAll_cons_mk (shut_int Try.underlying3 w1) trodAll_mk0)), rfl, bel.frame _, fun h => by cases h⟩

theorem over : Rows.minuteBackRow.holds Try.pinned (OpenSpec.ofChange Rows.minuteBackSpec) :=
  OpenClaim.holds_of_wide 6 Try.f6 rfl rfl rfl rfl rfl rfl rfl ⟨rfl, rfl, rfl, rfl, rfl⟩ rfl rfl rfl rfl rfl (by kernel_rfl) Try.func6 (by kernel_rfl)
    (of_decide_eq_true (by kernel_rfl)) (by unfold Func.isWrapper; first | (rw [if_pos (by decide +kernel)]; kernel_rfl) | (rw [if_neg (by decide +kernel)]; exact ⟨rfl, rfl⟩))
    (fun os started H enc _ => lifted os started H enc)

theorem proved : Rows.MinuteBackSaid := over
#print axioms proved
end Go.Proofs.Ytpnfdeconinaoaa.minuteBack
