/- What lies on a truck on each leg of any loads, the most of it, and whether there is room for it, is as the document says, or the error. Conditions: none. -/
import Derived.Test.YthgdclcmohgciaaRows
import Derived.Test.YthgdclcmohgciaaBase
import Derived.Test.YthgdclcmohgciaaRow
import Derived.Test.YthgdclcmohgciaaRecMath
import Derived.Test.YthgdclcmohgciaaRecHeap
import Derived.Test.YthgdclcmohgciaaIntsOpen
import Derived.Test.YthgdclcmohgciaaIntsSame
import Derived.Test.YthgdclcmohgciaaIntsApp
import Derived.Test.YthgdclcmohgciaaApart
import Derived.Test.YthgdclcmohgciaaLoadMath
import Derived.Test.YthgdclcmohgciaaLoadC
import Derived.Test.YthgdclcmohgciaaLoadRef
import Derived.Test.YthgdclcmohgciaaLoadPart
import Derived.Test.YthgdclcmohgciaaLoadAlive
import Derived.WalkKit
import Derived.WalkSmall
import Derived.WalkSpells
import Derived.ProofKit
import Derived.OpenShut
import Derived.ShutString
import Derived.ChangeOld
import Derived.Below
import Derived.Lib.Hide
import Derived.OwnWalk
import Derived.Outline
import Derived.BigQuiet
import Derived.Deep.QuietTactic
import Derived.Deep.DeepCutAuto
namespace Go.Proofs.Ythgdclcmohgciaa.loadLegs
open Go.ChangeShapes Go.WideShapes Go.ChangeAt Go.RowKit
open Go.ChangeMaps (open_string shut_string)
set_option linter.unusedVariables false

theorem own : ownKnob Try.prog.godebug = none := by kernel_rfl
theorem laidOut : laidOutB Try.prog = true := by kernel_rfl

set_option maxRecDepth 20000 in
set_option maxHeartbeats 4000000 in
theorem walk (w : World) (A0 : Option Addr) (c0 : Nat) (l0 : List Int) (r0 : RdN w A0 l0) (z0 : A0 = none → c0 = 0) (a1 : Int) (w1 : (Lit.int .i64 a1).wf = true) :
    Calls Try.prog 3 #[.slice A0 l0.length c0, .int .i64 a1] w fun e w' => e = .returned (.bool true) ∧ Below w.heap.size w w' := by
  obtain ⟨n0, hn0⟩ : ∃ n, l0.length = n := ⟨_, rfl⟩
  rw [hn0]
  have HN := Lib.hid hn0
  have R0 := Lib.hid r0
  have B0 := Lib.hid (Below.refl w.heap.size w)
  have LG := fun W (h : RdN W A0 l0) => legs21_any A0 c0 n0 l0 W HN h
  have PK := fun W (h : RdN W A0 l0) => peak21_any A0 c0 n0 l0 W HN h
  have CK := fun W (h : RdN W A0 l0) => refcheck21_any A0 c0 n0 l0 W HN h
  have FT := fun W (h : RdN W A0 l0) => fits21_any a1 A0 c0 n0 l0 W HN h
  clear r0
  by_cases hmid : 100 < n0 ∧ n0 ≤ 2000
  · obtain ⟨h1, h2⟩ := hmid
    have i1 : (100 : Int) < (n0 : Int) := by omega
    have i2 : (n0 : Int) ≤ 2000 := by omega
    clear LG PK CK FT
    go_enter Try.func3, Try.ntmps3
    go_wp2_with (first
      | go_skip
      | (go_at_call 6; (with_reducible refine (alive21_any _).mono ?_); rintro e w9 ⟨rfl, hb9⟩; have B9 := Lib.hid (b_cl B0.out (Nat.le_refl _) hb9); clear hb9))
    go_ret
    exact ⟨by first | rfl | simp, B9.out⟩
  by_cases h0 : chkL l0 = 0
  · have hs : n0 ≤ 100 := by have := (chkL_ok h0).1; omega
    have i1 : (n0 : Int) ≤ 100 := by omega
    have RL := fun W (h : RdN W A0 l0) => reflegs21_any A0 c0 n0 l0 W HN h h0
    have RP := fun W (h : RdN W A0 l0) => refpeak21_any A0 c0 n0 l0 W HN h h0
    have hf : fitsE a1 l0 = decide (peakV l0 ≤ a1) := by unfold fitsE; simp [h0]
    have hml : (legsV l0).length = n0 + 1 := by rw [legsV_len, hn0]
    rw [hf] at FT
    rw [h0, legsE_ok h0] at LG
    rw [h0, peakE_ok h0] at PK
    rw [h0] at CK
    obtain ⟨m, hm⟩ : ∃ m, n0 + 1 = m := ⟨_, rfl⟩
    rw [hm] at hml
    have hml2 : m ≤ 4611686018427387904 := by omega
    have HML := Lib.hid hml
    generalize legsV l0 = L at *
    generalize peakV l0 = p at *
    clear hf h0 hmid hml hm hn0 hs
    go_enter Try.func3, Try.ntmps3
    go_wp2_with (first
      | go_skip
      | (go_at_call 7; (with_reducible refine (LG _ R0.out).mono ?_); rintro e w1 ⟨v1, rfl, ho1, hb1⟩; have R1 := Lib.hid (R0.out.below hb1); have B1 := Lib.hid (b_cl B0.out (Nat.le_refl _) hb1); obtain ⟨A1, c1, rfl, hr1⟩ := ho1.read; rw [HML.out]; have Y1 := Lib.hid hr1; clear ho1 hr1; clear hb1)
      | (go_at_call 8; (with_reducible refine (PK _ R1.out).mono ?_); rintro e w2 ⟨rfl, hb2⟩; have R2 := Lib.hid (R1.out.below hb2); have Y2 := Lib.hid (Y1.out.below hb2); have B2 := Lib.hid (b_cl B1.out (Nat.le_refl _) hb2); clear hb2)
      | (go_at_call 9; (with_reducible refine (CK _ R2.out).mono ?_); rintro e w22 ⟨rfl, rfl⟩)
      | (go_at_call 12; (with_reducible refine (RL _ R2.out).mono ?_); rintro e w3 ⟨v3, rfl, ho3, hb3⟩; have R3 := Lib.hid (R2.out.below hb3); have Y3 := Lib.hid (Y2.out.below hb3); have B3 := Lib.hid (b_cl B2.out (Nat.le_refl _) hb3); obtain ⟨A3, c3, rfl, hr3⟩ := ho3.read; rw [HML.out]; have Z3 := Lib.hid hr3; clear ho3 hr3; clear hb3)
      | (go_at_call 11; (with_reducible refine (sameN_any A1 A3 c1 c3 m m L L _ HML HML Y3.out Z3.out hml2 hml2).mono ?_); rintro e w4 ⟨rfl, hb4⟩; have R4 := Lib.hid (R3.out.below hb4); have B4 := Lib.hid (b_cl B3.out (Nat.le_refl _) hb4); rw [decide_eq_true (rfl : L = L)]; clear hb4)
      | (go_at_call 13; (with_reducible refine (RP _ R4.out).mono ?_); rintro e w5 ⟨rfl, hb5⟩; have R5 := Lib.hid (R4.out.below hb5); have B5 := Lib.hid (b_cl B4.out (Nat.le_refl _) hb5); clear hb5)
      | (go_at_call 10; (with_reducible refine (FT _ R5.out).mono ?_); rintro e w6 ⟨rfl, hb6⟩; have R6 := Lib.hid (R5.out.below hb6); have B6 := Lib.hid (b_cl B5.out (Nat.le_refl _) hb6); clear hb6)
      | (go_at_call 13; (with_reducible refine (RP _ R6.out).mono ?_); rintro e w7 ⟨rfl, hb7⟩; have R7 := Lib.hid (R6.out.below hb7); have B7 := Lib.hid (b_cl B6.out (Nat.le_refl _) hb7); clear hb7)
      | (go_at_call 6; (with_reducible refine (alive21_any _).mono ?_); rintro e w9 ⟨rfl, hb9⟩; have B9 := Lib.hid (b_cl B7.out (Nat.le_refl _) hb9); clear hb9))
    go_ret
    exact ⟨by first | rfl | simp, B9.out⟩
  · have hf : fitsE a1 l0 = false := by unfold fitsE; simp [h0]
    rw [hf] at FT
    rw [legsE_no h0] at LG
    rw [peakE_no h0] at PK
    obtain ⟨z, hz⟩ : ∃ z, chkL l0 = z := ⟨_, rfl⟩
    rw [hz] at LG PK CK h0
    have e1 : (z == 0) = false := by simpa using h0
    have e2 : (z != 0) = true := by simpa using h0
    have hside : (n0 : Int) ≤ 100 ∨ ((100 : Int) < (n0 : Int) ∧ (2000 : Int) < (n0 : Int)) := by omega
    clear hf h0 hmid hn0 hz
    rcases hside with i1 | ⟨i1, i2⟩
    all_goals
      go_enter Try.func3, Try.ntmps3
      go_wp2_with (first
        | go_skip
        | (go_at_call 7; (with_reducible refine (LG _ R0.out).mono ?_); rintro e w1 ⟨v1, rfl, ho1, hb1⟩; have R1 := Lib.hid (R0.out.below hb1); have B1 := Lib.hid (b_cl B0.out (Nat.le_refl _) hb1); obtain ⟨A1, c1, rfl, _⟩ := ho1.read; clear ho1; clear hb1)
        | (go_at_call 8; (with_reducible refine (PK _ R1.out).mono ?_); rintro e w2 ⟨rfl, hb2⟩; have R2 := Lib.hid (R1.out.below hb2); have B2 := Lib.hid (b_cl B1.out (Nat.le_refl _) hb2); clear hb2)
        | (go_at_call 9; (with_reducible refine (CK _ R2.out).mono ?_); rintro e w22 ⟨rfl, rfl⟩)
        | (go_at_call 10; (with_reducible refine (FT _ R2.out).mono ?_); rintro e w3 ⟨rfl, hb3⟩; have R3 := Lib.hid (R2.out.below hb3); have B3 := Lib.hid (b_cl B2.out (Nat.le_refl _) hb3); clear hb3)
        | (go_at_call 6; (with_reducible refine (alive21_any _).mono ?_); rintro e w9 ⟨rfl, hb9⟩; have B9 := Lib.hid (b_cl B3.out (Nat.le_refl _) hb9); clear hb9))
      go_ret
      exact ⟨by first | rfl | simp, B9.out⟩

set_option maxRecDepth 100000 in
theorem lifted (os : Os) (started : os.Started) (H : Type) (enc : TypeId × Value → H) :
    ReturnsInHanded {} Try.checked os 3 .any (Rows.loadLegsSpec.pre6 enc Try.prog Try.f3 Rows.loadLegsRow.domain false) (Rows.loadLegsSpec.post enc Try.prog Try.f3 false true false false) := by
  refine returnsInHanded_of_change (C := Try.checked) own started (by kernel_rfl) Try.func3
    (ChangeSpec.witness6 (enc := enc) (C := Try.checked) false ⟨#[], #[.slice none 0 0, .int .i64 0], []⟩ 8 (by kernel_rfl) (by kernel_rfl) (by kernel_rfl) (by kernel_rfl)) ?_
  intro W base args ds gs before hval0 hW hcnd _
  have hval : ∀ (j : Nat) t v, Try.f3.params[j]? = some t → args[j]? = some v → Value.okWide Try.prog W .any base t v := hval0
  have hW' := hW
  obtain ⟨p, q, hA0, hV, rfl, hfz, hnd⟩ := hW
  have hA : DataW.TrodAll enc Try.prog W 0 (fun _ => true) true Try.f3.params.toList args.toList ds p := hA0
  rw [Try.params3] at hA hval
  obtain ⟨v0, vs0, d0, ds0, p0, q0, hargs, rfl, rfl, h0, r0⟩ := trodAll_cons hA
  obtain ⟨v1, vs1, d1, ds1, p1, q1, rfl, rfl, rfl, h1, r1⟩ := trodAll_cons r0
  obtain ⟨rfl, rfl, rfl⟩ := trodAll_nil r1
  obtain rfl : args = #[v0, v1] := by cases args; simp_all
  obtain ⟨rfl, rfl⟩ := trodVars_none hV
  have k0 := h0
  have lt0 : ∀ x ∈ p0, x.block < W.heap.size := by obtain ⟨m, hm⟩ := k0; exact DataW.trod_lt m _ _ _ hm
  obtain ⟨A0, c0, l0, rfl, rd0, zz0⟩ := open_ints13 (hval 0 22 v0 rfl rfl) h0
  obtain ⟨a1, rfl, rfl, rfl, w1⟩ := open_int Try.underlying3 (hval 1 3 v1 rfl rfl) h1
  clear hA0 hval0
  refine (walk W A0 c0 l0 rd0 zz0 a1 w1).mono fun e W' ⟨he, bel⟩ => ?_
  subst he
  exact ⟨_, rfl, _, _, _, [], _, [], hW', trodAll_mk1 (shut_bool Try.underlying4 _), (trodAll_cons_mk (Below.trod laidOut (by kernel_rfl) (of_decide_eq_true (by kernel_rfl)) k0 bel lt0) (trodAll_cons_mk (shut_int Try.underlying3 w1) trodAll_mk0)), rfl, bel.frame _, fun h => by cases h⟩

theorem over : Rows.loadLegsRow.holds Try.pinned (OpenSpec.ofChange Rows.loadLegsSpec) :=
  OpenClaim.holds_of_wide 3 Try.f3 rfl rfl rfl rfl rfl rfl rfl ⟨rfl, rfl, rfl, rfl, rfl⟩ rfl rfl rfl rfl rfl (by kernel_rfl) Try.func3 (by kernel_rfl)
    (of_decide_eq_true (by kernel_rfl)) (by unfold Func.isWrapper; first | (rw [if_pos (by decide +kernel)]; kernel_rfl) | (rw [if_neg (by decide +kernel)]; exact ⟨rfl, rfl⟩))
    (fun os started H enc _ => lifted os started H enc)

theorem proved : Rows.LoadLegsSaid := over
#print axioms proved
end Go.Proofs.Ythgdclcmohgciaa.loadLegs
