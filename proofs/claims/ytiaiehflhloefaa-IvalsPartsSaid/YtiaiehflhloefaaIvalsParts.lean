/- What both lists have, and what one has alone, are together that one. Conditions: none (of more than thirty spans the law asks the example alone). -/
import Derived.Test.YtiaiehflhloefaaRows
import Derived.Test.YtiaiehflhloefaaMath
import Derived.Test.YtiaiehflhloefaaBase
import Derived.Test.YtiaiehflhloefaaIvalsWords
import Derived.Test.YtiaiehflhloefaaIvalsOpen
import Derived.Test.YtiaiehflhloefaaIvalsAlive
import Derived.Test.YtiaiehflhloefaaIvalsSame
import Derived.Test.YtiaiehflhloefaaIvalsUnionC
import Derived.Test.YtiaiehflhloefaaIvalsBothC
import Derived.Test.YtiaiehflhloefaaIvalsGapsC
import Derived.WalkKit
import Derived.WalkSmall
import Derived.WalkSpells
import Derived.ProofKit
import Derived.OpenShut
import Derived.ShutString
import Derived.ChangeOld
import Derived.Below
import Derived.Lib.Hide
import Derived.OwnWalk
import Derived.Deep.RegionWith
namespace Go.Proofs.Ytiaiehflhloefaa.ivalsParts
open Go.ChangeShapes Go.WideShapes Go.ChangeAt Go.RowKit
open Go.ChangeMaps (open_string shut_string)
set_option linter.unusedVariables false

theorem own : ownKnob Try.prog.godebug = none := by kernel_rfl
theorem laidOut : laidOutB Try.prog = true := by kernel_rfl

set_option maxHeartbeats 2000000 in
theorem walk (w : World) (A0 : Option Addr) (c0 : Nat) (l0 : List Sp) (r0 : RdS w A0 l0) (b0 : Bd l0) (z0 : A0 = none → c0 = 0) (A1 : Option Addr) (c1 : Nat) (l1 : List Sp) (r1 : RdS w A1 l1) (b1 : Bd l1) (z1 : A1 = none → c1 = 0) :
    Calls Try.prog 5 #[.slice A0 l0.length c0, .slice A1 l1.length c1] w fun e w' => e = .returned (.bool true) ∧ Below w.heap.size w w' := by
  by_cases h30 : 30 < l0.length
  · have h30' : (30 : Int) < (l0.length : Int) := by omega
    go_enter Try.func5, Try.ntmps5
    go_wp2_with (go_at_call 8; refine (alive3_any _).mono ?_; rintro e w3 ⟨rfl, hb3⟩)
    go_ret
    exact ⟨rfl, hb3⟩
  · have h30' : (l0.length : Int) ≤ 30 := by omega
    by_cases h31 : 30 < l1.length
    · have h31' : (30 : Int) < (l1.length : Int) := by omega
      go_enter Try.func5, Try.ntmps5
      go_wp2_with (go_at_call 8; refine (alive3_any _).mono ?_; rintro e w3 ⟨rfl, hb3⟩)
      go_ret
      exact ⟨rfl, hb3⟩
    · have h31' : (l1.length : Int) ≤ 30 := by omega
      have lv := bothOf_len l0 l1
      have lx := minusOf_len l0 l1
      have ls := setOf_len l0
      have CB1 := fun W (h : RdS W A0 l0) (h2 : RdS W A1 l1) => bothl_any A0 A1 c0 c1 l0 l1 W h h2 (by omega) (by omega)
      have CM1 := fun W (h : RdS W A0 l0) (h2 : RdS W A1 l1) => minusl_any A0 A1 c0 c1 l0 l1 W h h2 (by omega) (by omega)
      have CB2 := fun W (h : RdS W A0 l0) => bothl_any A0 A0 c0 c0 l0 l0 W h h (by omega) (by omega)
      have CM2 := fun W (h : RdS W A0 l0) => minusl_any A0 A0 c0 c0 l0 l0 W h h (by omega) (by omega)
      have CK := fun W (h : RdS W A0 l0) => makel_any A0 c0 l0 W h (by omega)
      have CU := fun A B c d W (h : RdS W A (bothOf l0 l1)) (h2 : RdS W B (minusOf l0 l1)) (z : A = none → c = 0) (z2 : B = none → d = 0) => unionl_any A B c d _ _ W h h2 z z2 (by omega)
      have CS := fun A B c d W (h : RdS W A (setOf l0)) (h2 : RdS W B (setOf l0)) => same_any A B c d (setOf l0) (setOf l0) W h h2 (by omega)
      rw [decide_eq_true (rfl : setOf l0 = setOf l0)] at CS
      rw [parts b0 b1] at CU
      rw [minus_self b0] at CM2
      rw [both_self] at CB2
      have HR0 := Lib.hid r0
      have HR1 := Lib.hid r1
      have H0 := Lib.hid (Below.refl w.heap.size w)
      have tok1 : True := trivial
      clear lv lx ls b0 b1 r0 r1 z0 z1
      generalize setOf l0 = s0 at *
      generalize bothOf l0 l1 = sv at *
      generalize minusOf l0 l1 = sx at *
      go_enter Try.func5, Try.ntmps5
      go_wp2_with (first
        | (go_at_call_of 17 (Value.slice A1 l1.length c1); refine (CB1 _ HR0.out HR1.out).mono ?_; rintro e w1 ⟨v1, rfl, ho1, hb1⟩; obtain ⟨Av, cv, rfl, hr1, _, _⟩ := ho1.form; have Rv := Lib.hid hr1; have Zv := Lib.hid ho1.nilcap; have H1 := Lib.hid (H0.out.trans (hb1.mono H0.out.size)); clear ho1 hr1)
        | (go_at_call_of 18 (Value.slice A1 l1.length c1); refine (CM1 _ (HR0.out.below H1.out) (HR1.out.below H1.out)).mono ?_; rintro e w2 ⟨v2, rfl, ho2, hb2⟩; obtain ⟨Ax, cx, rfl, hr2, _, _⟩ := ho2.form; have Rx := Lib.hid hr2; have Zx := Lib.hid ho2.nilcap; have H2 := Lib.hid (H1.out.trans (hb2.mono H1.out.size)); clear ho2 hr2)
        | (go_at_call 16; refine (CU _ _ _ _ _ (Rv.out.below hb2) Rx.out Zv.out Zx.out).mono ?_; rintro e w3 ⟨v3, rfl, ho3, hb3⟩; obtain ⟨Au, cu, rfl, hr3, _, _⟩ := ho3.form; have Ru := Lib.hid hr3; have H3 := Lib.hid (H2.out.trans (hb3.mono H2.out.size)); clear ho3 hr3)
        | (go_at_call 10; have _t := tok1; refine (CK _ (HR0.out.below H3.out)).mono ?_; rintro e w4 ⟨v4, rfl, ho4, hb4⟩; clear tok1; obtain ⟨Am, cm, rfl, hr4, _, _⟩ := ho4.form; have Rm := Lib.hid hr4; have H4 := Lib.hid (H3.out.trans (hb4.mono H3.out.size)); clear ho4 hr4)
        | (go_at_call_of 9 (Value.slice Au s0.length cu); refine (CS _ _ _ _ _ (Ru.out.below hb4) Rm.out).mono ?_; rintro e w5 ⟨rfl, hb5⟩; have H5 := Lib.hid (H4.out.trans (hb5.mono H4.out.size)))
        | (go_at_call 18; refine (CM2 _ (HR0.out.below H5.out)).mono ?_; rintro e w6 ⟨v6, rfl, ho6, hb6⟩; obtain ⟨Ay, cy, rfl, hr6, _, _⟩ := ho6.form; have Ry := Lib.hid hr6; have H6 := Lib.hid (H5.out.trans (hb6.mono H5.out.size)); clear ho6 hr6)
        | (go_at_call 17; refine (CB2 _ (HR0.out.below H6.out)).mono ?_; rintro e w7 ⟨v7, rfl, ho7, hb7⟩; obtain ⟨Az, cz, rfl, hr7, _, _⟩ := ho7.form; have Rz := Lib.hid hr7; have H7 := Lib.hid (H6.out.trans (hb7.mono H6.out.size)); clear ho7 hr7)
        | (go_at_call 10; refine (CK _ (HR0.out.below H7.out)).mono ?_; rintro e w8 ⟨v8, rfl, ho8, hb8⟩; obtain ⟨Ak, ck, rfl, hr8, _, _⟩ := ho8.form; have Rk := Lib.hid hr8; have H8 := Lib.hid (H7.out.trans (hb8.mono H7.out.size)); clear ho8 hr8)
        | (go_at_call 9; refine (CS _ _ _ _ _ (Rz.out.below hb8) Rk.out).mono ?_; rintro e w9 ⟨rfl, hb9⟩; have H9 := Lib.hid (H8.out.trans (hb9.mono H8.out.size)))
        | (go_at_call 8; refine (alive3_any _).mono ?_; rintro e w10 ⟨rfl, hb10⟩))
      go_ret
      exact ⟨rfl, H9.out.trans (hb10.mono H9.out.size)⟩

set_option maxRecDepth 100000 in
theorem lifted (os : Os) (started : os.Started) (H : Type) (enc : TypeId × Value → H) :
    ReturnsInHanded {} Try.checked os 5 .any (Rows.ivalsPartsSpec.pre6 enc Try.prog Try.f5 Rows.ivalsPartsRow.domain false) (Rows.ivalsPartsSpec.post enc Try.prog Try.f5 false true false false) := by
  refine returnsInHanded_of_change (C := Try.checked) own started (by kernel_rfl) Try.func5
    (ChangeSpec.witness6 (enc := enc) (C := Try.checked) false ⟨#[], #[.slice none 0 0, .slice none 0 0], []⟩ 8 (by kernel_rfl) (by kernel_rfl) (by kernel_rfl) (by kernel_rfl)) ?_
  intro W base args ds gs before hval0 hW hcnd _
  have hval : ∀ (j : Nat) t v, Try.f5.params[j]? = some t → args[j]? = some v → Value.okWide Try.prog W .any base t v := hval0
  have hW' := hW
  obtain ⟨p, q, hA0, hV, rfl, hfz, hnd⟩ := hW
  have hA : DataW.TrodAll enc Try.prog W 0 (fun _ => true) true Try.f5.params.toList args.toList ds p := hA0
  rw [Try.params5] at hA hval
  obtain ⟨v0, vs0, d0, ds0, p0, q0, hargs, rfl, rfl, h0, r0⟩ := trodAll_cons hA
  obtain ⟨v1, vs1, d1, ds1, p1, q1, rfl, rfl, rfl, h1, r1⟩ := trodAll_cons r0
  obtain ⟨rfl, rfl, rfl⟩ := trodAll_nil r1
  obtain rfl : args = #[v0, v1] := by cases args; simp_all
  obtain ⟨rfl, rfl⟩ := trodVars_none hV
  have k0 := h0
  have lt0 : ∀ x ∈ p0, x.block < W.heap.size := by obtain ⟨m, hm⟩ := k0; exact DataW.trod_lt m _ _ _ hm
  obtain ⟨A0, n0, c0, l0, rfl, rfl, rd0, bd0, zz0⟩ := open_spansz (hval 0 22 v0 rfl rfl) h0
  have k1 := h1
  have lt1 : ∀ x ∈ p1, x.block < W.heap.size := by obtain ⟨m, hm⟩ := k1; exact DataW.trod_lt m _ _ _ hm
  obtain ⟨A1, n1, c1, l1, rfl, rfl, rd1, bd1, zz1⟩ := open_spansz (hval 1 22 v1 rfl rfl) h1
  clear hA0 hval0
  refine (walk W A0 c0 l0 rd0 bd0 zz0 A1 c1 l1 rd1 bd1 zz1).mono fun e W' ⟨he, bel⟩ => ?_
  subst he
  exact ⟨_, rfl, _, _, _, [], _, [], hW', trodAll_mk1 (shut_bool Try.underlying4 _), (trodAll_cons_mk (Below.trod laidOut (by kernel_rfl) (of_decide_eq_true (by kernel_rfl)) k0 bel lt0) (trodAll_cons_mk (Below.trod laidOut (by kernel_rfl) (of_decide_eq_true (by kernel_rfl)) k1 bel lt1) trodAll_mk0)), rfl, bel.frame _, fun h => by cases h⟩

theorem over : Rows.ivalsPartsRow.holds Try.pinned (OpenSpec.ofChange Rows.ivalsPartsSpec) :=
  OpenClaim.holds_of_wide 5 Try.f5 rfl rfl rfl rfl rfl rfl rfl ⟨rfl, rfl, rfl, rfl, rfl⟩ rfl rfl rfl rfl rfl (by kernel_rfl) Try.func5 (by kernel_rfl)
    (of_decide_eq_true (by kernel_rfl)) (by unfold Func.isWrapper; first | (rw [if_pos (by decide +kernel)]; kernel_rfl) | (rw [if_neg (by decide +kernel)]; exact ⟨rfl, rfl⟩))
    (fun os started H enc _ => lifted os started H enc)

theorem proved : Rows.IvalsPartsSaid := over
#print axioms proved
end Go.Proofs.Ytiaiehflhloefaa.ivalsParts
