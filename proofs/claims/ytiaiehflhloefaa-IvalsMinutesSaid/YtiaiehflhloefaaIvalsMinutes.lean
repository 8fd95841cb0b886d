/- A minute is in the union, in what both have, in what one has alone, just if it should be; each of these is a set. Conditions: none (of more than thirty spans the law asks the example alone). -/
import Derived.Test.YtiaiehflhloefaaRows
import Derived.Test.YtiaiehflhloefaaMath
import Derived.Test.YtiaiehflhloefaaBase
import Derived.Test.YtiaiehflhloefaaIvalsWords
import Derived.Test.YtiaiehflhloefaaIvalsOpen
import Derived.Test.YtiaiehflhloefaaIvalsAlive
import Derived.Test.YtiaiehflhloefaaIvalsHas
import Derived.Test.YtiaiehflhloefaaIvalsRight
import Derived.Test.YtiaiehflhloefaaIvalsUnionC
import Derived.Test.YtiaiehflhloefaaIvalsBothC
import Derived.Test.YtiaiehflhloefaaIvalsGapsC
import Derived.WalkKit
import Derived.WalkSmall
import Derived.WalkSpells
import Derived.ProofKit
import Derived.OpenShut
import Derived.ShutString
import Derived.ChangeOld
import Derived.Below
import Derived.Lib.Hide
import Derived.OwnWalk
import Derived.Deep.RegionWith
namespace Go.Proofs.Ytiaiehflhloefaa.ivalsMinutes
open Go.ChangeShapes Go.WideShapes Go.ChangeAt Go.RowKit
open Go.ChangeMaps (open_string shut_string)
set_option linter.unusedVariables false

theorem own : ownKnob Try.prog.godebug = none := by kernel_rfl
theorem laidOut : laidOutB Try.prog = true := by kernel_rfl

set_option maxHeartbeats 4000000 in
theorem walk (w : World) (A0 : Option Addr) (c0 : Nat) (l0 : List Sp) (r0 : RdS w A0 l0) (b0 : Bd l0) (z0 : A0 = none → c0 = 0) (A1 : Option Addr) (c1 : Nat) (l1 : List Sp) (r1 : RdS w A1 l1) (b1 : Bd l1) (z1 : A1 = none → c1 = 0) (a2 : Int) (w2 : (Lit.int .i64 a2).wf = true) :
    Calls Try.prog 4 #[.slice A0 l0.length c0, .slice A1 l1.length c1, .int .i64 a2] w fun e w' => e = .returned (.bool true) ∧ Below w.heap.size w w' := by
  by_cases h30 : 30 < l0.length
  · have h30' : (30 : Int) < (l0.length : Int) := by omega
    go_enter Try.func4, Try.ntmps4
    go_wp2_with (go_at_call 8; refine (alive3_any _).mono ?_; rintro e w3 ⟨rfl, hb3⟩)
    go_ret
    exact ⟨rfl, hb3⟩
  · have h30' : (l0.length : Int) ≤ 30 := by omega
    by_cases h31 : 30 < l1.length
    · have h31' : (30 : Int) < (l1.length : Int) := by omega
      go_enter Try.func4, Try.ntmps4
      go_wp2_with (go_at_call 8; refine (alive3_any _).mono ?_; rintro e w3 ⟨rfl, hb3⟩)
      go_ret
      exact ⟨rfl, hb3⟩
    · have h31' : (l1.length : Int) ≤ 30 := by omega
      have CU := fun W (h : RdS W A0 l0) (h2 : RdS W A1 l1) => unionl_any A0 A1 c0 c1 l0 l1 W h h2 z0 z1 (by omega)
      have CV := fun W (h : RdS W A0 l0) (h2 : RdS W A1 l1) => bothl_any A0 A1 c0 c1 l0 l1 W h h2 (by omega) (by omega)
      have CW := fun W (h : RdS W A0 l0) (h2 : RdS W A1 l1) => minusl_any A0 A1 c0 c1 l0 l1 W h h2 (by omega) (by omega)
      have hu := setOf_ok (l0 ++ l1)
      have hv := bothOf_ok l0 l1
      have hx := minusOf_ok b0 b1
      have lu := setOf_len (l0 ++ l1)
      have lv := bothOf_len l0 l1
      have lx := minusOf_len l0 l1
      rw [List.length_append] at lu
      have D0 := fun A c W (h : RdS W A l0) => refhasl_any A c l0 a2 W h (by omega)
      have D1 := fun A c W (h : RdS W A l1) => refhasl_any A c l1 a2 W h (by omega)
      have D2 := fun A c W (h : RdS W A (setOf (l0 ++ l1))) => refhasl_any A c _ a2 W h (by omega)
      have D3 := fun A c W (h : RdS W A (bothOf l0 l1)) => refhasl_any A c _ a2 W h (by omega)
      have D4 := fun A c W (h : RdS W A (minusOf l0 l1)) => refhasl_any A c _ a2 W h (by omega)
      have E1 := fun A c W (h : RdS W A (setOf (l0 ++ l1))) => refrightl_any A c _ W h (by omega)
      have E2 := fun A c W (h : RdS W A (bothOf l0 l1)) => refrightl_any A c _ W h (by omega)
      have E3 := fun A c W (h : RdS W A (minusOf l0 l1)) => refrightl_any A c _ W h (by omega)
      rw [hu.2, hasL_append] at D2
      rw [hv.2] at D3
      rw [hx.2] at D4
      rw [(rightB_iff _).2 hu.1] at E1
      rw [(rightB_iff _).2 hv.1] at E2
      rw [(rightB_iff _).2 hx.1] at E3
      have HR0 := Lib.hid r0
      have HR1 := Lib.hid r1
      have H0 := Lib.hid (Below.refl w.heap.size w)
      clear hu hv hx lu lv lx b0 b1 r0 r1 z0 z1
      generalize setOf (l0 ++ l1) = su at *
      generalize bothOf l0 l1 = sv at *
      generalize minusOf l0 l1 = sx at *
      generalize hasL l0 a2 = g0 at *
      generalize hasL l1 a2 = g1 at *
      cases g0 <;> cases g1
      all_goals
        (try simp at D2 D3 D4)
        go_enter Try.func4, Try.ntmps4
        go_wp2_with (first
          | (go_at_call 16; refine (CU _ HR0.out HR1.out).mono ?_; rintro e w1 ⟨v1, rfl, ho1, hb1⟩; obtain ⟨Au, cu, rfl, hr1, _, _⟩ := ho1.form; have Ru := Lib.hid hr1; have H1 := Lib.hid (H0.out.trans (hb1.mono H0.out.size)); clear ho1 hr1)
          | (go_at_call 17; refine (CV _ (HR0.out.below H1.out) (HR1.out.below H1.out)).mono ?_; rintro e w2 ⟨v2, rfl, ho2, hb2⟩; obtain ⟨Av, cv, rfl, hr2, _, _⟩ := ho2.form; have Rv := Lib.hid hr2; have H2 := Lib.hid (H1.out.trans (hb2.mono H1.out.size)); clear ho2 hr2)
          | (go_at_call 18; refine (CW _ (HR0.out.below H2.out) (HR1.out.below H2.out)).mono ?_; rintro e w3 ⟨v3, rfl, ho3, hb3⟩; obtain ⟨Ax, cx, rfl, hr3, _, _⟩ := ho3.form; have Rx := Lib.hid hr3; have H3 := Lib.hid (H2.out.trans (hb3.mono H2.out.size)); clear ho3 hr3)
          | (go_at_call_of 15 (Value.slice A0 l0.length c0); refine (D0 _ _ _ (HR0.out.below H3.out)).mono ?_; rintro e w4 ⟨rfl, hb4⟩; have H4 := Lib.hid (H3.out.trans (hb4.mono H3.out.size)))
          | (go_at_call_of 15 (Value.slice A1 l1.length c1); refine (D1 _ _ _ (HR1.out.below H4.out)).mono ?_; rintro e w5 ⟨rfl, hb5⟩; have H5 := Lib.hid (H4.out.trans (hb5.mono H4.out.size)))
          | (go_at_call_of 13 (Value.slice Au su.length cu); refine (E1 _ _ _ (Ru.out.below (b_tr (b_tr (b_tr hb2 hb3) hb4) hb5))).mono ?_; rintro e w6 ⟨rfl, hb6⟩; have H6 := Lib.hid (H5.out.trans (hb6.mono H5.out.size)))
          | (go_at_call_of 13 (Value.slice Av sv.length cv); refine (E2 _ _ _ (Rv.out.below (b_tr (b_tr (b_tr hb3 hb4) hb5) hb6))).mono ?_; rintro e w7 ⟨rfl, hb7⟩; have H7 := Lib.hid (H6.out.trans (hb7.mono H6.out.size)))
          | (go_at_call_of 13 (Value.slice Ax sx.length cx); refine (E3 _ _ _ (Rx.out.below (b_tr (b_tr (b_tr hb4 hb5) hb6) hb7))).mono ?_; rintro e w8 ⟨rfl, hb8⟩; have H8 := Lib.hid (H7.out.trans (hb8.mono H7.out.size)))
          | (go_at_call_of 15 (Value.slice Au su.length cu); refine (D2 _ _ _ (Ru.out.below (b_tr (b_tr (b_tr (b_tr (b_tr (b_tr hb2 hb3) hb4) hb5) hb6) hb7) hb8))).mono ?_; rintro e w9 ⟨rfl, hb9⟩; have H9 := Lib.hid (H8.out.trans (hb9.mono H8.out.size)))
          | (go_at_call_of 15 (Value.slice Av sv.length cv); refine (D3 _ _ _ (Rv.out.below (b_tr (b_tr (b_tr (b_tr (b_tr (b_tr hb3 hb4) hb5) hb6) hb7) hb8) hb9))).mono ?_; rintro e w10 ⟨rfl, hb10⟩; have H10 := Lib.hid (H9.out.trans (hb10.mono H9.out.size)))
          | (go_at_call_of 15 (Value.slice Ax sx.length cx); refine (D4 _ _ _ (Rx.out.below (b_tr (b_tr (b_tr (b_tr (b_tr (b_tr hb4 hb5) hb6) hb7) hb8) hb9) hb10))).mono ?_; rintro e w11 ⟨rfl, hb11⟩; have H11 := Lib.hid (H10.out.trans (hb11.mono H10.out.size)))
          | (go_at_call 8; refine (alive3_any _).mono ?_; rintro e w12 ⟨rfl, hb12⟩))
        go_ret
        exact ⟨rfl, H11.out.trans (hb12.mono H11.out.size)⟩

set_option maxRecDepth 100000 in
theorem lifted (os : Os) (started : os.Started) (H : Type) (enc : TypeId × Value → H) :
    ReturnsInHanded {} Try.checked os 4 .any (Rows.ivalsMinutesSpec.pre6 enc Try.prog Try.f4 Rows.ivalsMinutesRow.domain false) (Rows.ivalsMinutesSpec.post enc Try.prog Try.f4 false true false false) := by
  refine returnsInHanded_of_change (C := Try.checked) own started (by kernel_rfl) Try.func4
    (ChangeSpec.witness6 (enc := enc) (C := Try.checked) false ⟨#[], #[.slice none 0 0, .slice none 0 0, .int .i64 0], []⟩ 8 (by kernel_rfl) (by kernel_rfl) (by kernel_rfl) (by kernel_rfl)) ?_
  intro W base args ds gs before hval0 hW hcnd _
  have hval : ∀ (j : Nat) t v, Try.f4.params[j]? = some t → args[j]? = some v → Value.okWide Try.prog W .any base t v := hval0
  have hW' := hW
  obtain ⟨p, q, hA0, hV, rfl, hfz, hnd⟩ := hW
  have hA : DataW.TrodAll enc Try.prog W 0 (fun _ => true) true Try.f4.params.toList args.toList ds p := hA0
  rw [Try.params4] at hA hval
  obtain ⟨v0, vs0, d0, ds0, p0, q0, hargs, rfl, rfl, h0, r0⟩ := trodAll_cons hA
  obtain ⟨v1, vs1, d1, ds1, p1, q1, rfl, rfl, rfl, h1, r1⟩ := trodAll_cons r0
  obtain ⟨v2, vs2, d2, ds2, p2, q2, rfl, rfl, rfl, h2, r2⟩ := trodAll_cons r1
  obtain ⟨rfl, rfl, rfl⟩ := trodAll_nil r2
  obtain rfl : args = #[v0, v1, v2] := by cases args; simp_all
  obtain ⟨rfl, rfl⟩ := trodVars_none hV
  have k0 := h0
  have lt0 : ∀ x ∈ p0, x.block < W.heap.size := by obtain ⟨m, hm⟩ := k0; exact DataW.trod_lt m _ _ _ hm
  obtain ⟨A0, n0, c0, l0, rfl, rfl, rd0, bd0, zz0⟩ := open_spansz (hval 0 22 v0 rfl rfl) h0
  have k1 := h1
  have lt1 : ∀ x ∈ p1, x.block < W.heap.size := by obtain ⟨m, hm⟩ := k1; exact DataW.trod_lt m _ _ _ hm
  obtain ⟨A1, n1, c1, l1, rfl, rfl, rd1, bd1, zz1⟩ := open_spansz (hval 1 22 v1 rfl rfl) h1
  obtain ⟨a2, rfl, rfl, rfl, w2⟩ := open_int Try.underlying3 (hval 2 3 v2 rfl rfl) h2
  clear hA0 hval0
  refine (walk W A0 c0 l0 rd0 bd0 zz0 A1 c1 l1 rd1 bd1 zz1 a2 w2).mono fun e W' ⟨he, bel⟩ => ?_
  subst he
  exact ⟨_, rfl, _, _, _, [], _, [], hW', trodAll_mk1 (shut_bool Try.underlying4 _), (trodAll_cons_mk (Below.trod laidOut (by kernel_rfl) (of_decide_eq_true (by kernel_rfl)) k0 bel lt0) (trodAll_cons_mk (Below.trod laidOut (by kernel_rfl) (of_decide_eq_true (by kernel_rfl)) k1 bel lt1) (trodAll_cons_mk (shut_int Try.underlying3 w2) trodAll_mk0))), rfl, bel.frame _, fun h => by cases h⟩

theorem over : Rows.ivalsMinutesRow.holds Try.pinned (OpenSpec.ofChange Rows.ivalsMinutesSpec) :=
  OpenClaim.holds_of_wide 4 Try.f4 rfl rfl rfl rfl rfl rfl rfl ⟨rfl, rfl, rfl, rfl, rfl⟩ rfl rfl rfl rfl rfl (by kernel_rfl) Try.func4 (by kernel_rfl)
    (of_decide_eq_true (by kernel_rfl)) (by unfold Func.isWrapper; first | (rw [if_pos (by decide +kernel)]; kernel_rfl) | (rw [if_neg (by decide +kernel)]; exact ⟨rfl, rfl⟩))
    (fun os started H enc _ => lifted os started H enc)

theorem proved : Rows.IvalsMinutesSaid := over
#print axioms proved
end Go.Proofs.Ytiaiehflhloefaa.ivalsMinutes
