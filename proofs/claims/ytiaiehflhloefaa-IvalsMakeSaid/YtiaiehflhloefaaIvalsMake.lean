/- Make, Right and Has answer as the reference does. Conditions: none (of more than thirty spans the law asks the example alone). -/
import Derived.Test.YtiaiehflhloefaaRows
import Derived.Test.YtiaiehflhloefaaMath
import Derived.Test.YtiaiehflhloefaaBase
import Derived.Test.YtiaiehflhloefaaIvalsWords
import Derived.Test.YtiaiehflhloefaaIvalsOpen
import Derived.Test.YtiaiehflhloefaaIvalsAlive
import Derived.Test.YtiaiehflhloefaaIvalsHas
import Derived.Test.YtiaiehflhloefaaIvalsRight
import Derived.Test.YtiaiehflhloefaaIvalsHasC
import Derived.Test.YtiaiehflhloefaaIvalsRightC
import Derived.Test.YtiaiehflhloefaaIvalsRefMake
import Derived.WalkKit
import Derived.WalkSmall
import Derived.WalkSpells
import Derived.ProofKit
import Derived.OpenShut
import Derived.ShutString
import Derived.ChangeOld
import Derived.Below
import Derived.Lib.Hide
import Derived.OwnWalk
namespace Go.Proofs.Ytiaiehflhloefaa.ivalsMake
open Go.ChangeShapes Go.WideShapes Go.ChangeAt Go.RowKit
open Go.ChangeMaps (open_string shut_string)
set_option linter.unusedVariables false

theorem own : ownKnob Try.prog.godebug = none := by kernel_rfl
theorem laidOut : laidOutB Try.prog = true := by kernel_rfl

theorem walk (w : World) (A0 : Option Addr) (c0 : Nat) (l0 : List Sp) (r0 : RdS w A0 l0) (b0 : Bd l0) (a1 : Int) (w1 : (Lit.int .i64 a1).wf = true) :
    Calls Try.prog 3 #[.slice A0 l0.length c0, .int .i64 a1] w fun e w' => e = .returned (.bool true) ∧ Below w.heap.size w w' := by
  by_cases h30 : 30 < l0.length
  · have h30' : (30 : Int) < (l0.length : Int) := by omega
    go_enter Try.func3, Try.ntmps3
    go_wp2_with (go_at_call 8; refine (alive3_any _).mono ?_; rintro e w3 ⟨rfl, hb3⟩)
    go_ret
    exact ⟨rfl, hb3⟩
  · have h30' : (l0.length : Int) ≤ 30 := by omega
    have hl : l0.length ≤ 1000 := by omega
    have hl2 : l0.length ≤ 4611686018427387904 := by omega
    have hls : (setOf l0).length ≤ 4611686018427387904 := by have := setOf_len l0; omega
    have H0 := Lib.hid (Below.refl w.heap.size w)
    have C3 := fun A B c d W (ha : RdS W A (setOf l0)) (hb : RdS W B (setOf l0)) => same_any A B c d (setOf l0) (setOf l0) W ha hb hls
    have C4 := fun W (h : RdS W A0 l0) => rightl_any A0 c0 l0 W h hl2
    have C5 := fun W (h : RdS W A0 l0) => refrightl_any A0 c0 l0 W h hl2
    have C6 := fun W (h : RdS W A0 l0) => hasl_any A0 c0 l0 a1 W h hl2
    have C7 := fun W (h : RdS W A0 l0) => refhasl_any A0 c0 l0 a1 W h hl2
    rw [decide_eq_true (rfl : setOf l0 = setOf l0)] at C3
    generalize rightB l0 = g4 at C4 C5
    generalize hasL l0 a1 = g6 at C6 C7
    have HR := Lib.hid r0
    clear b0 r0
    go_enter Try.func3, Try.ntmps3
    go_wp2_with (first
      | (go_at_call 10; refine (makel_any A0 c0 l0 _ HR.out hl).mono ?_; rintro e w1 ⟨v1, rfl, ho1, hb1⟩; obtain ⟨A1, c1, rfl, hr1, _, _⟩ := ho1.form; have R1 := Lib.hid hr1; have H1 := Lib.hid (H0.out.trans (hb1.mono H0.out.size)); clear ho1 hr1)
      | (go_at_call 11; refine (refmake_any A0 c0 l0 _ (HR.out.below H1.out) hl).mono ?_; rintro e w2 ⟨v2, rfl, ho2, hb2⟩; obtain ⟨A2, c2, rfl, hr2, _, _⟩ := ho2.form; have R2 := Lib.hid hr2; have H2 := Lib.hid (H1.out.trans (hb2.mono H1.out.size)); clear ho2 hr2)
      | (go_at_call 9; refine (C3 _ _ _ _ _ (R1.out.below hb2) R2.out).mono ?_; rintro e w3 ⟨rfl, hb3⟩; have H3 := Lib.hid (H2.out.trans (hb3.mono H2.out.size)))
      | (go_at_call 12; refine (C4 _ (HR.out.below H3.out)).mono ?_; rintro e w4 ⟨rfl, hb4⟩; have H4 := Lib.hid (H3.out.trans (hb4.mono H3.out.size)))
      | (go_at_call 13; refine (C5 _ (HR.out.below H4.out)).mono ?_; rintro e w5 ⟨rfl, hb5⟩; have H5 := Lib.hid (H4.out.trans (hb5.mono H4.out.size)))
      | (go_at_call 14; refine (C6 _ (HR.out.below H5.out)).mono ?_; rintro e w6 ⟨rfl, hb6⟩; have H6 := Lib.hid (H5.out.trans (hb6.mono H5.out.size)))
      | (go_at_call 15; refine (C7 _ (HR.out.below H6.out)).mono ?_; rintro e w7 ⟨rfl, hb7⟩; have H7 := Lib.hid (H6.out.trans (hb7.mono H6.out.size)))
      | (go_at_call 8; refine (alive3_any _).mono ?_; rintro e w8 ⟨rfl, hb8⟩))
    go_ret
    exact ⟨rfl, H7.out.trans (hb8.mono H7.out.size)⟩

set_option maxRecDepth 100000 in
theorem lifted (os : Os) (started : os.Started) (H : Type) (enc : TypeId × Value → H) :
    ReturnsInHanded {} Try.checked os 3 .any (Rows.ivalsMakeSpec.pre6 enc Try.prog Try.f3 Rows.ivalsMakeRow.domain false) (Rows.ivalsMakeSpec.post enc Try.prog Try.f3 false true false false) := by
  refine returnsInHanded_of_change (C := Try.checked) own started (by kernel_rfl) Try.func3
    (ChangeSpec.witness6 (enc := enc) (C := Try.checked) false ⟨#[], #[.slice none 0 0, .int .i64 0], []⟩ 8 (by kernel_rfl) (by kernel_rfl) (by kernel_rfl) (by kernel_rfl)) ?_
  intro W base args ds gs before hval0 hW hcnd _
  have hval : ∀ (j : Nat) t v, Try.f3.params[j]? = some t → args[j]? = some v → Value.okWide Try.prog W .any base t v := hval0
  have hW' := hW
  obtain ⟨p, q, hA0, hV, rfl, hfz, hnd⟩ := hW
  have hA : DataW.TrodAll enc Try.prog W 0 (fun _ => true) true Try.f3.params.toList args.toList ds p := hA0
  rw [Try.params3] at hA hval
  obtain ⟨v0, vs0, d0, ds0, p0, q0, hargs, rfl, rfl, h0, r0⟩ := trodAll_cons hA
  obtain ⟨v1, vs1, d1, ds1, p1, q1, rfl, rfl, rfl, h1, r1⟩ := trodAll_cons r0
  obtain ⟨rfl, rfl, rfl⟩ := trodAll_nil r1
  obtain rfl : args = #[v0, v1] := by cases args; simp_all
  obtain ⟨rfl, rfl⟩ := trodVars_none hV
  have k0 := h0
  have lt0 : ∀ x ∈ p0, x.block < W.heap.size := by obtain ⟨m, hm⟩ := k0; exact DataW.trod_lt m _ _ _ hm
  obtain ⟨A0, n0, c0, l0, rfl, rfl, rd0, bd0⟩ := open_spans (hval 0 22 v0 rfl rfl) h0
  obtain ⟨a1, rfl, rfl, rfl, w1⟩ := open_int Try.underlying3 (hval 1 3 v1 rfl rfl) h1
  clear hA0 hval0
  refine (walk W A0 c0 l0 rd0 bd0 a1 w1).mono fun e W' ⟨he, bel⟩ => ?_
  subst he
  exact ⟨_, rfl, _, _, _, [], _, [], hW', trodAll_mk1 (shut_bool Try.underlying4 _), (trodAll_cons_mk (Below.trod laidOut (by kernel_rfl) (of_decide_eq_true (by kernel_rfl)) k0 bel lt0) (trodAll_cons_mk (shut_int Try.underlying3 w1) trodAll_mk0)), rfl, bel.frame _, fun h => by cases h⟩

theorem over : Rows.ivalsMakeRow.holds Try.pinned (OpenSpec.ofChange Rows.ivalsMakeSpec) :=
  OpenClaim.holds_of_wide 3 Try.f3 rfl rfl rfl rfl rfl rfl rfl ⟨rfl, rfl, rfl, rfl, rfl⟩ rfl rfl rfl rfl rfl (by kernel_rfl) Try.func3 (by kernel_rfl)
    (of_decide_eq_true (by kernel_rfl)) (by unfold Func.isWrapper; first | (rw [if_pos (by decide +kernel)]; kernel_rfl) | (rw [if_neg (by decide +kernel)]; exact ⟨rfl, rfl⟩))
    (fun os started H enc _ => lifted os started H enc)

theorem proved : Rows.IvalsMakeSaid := over
#print axioms proved
end Go.Proofs.Ytiaiehflhloefaa.ivalsMake
