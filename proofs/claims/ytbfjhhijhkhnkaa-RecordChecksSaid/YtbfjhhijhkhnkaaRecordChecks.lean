/- Check, Normal and IsNormal answer as the document says. Conditions: none (of more than two hundred records the law asks the example alone). -/
import Derived.Test.YtbfjhhijhkhnkaaRows
import Derived.Test.YtbfjhhijhkhnkaaBase
import Derived.Test.YtbfjhhijhkhnkaaRow
import Derived.Test.YtbfjhhijhkhnkaaRecMath
import Derived.Test.YtbfjhhijhkhnkaaRecMath2
import Derived.Test.YtbfjhhijhkhnkaaRecHeap
import Derived.Test.YtbfjhhijhkhnkaaRecOpen
import Derived.Test.YtbfjhhijhkhnkaaRecAlive
import Derived.Test.YtbfjhhijhkhnkaaRecSame
import Derived.Test.YtbfjhhijhkhnkaaRecSmall
import Derived.Test.YtbfjhhijhkhnkaaRecCheck
import Derived.Test.YtbfjhhijhkhnkaaRecCheckR
import Derived.Test.YtbfjhhijhkhnkaaRecNormal
import Derived.Test.YtbfjhhijhkhnkaaRecOf
import Derived.Test.YtbfjhhijhkhnkaaRecSpan
import Derived.WalkKit
import Derived.WalkSmall
import Derived.WalkSpells
import Derived.ProofKit
import Derived.OpenShut
import Derived.ShutString
import Derived.ChangeOld
import Derived.Below
import Derived.Lib.Hide
import Derived.OwnWalk
namespace Go.Proofs.Ytbfjhhijhkhnkaa.recordChecks
open Go.ChangeShapes Go.WideShapes Go.ChangeAt Go.RowKit
open Go.ChangeMaps (open_string shut_string)
set_option linter.unusedVariables false

theorem own : ownKnob Try.prog.godebug = none := by kernel_rfl
theorem laidOut : laidOutB Try.prog = true := by kernel_rfl

theorem walk (w : World) (A0 : Option Addr) (c0 : Nat) (l0 : List Rc) (r0 : RdR w A0 l0) (z0 : A0 = none → c0 = 0) :
    Calls Try.prog 3 #[.slice A0 l0.length c0] w fun e w' => e = .returned (.bool true) ∧ Below w.heap.size w w' := by
  by_cases h200 : 200 < l0.length
  · have h200' : (200 : Int) < (l0.length : Int) := by omega
    go_enter Try.func3, Try.ntmps3
    go_wp2_with (go_at_call 7; refine (alive8_any _).mono ?_; rintro e wz ⟨rfl, hbz⟩)
    go_ret
    exact ⟨rfl, hbz⟩
  · have h200' : (l0.length : Int) ≤ 200 := by omega
    have hl2 : l0.length ≤ 4611686018427387904 := by omega
    have htl : (nrmV l0).length ≤ 200 := by
      unfold nrmV
      split
      · exact Nat.le_trans (norm_len l0) (by omega)
      · simp
    have HR := Lib.hid r0
    have CK := fun W (h : RdR W A0 l0) => check_any A0 c0 l0 W h hl2
    have RCK := fun W (h : RdR W A0 l0) => refcheck_any A0 c0 l0 W h hl2
    have NM := fun W (h : RdR W A0 l0) => normal_any A0 c0 l0 W h (by omega)
    have RNM := fun W (h : RdR W A0 l0) => refnormal_any A0 c0 l0 W h hl2
    have IS := fun W (h : RdR W A0 l0) => isnormal_any A0 c0 l0 W h (by omega)
    have SM := fun A B c d W (ha : RdR W A (nrmV l0)) (hb : RdR W B (nrmV l0)) => sameR_any A B c d (nrmV l0).length (nrmV l0).length (nrmV l0) (nrmV l0) W (Lib.hid rfl) (Lib.hid rfl) ha hb (by omega)
    have SL := fun B d W (ha : RdR W A0 l0) (hb : RdR W B (nrmV l0)) => sameR_any A0 B c0 d l0.length (nrmV l0).length l0 (nrmV l0) W (Lib.hid rfl) (Lib.hid rfl) ha hb (by omega)
    rw [decide_eq_true (rfl : nrmV l0 = nrmV l0)] at SM
    clear htl r0 z0
    by_cases hc : (checkV l0).2 = 0
    · have hv : checkV l0 = (0, 0) := tl_check (check_tl hc)
      have hi : isnV l0 = decide (l0 = nrmV l0) := by unfold isnV; rw [hc]; rfl
      rw [hi] at IS
      rw [hv] at CK RCK NM RNM
      generalize decide (l0 = nrmV l0) = g at IS SL
      generalize nrmV l0 = t at NM RNM SM SL
      clear hc hv hi
      go_enter Try.func3, Try.ntmps3
      go_wp2_with (first
        | (go_at_call 8; (with_reducible refine (CK _ HR.out).mono ?_); rintro e w1 ⟨rfl, hb1⟩; have H1 := Lib.hid hb1; clear hb1)
        | (go_at_call 9; (with_reducible refine (RCK _ (HR.out.below H1.out)).mono ?_); rintro e w2 ⟨rfl, hb2⟩; have H2 := Lib.hid (b_tr H1.out hb2); clear hb2)
        | (go_at_call 10; (with_reducible refine (NM _ (HR.out.below H2.out)).mono ?_); rintro e w3 ⟨v3, rfl, ho3, hb3⟩; obtain ⟨A3, c3, rfl, hr3, _⟩ := ho3.read; have R3 := Lib.hid hr3; have H3 := Lib.hid (b_tr H2.out hb3); clear hb3 ho3 hr3)
        | (go_at_call 11; (with_reducible refine (RNM _ (HR.out.below H3.out)).mono ?_); rintro e w4 ⟨v4, rfl, ho4, hb4⟩; obtain ⟨A4, c4, rfl, hr4, _⟩ := ho4.read; have R4 := Lib.hid hr4; have R3' := Lib.hid (R3.out.below hb4); have H4 := Lib.hid (b_tr H3.out hb4); clear hb4 ho4 hr4)
        | (go_at_call 12; (with_reducible refine (SM A3 A4 c3 c4 _ R3'.out R4.out).mono ?_); rintro e w5 ⟨rfl, hb5⟩; have R4' := Lib.hid (R4.out.below hb5); have H5 := Lib.hid (b_tr H4.out hb5); clear hb5)
        | (go_at_call 13; (with_reducible refine (IS _ (HR.out.below H5.out)).mono ?_); rintro e w6 ⟨rfl, hb6⟩; have R4x := Lib.hid (R4'.out.below hb6); have H6 := Lib.hid (b_tr H5.out hb6); clear hb6)
        | (go_at_call 12; (with_reducible refine (SL A4 c4 _ (HR.out.below H6.out) R4x.out).mono ?_); rintro e w7 ⟨rfl, hb7⟩; have H7 := Lib.hid (b_tr H6.out hb7); clear hb7)
        | (go_at_call 7; refine (alive8_any _).mono ?_; rintro e wz ⟨rfl, hbz⟩))
      go_ret
      exact ⟨by simp, b_tr H7.out hbz⟩
    · obtain ⟨p, e, hv⟩ : ∃ p e, checkV l0 = (p, e) := ⟨_, _, rfl⟩
      have hi : isnV l0 = false := by
        unfold isnV
        have : ((checkV l0).2 == 0) = false := by simpa using hc
        rw [this]; rfl
      rw [hi] at IS
      rw [hv] at CK RCK NM RNM hc
      have e1 : (e == 0) = false := by simpa using hc
      generalize nrmV l0 = t at NM RNM SM
      clear hc hv hi SL
      go_enter Try.func3, Try.ntmps3
      go_wp2_with (first
        | (go_at_call 8; (with_reducible refine (CK _ HR.out).mono ?_); rintro e w1 ⟨rfl, hb1⟩; have H1 := Lib.hid hb1; clear hb1)
        | (go_at_call 9; (with_reducible refine (RCK _ (HR.out.below H1.out)).mono ?_); rintro e w2 ⟨rfl, hb2⟩; have H2 := Lib.hid (b_tr H1.out hb2); clear hb2)
        | (go_at_call 10; (with_reducible refine (NM _ (HR.out.below H2.out)).mono ?_); rintro e w3 ⟨v3, rfl, ho3, hb3⟩; obtain ⟨A3, c3, rfl, hr3, _⟩ := ho3.read; have R3 := Lib.hid hr3; have H3 := Lib.hid (b_tr H2.out hb3); clear hb3 ho3 hr3)
        | (go_at_call 11; (with_reducible refine (RNM _ (HR.out.below H3.out)).mono ?_); rintro e w4 ⟨v4, rfl, ho4, hb4⟩; obtain ⟨A4, c4, rfl, hr4, _⟩ := ho4.read; have R4 := Lib.hid hr4; have R3' := Lib.hid (R3.out.below hb4); have H4 := Lib.hid (b_tr H3.out hb4); clear hb4 ho4 hr4)
        | (go_at_call 12; (with_reducible refine (SM A3 A4 c3 c4 _ R3'.out R4.out).mono ?_); rintro e w5 ⟨rfl, hb5⟩; have R4' := Lib.hid (R4.out.below hb5); have H5 := Lib.hid (b_tr H4.out hb5); clear hb5)
        | (go_at_call 13; (with_reducible refine (IS _ (HR.out.below H5.out)).mono ?_); rintro e w6 ⟨rfl, hb6⟩; have R4x := Lib.hid (R4'.out.below hb6); have H6 := Lib.hid (b_tr H5.out hb6); clear hb6)
        | (go_at_call 7; refine (alive8_any _).mono ?_; rintro e wz ⟨rfl, hbz⟩))
      go_ret
      exact ⟨by simp, b_tr H6.out hbz⟩

set_option maxRecDepth 100000 in
theorem lifted (os : Os) (started : os.Started) (H : Type) (enc : TypeId × Value → H) :
    ReturnsInHanded {} Try.checked os 3 .any (Rows.recordChecksSpec.pre6 enc Try.prog Try.f3 Rows.recordChecksRow.domain false) (Rows.recordChecksSpec.post enc Try.prog Try.f3 false true false false) := by
  refine returnsInHanded_of_change (C := Try.checked) own started (by kernel_rfl) Try.func3
    (ChangeSpec.witness6 (enc := enc) (C := Try.checked) false ⟨#[], #[.slice none 0 0], []⟩ 8 (by kernel_rfl) (by kernel_rfl) (by kernel_rfl) (by kernel_rfl)) ?_
  intro W base args ds gs before hval0 hW hcnd _
  have hval : ∀ (j : Nat) t v, Try.f3.params[j]? = some t → args[j]? = some v → Value.okWide Try.prog W .any base t v := hval0
  have hW' := hW
  obtain ⟨p, q, hA0, hV, rfl, hfz, hnd⟩ := hW
  have hA : DataW.TrodAll enc Try.prog W 0 (fun _ => true) true Try.f3.params.toList args.toList ds p := hA0
  rw [Try.params3] at hA hval
  obtain ⟨v0, vs0, d0, ds0, p0, q0, hargs, rfl, rfl, h0, r0⟩ := trodAll_cons hA
  obtain ⟨rfl, rfl, rfl⟩ := trodAll_nil r0
  obtain rfl : args = #[v0] := by cases args; simp_all
  obtain ⟨rfl, rfl⟩ := trodVars_none hV
  have k0 := h0
  have lt0 : ∀ x ∈ p0, x.block < W.heap.size := by obtain ⟨m, hm⟩ := k0; exact DataW.trod_lt m _ _ _ hm
  obtain ⟨A0, n0, c0, l0, rfl, rfl, rd0, zz0⟩ := open_recs (hval 0 22 v0 rfl rfl) h0
  clear hA0 hval0
  refine (walk W A0 c0 l0 rd0 zz0).mono fun e W' ⟨he, bel⟩ => ?_
  subst he
  exact ⟨_, rfl, _, _, _, [], _, [], hW', trodAll_mk1 (shut_bool Try.underlying4 _), (trodAll_cons_mk (Below.trod laidOut (by kernel_rfl) (of_decide_eq_true (by kernel_rfl)) k0 bel lt0) trodAll_mk0), rfl, bel.frame _, fun h => by cases h⟩

theorem over : Rows.recordChecksRow.holds Try.pinned (OpenSpec.ofChange Rows.recordChecksSpec) :=
  OpenClaim.holds_of_wide 3 Try.f3 rfl rfl rfl rfl rfl rfl rfl ⟨rfl, rfl, rfl, rfl, rfl⟩ rfl rfl rfl rfl rfl (by kernel_rfl) Try.func3 (by kernel_rfl)
    (of_decide_eq_true (by kernel_rfl)) (by unfold Func.isWrapper; first | (rw [if_pos (by decide +kernel)]; kernel_rfl) | (rw [if_neg (by decide +kernel)]; exact ⟨rfl, rfl⟩))
    (fun os started H enc _ => lifted os started H enc)

theorem proved : Rows.RecordChecksSaid := over
#print axioms proved
end Go.Proofs.Ytbfjhhijhkhnkaa.recordChecks
