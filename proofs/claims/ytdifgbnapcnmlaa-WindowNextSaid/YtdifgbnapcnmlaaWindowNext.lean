/- No service may begin between a minute and the next one that is told; none behind the last one. Conditions: none (of more than thirty spans the law asks the example alone). -/
import Derived.Test.YtdifgbnapcnmlaaRows
import Derived.Test.YtdifgbnapcnmlaaMath
import Derived.Test.YtdifgbnapcnmlaaBase
import Derived.Test.YtdifgbnapcnmlaaRow
import Derived.Test.YtdifgbnapcnmlaaIvalsWords
import Derived.Test.YtdifgbnapcnmlaaIvalsOwn
import Derived.Test.YtdifgbnapcnmlaaIvalsOpen
import Derived.Test.YtdifgbnapcnmlaaIvalsHas
import Derived.Test.YtdifgbnapcnmlaaIvalsHasC
import Derived.Test.YtdifgbnapcnmlaaIvalsNextC
import Derived.Test.YtdifgbnapcnmlaaWindowMath
import Derived.Test.YtdifgbnapcnmlaaWindowRef
import Derived.Test.YtdifgbnapcnmlaaWindowC
import Derived.Test.YtdifgbnapcnmlaaWindowAlive
import Derived.WalkKit
import Derived.WalkSmall
import Derived.WalkSpells
import Derived.ProofKit
import Derived.OpenShut
import Derived.ShutString
import Derived.ChangeOld
import Derived.Below
import Derived.Lib.Hide
import Derived.OwnWalk
namespace Go.Proofs.Ytdifgbnapcnmlaa.windowNext
open Go.ChangeShapes Go.WideShapes Go.ChangeAt Go.RowKit
open Go.ChangeMaps (open_string shut_string)
set_option linter.unusedVariables false

theorem own : ownKnob Try.prog.godebug = none := by kernel_rfl
theorem laidOut : laidOutB Try.prog = true := by kernel_rfl

set_option maxHeartbeats 4000000 in
theorem walk (w : World) (A0 : Option Addr) (c0 : Nat) (l0 : List Sp) (r0 : RdS w A0 l0) (b0 : Bd l0) (m : Int) (wm : (Lit.int .i64 m).wf = true) (n : Int) (wn : (Lit.int .i64 n).wf = true) :
    Calls Try.prog 5 #[.slice A0 l0.length c0, .int .i64 m, .int .i64 n] w fun e w' => e = .returned (.bool true) ∧ Below w.heap.size w w' := by
  by_cases h30 : 30 < l0.length
  · have h30' : (30 : Int) < (l0.length : Int) := by omega
    go_enter Try.func5, Try.ntmps5
    go_wp2_with (go_at_call 6; refine (alive18_any _).mono ?_; rintro e w3 ⟨rfl, hb3⟩)
    go_ret
    exact ⟨rfl, hb3⟩
  · have h30' : (l0.length : Int) ≤ 30 := by omega
    have hl : l0.length ≤ 4611686018427387904 := by omega
    have C1 := fun W (h : RdS W A0 l0) => next18_any A0 c0 l0 m W h hl b0
    have C2 := fun W (h : RdS W A0 l0) => last18_any A0 c0 l0 W h hl b0
    have CM := fun x W (h : RdS W A0 l0) => may18_any A0 c0 l0 x W h hl
    have N1 := fun h k => @next_no l0 m h n k
    have N2 := @next_has l0 m
    have N3 := fun h k k2 => @next_none l0 m h n k k2
    have N4 := @next_last l0 m
    have L1 := fun h => @last_no l0 h n
    have L2 := @last_has l0
    have L3 := fun h k => @last_end l0 h n k
    have M1 := fun (h : (nextL l0 m).2 = false) (k : (lastL l0).2 = true) => show ¬ m ≤ (lastL l0).1 from fun hh => by have := @next_no l0 m h _ hh; rw [L2 k] at this; cases this
    have HR := Lib.hid r0
    have H0 := Lib.hid (Below.refl w.heap.size w)
    clear b0 r0
    generalize (nextL l0 m).1 = a at C1 N2 N3 N4
    generalize (nextL l0 m).2 = g at C1 N1 N2 N3 N4 M1
    generalize (lastL l0).1 = b at C2 N4 L2 L3 M1
    generalize (lastL l0).2 = q at C2 N4 L1 L2 L3 M1
    have CN := CM n
    cases g with
    | true =>
      obtain ⟨hma, ha⟩ := N2 rfl
      obtain ⟨rfl, hab⟩ := N4 rfl
      have hb := L2 rfl
      have CA := CM a
      have CB := CM b
      rw [ha] at CA
      rw [hb] at CB
      clear M1 N1 N2 N4 L1 L2 CM
      have N3 := N3 rfl
      have L3 := L3 rfl
      clear ha hb
      by_cases hmn : m ≤ n
      · by_cases hna : n < a
        · rw [N3 hmn hna] at CN
          clear N3 L3
          have ham : decide (a < m) = false := decide_eq_false (by omega)
          have hba : decide (b < a) = false := decide_eq_false (by omega)
          have d1 : decide (m ≤ n) = true := decide_eq_true (by omega)
          have d2 : decide (n < a) = true := decide_eq_true (by omega)
          have d3 : decide (b < n) = false := decide_eq_false (by omega)
          go_enter Try.func5, Try.ntmps5
          go_wp2_with (first
            | (go_at_call 7; refine (C1 _ HR.out).mono ?_; rintro e w1 ⟨rfl, hb1⟩; have H1 := Lib.hid (H0.out.trans (hb1.mono H0.out.size)))
            | (go_at_call 9; refine (C2 _ (HR.out.below H1.out)).mono ?_; rintro e w2 ⟨rfl, hb2⟩; have H2 := Lib.hid (H1.out.trans (hb2.mono H1.out.size)))
            | (go_at_call_of 13 (Value.int .i64 a); refine (CA _ (HR.out.below H2.out)).mono ?_; rintro e w3 ⟨rfl, hb3⟩; have H3 := Lib.hid (H2.out.trans (hb3.mono H2.out.size)))
            | (go_at_call_of 13 (Value.int .i64 n); refine (CN _ (HR.out.below H3.out)).mono ?_; rintro e w4 ⟨rfl, hb4⟩; have H4 := Lib.hid (H3.out.trans (hb4.mono H3.out.size)))
            | (go_at_call_of 13 (Value.int .i64 b); refine (CB _ (HR.out.below H4.out)).mono ?_; rintro e w5 ⟨rfl, hb5⟩; have H5 := Lib.hid (H4.out.trans (hb5.mono H4.out.size)))
            | (go_at_call 6; refine (alive18_any _).mono ?_; rintro e w6 ⟨rfl, hb6⟩; have H6 := Lib.hid (H5.out.trans (hb6.mono H5.out.size))))
          go_ret
          exact ⟨rfl, H6.out⟩
        · by_cases hbn : b < n
          · rw [L3 hbn] at CN
            clear N3 L3
            have ham : decide (a < m) = false := decide_eq_false (by omega)
            have hba : decide (b < a) = false := decide_eq_false (by omega)
            have d1 : decide (m ≤ n) = true := decide_eq_true (by omega)
            have d2 : decide (n < a) = false := decide_eq_false (by omega)
            have d3 : decide (b < n) = true := decide_eq_true (by omega)
            go_enter Try.func5, Try.ntmps5
            go_wp2_with (first
              | (go_at_call 7; refine (C1 _ HR.out).mono ?_; rintro e w1 ⟨rfl, hb1⟩; have H1 := Lib.hid (H0.out.trans (hb1.mono H0.out.size)))
              | (go_at_call 9; refine (C2 _ (HR.out.below H1.out)).mono ?_; rintro e w2 ⟨rfl, hb2⟩; have H2 := Lib.hid (H1.out.trans (hb2.mono H1.out.size)))
              | (go_at_call_of 13 (Value.int .i64 a); refine (CA _ (HR.out.below H2.out)).mono ?_; rintro e w3 ⟨rfl, hb3⟩; have H3 := Lib.hid (H2.out.trans (hb3.mono H2.out.size)))
              | (go_at_call_of 13 (Value.int .i64 b); refine (CB _ (HR.out.below H3.out)).mono ?_; rintro e w4 ⟨rfl, hb4⟩; have H4 := Lib.hid (H3.out.trans (hb4.mono H3.out.size)))
              | (go_at_call_of 13 (Value.int .i64 n); refine (CN _ (HR.out.below H4.out)).mono ?_; rintro e w5 ⟨rfl, hb5⟩; have H5 := Lib.hid (H4.out.trans (hb5.mono H4.out.size)))
              | (go_at_call 6; refine (alive18_any _).mono ?_; rintro e w6 ⟨rfl, hb6⟩; have H6 := Lib.hid (H5.out.trans (hb6.mono H5.out.size))))
            go_ret
            exact ⟨rfl, H6.out⟩
          · clear N3 L3
            have ham : decide (a < m) = false := decide_eq_false (by omega)
            have hba : decide (b < a) = false := decide_eq_false (by omega)
            have d1 : decide (m ≤ n) = true := decide_eq_true (by omega)
            have d2 : decide (n < a) = false := decide_eq_false (by omega)
            have d3 : decide (b < n) = false := decide_eq_false (by omega)
            go_enter Try.func5, Try.ntmps5
            go_wp2_with (first
              | (go_at_call 7; refine (C1 _ HR.out).mono ?_; rintro e w1 ⟨rfl, hb1⟩; have H1 := Lib.hid (H0.out.trans (hb1.mono H0.out.size)))
              | (go_at_call 9; refine (C2 _ (HR.out.below H1.out)).mono ?_; rintro e w2 ⟨rfl, hb2⟩; have H2 := Lib.hid (H1.out.trans (hb2.mono H1.out.size)))
              | (go_at_call_of 13 (Value.int .i64 a); refine (CA _ (HR.out.below H2.out)).mono ?_; rintro e w3 ⟨rfl, hb3⟩; have H3 := Lib.hid (H2.out.trans (hb3.mono H2.out.size)))
              | (go_at_call_of 13 (Value.int .i64 b); refine (CB _ (HR.out.below H3.out)).mono ?_; rintro e w4 ⟨rfl, hb4⟩; have H4 := Lib.hid (H3.out.trans (hb4.mono H3.out.size)))
              | (go_at_call 6; refine (alive18_any _).mono ?_; rintro e w5 ⟨rfl, hb5⟩; have H5 := Lib.hid (H4.out.trans (hb5.mono H4.out.size))))
            go_ret
            exact ⟨rfl, H5.out⟩
      · clear N3 L3
        have ham : decide (a < m) = false := decide_eq_false (by omega)
        have hba : decide (b < a) = false := decide_eq_false (by omega)
        have d1 : decide (m ≤ n) = false := decide_eq_false (by omega)
        have d3 : decide (b < n) = false := decide_eq_false (by omega)
        go_enter Try.func5, Try.ntmps5
        go_wp2_with (first
          | (go_at_call 7; refine (C1 _ HR.out).mono ?_; rintro e w1 ⟨rfl, hb1⟩; have H1 := Lib.hid (H0.out.trans (hb1.mono H0.out.size)))
          | (go_at_call 9; refine (C2 _ (HR.out.below H1.out)).mono ?_; rintro e w2 ⟨rfl, hb2⟩; have H2 := Lib.hid (H1.out.trans (hb2.mono H1.out.size)))
          | (go_at_call_of 13 (Value.int .i64 a); refine (CA _ (HR.out.below H2.out)).mono ?_; rintro e w3 ⟨rfl, hb3⟩; have H3 := Lib.hid (H2.out.trans (hb3.mono H2.out.size)))
          | (go_at_call_of 13 (Value.int .i64 b); refine (CB _ (HR.out.below H3.out)).mono ?_; rintro e w4 ⟨rfl, hb4⟩; have H4 := Lib.hid (H3.out.trans (hb4.mono H3.out.size)))
          | (go_at_call 6; refine (alive18_any _).mono ?_; rintro e w5 ⟨rfl, hb5⟩; have H5 := Lib.hid (H4.out.trans (hb5.mono H4.out.size))))
        go_ret
        exact ⟨rfl, H5.out⟩
    | false =>
      cases q with
      | false =>
        rw [L1 rfl] at CN
        clear M1 N1 N2 N3 N4 L1 L2 L3 CM
        by_cases hmn : m ≤ n
        ·
          have d1 : decide (m ≤ n) = true := decide_eq_true (by omega)
          go_enter Try.func5, Try.ntmps5
          go_wp2_with (first
            | (go_at_call 7; refine (C1 _ HR.out).mono ?_; rintro e w1 ⟨rfl, hb1⟩; have H1 := Lib.hid (H0.out.trans (hb1.mono H0.out.size)))
            | (go_at_call 9; refine (C2 _ (HR.out.below H1.out)).mono ?_; rintro e w2 ⟨rfl, hb2⟩; have H2 := Lib.hid (H1.out.trans (hb2.mono H1.out.size)))
            | (go_at_call_of 13 (Value.int .i64 n); refine (CN _ (HR.out.below H2.out)).mono ?_; rintro e w3 ⟨rfl, hb3⟩; have H3 := Lib.hid (H2.out.trans (hb3.mono H2.out.size)))
            | (go_at_call 6; refine (alive18_any _).mono ?_; rintro e w4 ⟨rfl, hb4⟩; have H4 := Lib.hid (H3.out.trans (hb4.mono H3.out.size))))
          go_ret
          exact ⟨rfl, H4.out⟩
        ·
          have d1 : decide (m ≤ n) = false := decide_eq_false (by omega)
          go_enter Try.func5, Try.ntmps5
          go_wp2_with (first
            | (go_at_call 7; refine (C1 _ HR.out).mono ?_; rintro e w1 ⟨rfl, hb1⟩; have H1 := Lib.hid (H0.out.trans (hb1.mono H0.out.size)))
            | (go_at_call 9; refine (C2 _ (HR.out.below H1.out)).mono ?_; rintro e w2 ⟨rfl, hb2⟩; have H2 := Lib.hid (H1.out.trans (hb2.mono H1.out.size)))
            | (go_at_call 6; refine (alive18_any _).mono ?_; rintro e w3 ⟨rfl, hb3⟩; have H3 := Lib.hid (H2.out.trans (hb3.mono H2.out.size))))
          go_ret
          exact ⟨rfl, H3.out⟩
      | true =>
        have hb := L2 rfl
        have CB := CM b
        rw [hb] at CB
        have hmb := M1 rfl rfl
        have N1 := N1 rfl
        have L3 := L3 rfl
        clear M1 N2 N3 N4 L1 L2 CM hb
        by_cases hmn : m ≤ n
        · rw [N1 hmn] at CN
          clear N1 L3
          have d1 : decide (m ≤ n) = true := decide_eq_true (by omega)
          have d3 : decide (b < n) = true := decide_eq_true (by omega)
          have tok1 : True := trivial
          go_enter Try.func5, Try.ntmps5
          go_wp2_with (first
            | (go_at_call 7; refine (C1 _ HR.out).mono ?_; rintro e w1 ⟨rfl, hb1⟩; have H1 := Lib.hid (H0.out.trans (hb1.mono H0.out.size)))
            | (go_at_call 9; refine (C2 _ (HR.out.below H1.out)).mono ?_; rintro e w2 ⟨rfl, hb2⟩; have H2 := Lib.hid (H1.out.trans (hb2.mono H1.out.size)))
            | (go_at_call_of 13 (Value.int .i64 n); have _t := tok1; refine (CN _ (HR.out.below H2.out)).mono ?_; rintro e w3 ⟨rfl, hb3⟩; have H3 := Lib.hid (H2.out.trans (hb3.mono H2.out.size)); clear tok1)
            | (go_at_call_of 13 (Value.int .i64 b); refine (CB _ (HR.out.below H3.out)).mono ?_; rintro e w4 ⟨rfl, hb4⟩; have H4 := Lib.hid (H3.out.trans (hb4.mono H3.out.size)))
            | (go_at_call_of 13 (Value.int .i64 n); refine (CN _ (HR.out.below H4.out)).mono ?_; rintro e w5 ⟨rfl, hb5⟩; have H5 := Lib.hid (H4.out.trans (hb5.mono H4.out.size)))
            | (go_at_call 6; refine (alive18_any _).mono ?_; rintro e w6 ⟨rfl, hb6⟩; have H6 := Lib.hid (H5.out.trans (hb6.mono H5.out.size))))
          go_ret
          exact ⟨rfl, H6.out⟩
        · by_cases hbn : b < n
          · rw [L3 hbn] at CN
            clear N1 L3
            have d1 : decide (m ≤ n) = false := decide_eq_false (by omega)
            have d3 : decide (b < n) = true := decide_eq_true (by omega)
            go_enter Try.func5, Try.ntmps5
            go_wp2_with (first
              | (go_at_call 7; refine (C1 _ HR.out).mono ?_; rintro e w1 ⟨rfl, hb1⟩; have H1 := Lib.hid (H0.out.trans (hb1.mono H0.out.size)))
              | (go_at_call 9; refine (C2 _ (HR.out.below H1.out)).mono ?_; rintro e w2 ⟨rfl, hb2⟩; have H2 := Lib.hid (H1.out.trans (hb2.mono H1.out.size)))
              | (go_at_call_of 13 (Value.int .i64 b); refine (CB _ (HR.out.below H2.out)).mono ?_; rintro e w3 ⟨rfl, hb3⟩; have H3 := Lib.hid (H2.out.trans (hb3.mono H2.out.size)))
              | (go_at_call_of 13 (Value.int .i64 n); refine (CN _ (HR.out.below H3.out)).mono ?_; rintro e w4 ⟨rfl, hb4⟩; have H4 := Lib.hid (H3.out.trans (hb4.mono H3.out.size)))
              | (go_at_call 6; refine (alive18_any _).mono ?_; rintro e w5 ⟨rfl, hb5⟩; have H5 := Lib.hid (H4.out.trans (hb5.mono H4.out.size))))
            go_ret
            exact ⟨rfl, H5.out⟩
          · clear N1 L3
            have d1 : decide (m ≤ n) = false := decide_eq_false (by omega)
            have d3 : decide (b < n) = false := decide_eq_false (by omega)
            go_enter Try.func5, Try.ntmps5
            go_wp2_with (first
              | (go_at_call 7; refine (C1 _ HR.out).mono ?_; rintro e w1 ⟨rfl, hb1⟩; have H1 := Lib.hid (H0.out.trans (hb1.mono H0.out.size)))
              | (go_at_call 9; refine (C2 _ (HR.out.below H1.out)).mono ?_; rintro e w2 ⟨rfl, hb2⟩; have H2 := Lib.hid (H1.out.trans (hb2.mono H1.out.size)))
              | (go_at_call_of 13 (Value.int .i64 b); refine (CB _ (HR.out.below H2.out)).mono ?_; rintro e w3 ⟨rfl, hb3⟩; have H3 := Lib.hid (H2.out.trans (hb3.mono H2.out.size)))
              | (go_at_call 6; refine (alive18_any _).mono ?_; rintro e w4 ⟨rfl, hb4⟩; have H4 := Lib.hid (H3.out.trans (hb4.mono H3.out.size))))
            go_ret
            exact ⟨rfl, H4.out⟩

set_option maxRecDepth 100000 in
theorem lifted (os : Os) (started : os.Started) (H : Type) (enc : TypeId × Value → H) :
    ReturnsInHanded {} Try.checked os 5 .any (Rows.windowNextSpec.pre6 enc Try.prog Try.f5 Rows.windowNextRow.domain false) (Rows.windowNextSpec.post enc Try.prog Try.f5 false true false false) := by
  refine returnsInHanded_of_change (C := Try.checked) own started (by kernel_rfl) Try.func5
    (ChangeSpec.witness6 (enc := enc) (C := Try.checked) false ⟨#[], #[.slice none 0 0, .int .i64 0, .int .i64 0], []⟩ 8 (by kernel_rfl) (by kernel_rfl) (by kernel_rfl) (by kernel_rfl)) ?_
  intro W base args ds gs before hval0 hW hcnd _
  have hval : ∀ (j : Nat) t v, Try.f5.params[j]? = some t → args[j]? = some v → Value.okWide Try.prog W .any base t v := hval0
  have hW' := hW
  obtain ⟨p, q, hA0, hV, rfl, hfz, hnd⟩ := hW
  have hA : DataW.TrodAll enc Try.prog W 0 (fun _ => true) true Try.f5.params.toList args.toList ds p := hA0
  rw [Try.params5] at hA hval
  obtain ⟨v0, vs0, d0, ds0, p0, q0, hargs, rfl, rfl, h0, r0⟩ := trodAll_cons hA
  obtain ⟨v1, vs1, d1, ds1, p1, q1, rfl, rfl, rfl, h1, r1⟩ := trodAll_cons r0
  obtain ⟨v2, vs2, d2, ds2, p2, q2, rfl, rfl, rfl, h2, r2⟩ := trodAll_cons r1
  obtain ⟨rfl, rfl, rfl⟩ := trodAll_nil r2
  obtain rfl : args = #[v0, v1, v2] := by cases args; simp_all
  obtain ⟨rfl, rfl⟩ := trodVars_none hV
  have k0 := h0
  have lt0 : ∀ x ∈ p0, x.block < W.heap.size := by obtain ⟨m, hm⟩ := k0; exact DataW.trod_lt m _ _ _ hm
  obtain ⟨A0, n0, c0, l0, rfl, rfl, rd0, bd0⟩ := open_spans (hval 0 22 v0 rfl rfl) h0
  obtain ⟨a1, rfl, rfl, rfl, w1⟩ := open_int Try.underlying3 (hval 1 3 v1 rfl rfl) h1
  obtain ⟨a2, rfl, rfl, rfl, w2⟩ := open_int Try.underlying3 (hval 2 3 v2 rfl rfl) h2
  clear hA0 hval0
  refine (walk W A0 c0 l0 rd0 bd0 a1 w1 a2 w2).mono fun e W' ⟨he, bel⟩ => ?_
  subst he
  exact ⟨_, rfl, _, _, _, [], _, [], hW', trodAll_mk1 (shut_bool Try.underlying4 _), (trodAll_cons_mk (Below.trod laidOut (by kernel_rfl) (of_decide_eq_true (by kernel_rfl)) k0 bel lt0) (trodAll_cons_mk (shut_int Try.underlying3 w1) (trodAll_cons_mk (shut_int Try.underlying3 w2) trodAll_mk0))), rfl, bel.frame _, fun h => by cases h⟩

theorem over : Rows.windowNextRow.holds Try.pinned (OpenSpec.ofChange Rows.windowNextSpec) :=
  OpenClaim.holds_of_wide 5 Try.f5 rfl rfl rfl rfl rfl rfl rfl ⟨rfl, rfl, rfl, rfl, rfl⟩ rfl rfl rfl rfl rfl (by kernel_rfl) Try.func5 (by kernel_rfl)
    (of_decide_eq_true (by kernel_rfl)) (by unfold Func.isWrapper; first | (rw [if_pos (by decide +kernel)]; kernel_rfl) | (rw [if_neg (by decide +kernel)]; exact ⟨rfl, rfl⟩))
    (fun os started H enc _ => lifted os started H enc)

theorem proved : Rows.WindowNextSaid := over
#print axioms proved
end Go.Proofs.Ytdifgbnapcnmlaa.windowNext
