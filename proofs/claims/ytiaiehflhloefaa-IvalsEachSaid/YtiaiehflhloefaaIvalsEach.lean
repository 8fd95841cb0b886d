/- The spans that are handed on are just those of the set, in order, up to the first one that is answered by false. Conditions: none (of more than thirty spans the law asks the example alone). -/
import Derived.Test.YtiaiehflhloefaaRows
import Derived.Test.YtiaiehflhloefaaMath
import Derived.Test.YtiaiehflhloefaaBase
import Derived.Test.YtiaiehflhloefaaIvalsWords
import Derived.Test.YtiaiehflhloefaaIvalsOpen
import Derived.Test.YtiaiehflhloefaaIvalsAlive
import Derived.Test.YtiaiehflhloefaaIvalsSame
import Derived.Test.YtiaiehflhloefaaIvalsRefMake
import Derived.Test.YtiaiehflhloefaaIvalsHand
import Derived.WalkKit
import Derived.WalkSmall
import Derived.WalkSpells
import Derived.ProofKit
import Derived.OpenShut
import Derived.ShutString
import Derived.ChangeOld
import Derived.Below
import Derived.Lib.Hide
import Derived.OwnWalk
import Derived.OneCell
namespace Go.Proofs.Ytiaiehflhloefaa.ivalsEach
open Go.ChangeShapes Go.WideShapes Go.ChangeAt Go.RowKit
open Go.ChangeMaps (open_string shut_string)
set_option linter.unusedVariables false

theorem own : ownKnob Try.prog.godebug = none := by kernel_rfl
theorem laidOut : laidOutB Try.prog = true := by kernel_rfl

set_option maxHeartbeats 2000000 in
theorem walk (w : World) (A0 : Option Addr) (c0 : Nat) (l0 : List Sp) (r0 : RdS w A0 l0) (b0 : Bd l0) (a1 : Int) (w1 : (Lit.int .i64 a1).wf = true) :
    Calls Try.prog 6 #[.slice A0 l0.length c0, .int .i64 a1] w fun e w' => e = .returned (.bool true) ∧ Below w.heap.size w w' := by
  by_cases h30 : 30 < l0.length
  · have h30' : (30 : Int) < (l0.length : Int) := by omega
    go_enter Try.func6, Try.ntmps6
    go_wp2_with (go_at_call 8; refine (alive3_any _).mono ?_; rintro e w3 ⟨rfl, hb3⟩)
    go_ret
    exact ⟨rfl, ((Below.refl w.heap.size w).alloc (Nat.le_refl _) (.cells #[.int .i64 a1] 3)).trans (hb3.mono (by simp))⟩
  · have h30' : (l0.length : Int) ≤ 30 := by omega
    have eg : ∀ args w, (callFunc 20 args).run Try.prog w = .ok (.enter 20 args) w := enters_of Try.func20 (by kernel_rfl) rfl
    have hE := (each_any A0 c0 l0 20 _ (handW w a1) _ _ eg (r0.below (((Below.refl _ _).alloc (Nat.le_refl _) _).alloc (by simp) _)) (by omega) (hand_hands w l0 a1 (by omega))).mono fun _ _ h => And.intro h.1 (hand_end h.2)
    unfold handW at hE
    have C2 := fun W (h : RdS W A0 l0) => refmake_any A0 c0 l0 W h (by omega)
    have hsl := setOf_len l0
    obtain ⟨m, hm⟩ : ∃ m : Nat, m = (max 1 a1).toNat := ⟨_, rfl⟩
    have hmax : max 1 a1 = (m : Int) := by omega
    have HR0 := Lib.hid r0
    clear eg r0 b0
    generalize setOf l0 = s0 at *
    by_cases hms : m < s0.length
    · have hw : wantOf s0 a1 = s0.take m := by unfold wantOf; rw [← hm, if_pos hms]
      rw [hw] at hE
      have C1 := Lib.hid hE
      have HTM := Lib.hid (show (s0.take m).length = m by rw [List.length_take]; omega)
      clear hE hw hm
      have CS := fun Ag A2 cg c2 W (h1 : RdS W Ag (s0.take m)) (h2 : RdS W A2 (s0.take m)) => same_len Ag A2 cg c2 m m (s0.take m) (s0.take m) W HTM.out HTM.out h1 h2 (by omega)
      rw [decide_eq_true (rfl : (s0.take m) = (s0.take m))] at CS
      go_enter Try.func6, Try.ntmps6
      go_wp2_with (first
        | (go_at_call 19; refine C1.out.mono ?_; rintro e w1 ⟨rfl, v, hG, hR, ho, hbw⟩; have cG := cell_of_one hG; have cR := cell_of_one hR; obtain ⟨Ag, cg, rfl, hrg, _, _⟩ := ho.form; rw [HTM.out] at cG; have Rg := Lib.hid hrg; have H1 := Lib.hid hbw; clear hG hR ho hrg hbw)
        | (go_at_call 11; refine (C2 _ (HR0.out.below H1.out)).mono ?_; rintro e w2 ⟨v2, rfl, ho2, hb2⟩; obtain ⟨A2, c2, rfl, hr2, hle2, hmx2⟩ := ho2.form; have cG2 := c_cl cG hb2; have cR2 := c_cl cR hb2; have R2 := Lib.hid hr2; obtain ⟨g2, off2, x2, y2, rfl, _⟩ := hr2.at_ (k := 0) (by omega); unfold maxLen at hmx2; have H2 := Lib.hid (H1.out.trans (hb2.mono H1.out.size)); clear ho2 hr2 cG cR)
        | (go_at_call 9; refine (CS _ _ _ _ _ (Rg.out.below hb2) (R2.out.take m)).mono ?_; rintro e w3 ⟨rfl, hb3⟩; have H3 := Lib.hid (H2.out.trans (hb3.mono H2.out.size)))
        | (go_at_call 8; refine (alive3_any _).mono ?_; rintro e w4 ⟨rfl, hb4⟩))
      go_ret
      exact ⟨rfl, H3.out.trans (hb4.mono H3.out.size)⟩
    · have hw : wantOf s0 a1 = s0 := by unfold wantOf; rw [← hm, if_neg hms]
      rw [hw] at hE
      have C1 := Lib.hid hE
      clear hE hw hm
      have CS := fun Ag A2 cg c2 W (h1 : RdS W Ag s0) (h2 : RdS W A2 s0) => same_len Ag A2 cg c2 s0.length s0.length s0 s0 W rfl rfl h1 h2 (by omega)
      rw [decide_eq_true (rfl : s0 = s0)] at CS
      go_enter Try.func6, Try.ntmps6
      go_wp2_with (first
        | (go_at_call 19; refine C1.out.mono ?_; rintro e w1 ⟨rfl, v, hG, hR, ho, hbw⟩; have cG := cell_of_one hG; have cR := cell_of_one hR; obtain ⟨Ag, cg, rfl, hrg, _, _⟩ := ho.form; have Rg := Lib.hid hrg; have H1 := Lib.hid hbw; clear hG hR ho hrg hbw)
        | (go_at_call 11; refine (C2 _ (HR0.out.below H1.out)).mono ?_; rintro e w2 ⟨v2, rfl, ho2, hb2⟩; obtain ⟨A2, c2, rfl, hr2, hle2, hmx2⟩ := ho2.form; have cG2 := c_cl cG hb2; have cR2 := c_cl cR hb2; have R2 := Lib.hid hr2; unfold maxLen at hmx2; have H2 := Lib.hid (H1.out.trans (hb2.mono H1.out.size)); clear ho2 hr2 cG cR)
        | (go_at_call 9; refine (CS _ _ _ _ _ (Rg.out.below hb2) R2.out).mono ?_; rintro e w3 ⟨rfl, hb3⟩; have H3 := Lib.hid (H2.out.trans (hb3.mono H2.out.size)))
        | (go_at_call 8; refine (alive3_any _).mono ?_; rintro e w4 ⟨rfl, hb4⟩))
      go_ret
      exact ⟨rfl, H3.out.trans (hb4.mono H3.out.size)⟩

set_option maxRecDepth 100000 in
theorem lifted (os : Os) (started : os.Started) (H : Type) (enc : TypeId × Value → H) :
    ReturnsInHanded {} Try.checked os 6 .any (Rows.ivalsEachSpec.pre6 enc Try.prog Try.f6 Rows.ivalsEachRow.domain false) (Rows.ivalsEachSpec.post enc Try.prog Try.f6 false true false false) := by
  refine returnsInHanded_of_change (C := Try.checked) own started (by kernel_rfl) Try.func6
    (ChangeSpec.witness6 (enc := enc) (C := Try.checked) false ⟨#[], #[.slice none 0 0, .int .i64 0], []⟩ 8 (by kernel_rfl) (by kernel_rfl) (by kernel_rfl) (by kernel_rfl)) ?_
  intro W base args ds gs before hval0 hW hcnd _
  have hval : ∀ (j : Nat) t v, Try.f6.params[j]? = some t → args[j]? = some v → Value.okWide Try.prog W .any base t v := hval0
  have hW' := hW
  obtain ⟨p, q, hA0, hV, rfl, hfz, hnd⟩ := hW
  have hA : DataW.TrodAll enc Try.prog W 0 (fun _ => true) true Try.f6.params.toList args.toList ds p := hA0
  rw [Try.params6] at hA hval
  obtain ⟨v0, vs0, d0, ds0, p0, q0, hargs, rfl, rfl, h0, r0⟩ := trodAll_cons hA
  obtain ⟨v1, vs1, d1, ds1, p1, q1, rfl, rfl, rfl, h1, r1⟩ := trodAll_cons r0
  obtain ⟨rfl, rfl, rfl⟩ := trodAll_nil r1
  obtain rfl : args = #[v0, v1] := by cases args; simp_all
  obtain ⟨rfl, rfl⟩ := trodVars_none hV
  have k0 := h0
  have lt0 : ∀ x ∈ p0, x.block < W.heap.size := by obtain ⟨m, hm⟩ := k0; exact DataW.trod_lt m _ _ _ hm
  obtain ⟨A0, n0, c0, l0, rfl, rfl, rd0, bd0⟩ := open_spans (hval 0 22 v0 rfl rfl) h0
  obtain ⟨a1, rfl, rfl, rfl, w1⟩ := open_int Try.underlying3 (hval 1 3 v1 rfl rfl) h1
  clear hA0 hval0
  refine (walk W A0 c0 l0 rd0 bd0 a1 w1).mono fun e W' ⟨he, bel⟩ => ?_
  subst he
  exact ⟨_, rfl, _, _, _, [], _, [], hW', trodAll_mk1 (shut_bool Try.underlying4 _), (trodAll_cons_mk (Below.trod laidOut (by kernel_rfl) (of_decide_eq_true (by kernel_rfl)) k0 bel lt0) (trodAll_cons_mk (shut_int Try.underlying3 w1) trodAll_mk0)), rfl, bel.frame _, fun h => by cases h⟩

theorem over : Rows.ivalsEachRow.holds Try.pinned (OpenSpec.ofChange Rows.ivalsEachSpec) :=
  OpenClaim.holds_of_wide 6 Try.f6 rfl rfl rfl rfl rfl rfl rfl ⟨rfl, rfl, rfl, rfl, rfl⟩ rfl rfl rfl rfl rfl (by kernel_rfl) Try.func6 (by kernel_rfl)
    (of_decide_eq_true (by kernel_rfl)) (by unfold Func.isWrapper; first | (rw [if_pos (by decide +kernel)]; kernel_rfl) | (rw [if_neg (by decide +kernel)]; exact ⟨rfl, rfl⟩))
    (fun os started H enc _ => lifted os started H enc)

theorem proved : Rows.IvalsEachSaid := over
#print axioms proved
end Go.Proofs.Ytiaiehflhloefaa.ivalsEach
