/- The letter of a kind, the kind of a letter, and the spells of a kind in letters are as the document says. Conditions: none (of more than three thousand letters the law asks the example alone). -/
import Derived.Test.YtllinfcdbbmjaaaRows
import Derived.Test.YtllinfcdbbmjaaaBase
import Derived.Test.YtllinfcdbbmjaaaRow
import Derived.Test.YtllinfcdbbmjaaaRecMath
import Derived.Test.YtllinfcdbbmjaaaRecHeap
import Derived.Test.YtllinfcdbbmjaaaIvalsWords
import Derived.Test.YtllinfcdbbmjaaaIvalsOwn
import Derived.Test.YtllinfcdbbmjaaaIvalsSame
import Derived.Test.YtllinfcdbbmjaaaViewMath
import Derived.Test.YtllinfcdbbmjaaaViewLeaf
import Derived.Test.YtllinfcdbbmjaaaViewSpells
import Derived.Test.YtllinfcdbbmjaaaViewSpellsR
import Derived.Test.YtllinfcdbbmjaaaViewAlive
import Derived.WalkKit
import Derived.WalkSmall
import Derived.WalkSpells
import Derived.ProofKit
import Derived.OpenShut
import Derived.ShutString
import Derived.ChangeOld
import Derived.Below
import Derived.Lib.Hide
import Derived.OwnWalk
namespace Go.Proofs.Ytllinfcdbbmjaaa.viewLetters
open Go.ChangeShapes Go.WideShapes Go.ChangeAt Go.RowKit
open Go.ChangeMaps (open_string shut_string)
set_option linter.unusedVariables false

theorem own : ownKnob Try.prog.godebug = none := by kernel_rfl
theorem laidOut : laidOutB Try.prog = true := by kernel_rfl

theorem u8_bd {a : Int} (h : (Lit.int .u8 a).wf = true) : 0 ≤ a ∧ a ≤ 255 := by
  simp [Lit.wf, IntKind.min, IntKind.max, IntKind.bits, IntKind.signed] at h
  omega

theorem same9_len (A B : Option Addr) (c d na nb : Nat) (a b : List Sp) (w : World) (hna : Hid (a.length = na)) (hnb : Hid (b.length = nb)) (ha : RdS w A a) (hb : RdS w B b) (hl : na ≤ 4611686018427387904) :
    Calls Try.prog 17 #[.slice A na c, .slice B nb d] w fun e w' => e = .returned (.bool (decide (a = b))) ∧ Below w.heap.size w w' := by
  have h1 := hna.out
  have h2 := hnb.out
  subst h1 h2
  exact same_any A B c d a b w ha hb hl

theorem walk (w : World) (s0 : ByteArray) (w0 : s0.size ≤ maxLen) (a1 : Int) (w1 : (Lit.int .i64 a1).wf = true) (a2 : Int) (w2 : (Lit.int .u8 a2).wf = true) :
    Calls Try.prog 4 #[.string s0, .int .i64 a1, .int .u8 a2] w fun e w' => e = .returned (.bool true) ∧ Below w.heap.size w w' := by
  by_cases hs : 3000 < s0.size
  · have hs' : (3000 : Int) < (s0.size : Int) := by omega
    go_enter Try.func4, Try.ntmps4
    go_wp2_with (go_at_call 8; refine (alive9_any _).mono ?_; rintro e wz ⟨rfl, hbz⟩)
    go_ret
    exact ⟨rfl, hbz⟩
  · have hs' : (s0.size : Int) ≤ 3000 := by omega
    have hc := u8_bd w2
    have KD := fun W => kind_any a2 W hc.1 hc.2
    have RK := fun W => refkind_any a2 W
    generalize kindB a2 = x at KD RK
    generalize isL a2 = b at KD RK
    have SP := fun W => spells9_any s0 a1 W (by omega)
    have RS := fun W => refspells9_any s0 a1 W (by omega)
    have hsl : (spellsV s0 a1).length ≤ 3000 := Nat.le_trans (spells_len _ _) (by omega)
    generalize spellsV s0 a1 = q at SP RS hsl
    obtain ⟨n, hn⟩ : ∃ n, q.length = n := ⟨_, rfl⟩
    have HLN := Lib.hid hn
    have SM := fun A B c d W (ha : RdS W A q) (hb : RdS W B q) => same9_len A B c d n n q q W HLN HLN ha hb (by omega)
    rw [decide_eq_true (rfl : q = q)] at SM
    clear hn hsl w1 w2 hc
    by_cases hk : 0 ≤ a1 ∧ a1 < 4
    · have h4 : a1 = 0 ∨ a1 = 1 ∨ a1 = 2 ∨ a1 = 3 := by omega
      clear hk
      rcases h4 with rfl | rfl | rfl | rfl
      · have LT := fun W => letter_yes 0 W (by decide) (by decide)
        rw [show ltN 0 = 82 by decide] at LT
        go_enter Try.func4, Try.ntmps4
        go_wp2_with (first
          | (go_at_call 14; (with_reducible refine (KD _).mono ?_); rintro e w1 ⟨rfl, rfl⟩)
          | (go_at_call 15; (with_reducible refine (RK _).mono ?_); rintro e w1 ⟨rfl, rfl⟩)
          | (go_at_call 16; (with_reducible refine (LT _).mono ?_); rintro e w1 ⟨rfl, rfl⟩)
          | (go_at_call 18; (with_reducible refine (SP _).mono ?_); rintro e w4 ⟨v4, rfl, ho4, hb4⟩; obtain ⟨A4, c4, rfl, hr4, _, _⟩ := ho4.form; have R4 := Lib.hid hr4; have H4 := Lib.hid hb4; rw [HLN.out]; clear hb4 ho4 hr4)
          | (go_at_call 19; (with_reducible refine (RS _).mono ?_); rintro e w5 ⟨v5, rfl, ho5, hb5⟩; obtain ⟨A5, c5, rfl, hr5, _, _⟩ := ho5.form; have R5 := Lib.hid hr5; have R4' := Lib.hid (R4.out.below hb5); have H5 := Lib.hid (b_tr H4.out hb5); rw [HLN.out]; clear hb5 ho5 hr5)
          | (go_at_call 17; (with_reducible refine (SM A4 A5 c4 c5 _ R4'.out R5.out).mono ?_); rintro e w6 ⟨rfl, hb6⟩; have H6 := Lib.hid (b_tr H5.out hb6); clear hb6)
          | (go_at_call 8; refine (alive9_any _).mono ?_; rintro e wz ⟨rfl, hbz⟩))
        go_ret
        exact ⟨by simp, b_tr H6.out hbz⟩
      · have LT := fun W => letter_yes 1 W (by decide) (by decide)
        rw [show ltN 1 = 65 by decide] at LT
        go_enter Try.func4, Try.ntmps4
        go_wp2_with (first
          | (go_at_call 14; (with_reducible refine (KD _).mono ?_); rintro e w1 ⟨rfl, rfl⟩)
          | (go_at_call 15; (with_reducible refine (RK _).mono ?_); rintro e w1 ⟨rfl, rfl⟩)
          | (go_at_call 16; (with_reducible refine (LT _).mono ?_); rintro e w1 ⟨rfl, rfl⟩)
          | (go_at_call 18; (with_reducible refine (SP _).mono ?_); rintro e w4 ⟨v4, rfl, ho4, hb4⟩; obtain ⟨A4, c4, rfl, hr4, _, _⟩ := ho4.form; have R4 := Lib.hid hr4; have H4 := Lib.hid hb4; rw [HLN.out]; clear hb4 ho4 hr4)
          | (go_at_call 19; (with_reducible refine (RS _).mono ?_); rintro e w5 ⟨v5, rfl, ho5, hb5⟩; obtain ⟨A5, c5, rfl, hr5, _, _⟩ := ho5.form; have R5 := Lib.hid hr5; have R4' := Lib.hid (R4.out.below hb5); have H5 := Lib.hid (b_tr H4.out hb5); rw [HLN.out]; clear hb5 ho5 hr5)
          | (go_at_call 17; (with_reducible refine (SM A4 A5 c4 c5 _ R4'.out R5.out).mono ?_); rintro e w6 ⟨rfl, hb6⟩; have H6 := Lib.hid (b_tr H5.out hb6); clear hb6)
          | (go_at_call 8; refine (alive9_any _).mono ?_; rintro e wz ⟨rfl, hbz⟩))
        go_ret
        exact ⟨by simp, b_tr H6.out hbz⟩
      · have LT := fun W => letter_yes 2 W (by decide) (by decide)
        rw [show ltN 2 = 87 by decide] at LT
        go_enter Try.func4, Try.ntmps4
        go_wp2_with (first
          | (go_at_call 14; (with_reducible refine (KD _).mono ?_); rintro e w1 ⟨rfl, rfl⟩)
          | (go_at_call 15; (with_reducible refine (RK _).mono ?_); rintro e w1 ⟨rfl, rfl⟩)
          | (go_at_call 16; (with_reducible refine (LT _).mono ?_); rintro e w1 ⟨rfl, rfl⟩)
          | (go_at_call 18; (with_reducible refine (SP _).mono ?_); rintro e w4 ⟨v4, rfl, ho4, hb4⟩; obtain ⟨A4, c4, rfl, hr4, _, _⟩ := ho4.form; have R4 := Lib.hid hr4; have H4 := Lib.hid hb4; rw [HLN.out]; clear hb4 ho4 hr4)
          | (go_at_call 19; (with_reducible refine (RS _).mono ?_); rintro e w5 ⟨v5, rfl, ho5, hb5⟩; obtain ⟨A5, c5, rfl, hr5, _, _⟩ := ho5.form; have R5 := Lib.hid hr5; have R4' := Lib.hid (R4.out.below hb5); have H5 := Lib.hid (b_tr H4.out hb5); rw [HLN.out]; clear hb5 ho5 hr5)
          | (go_at_call 17; (with_reducible refine (SM A4 A5 c4 c5 _ R4'.out R5.out).mono ?_); rintro e w6 ⟨rfl, hb6⟩; have H6 := Lib.hid (b_tr H5.out hb6); clear hb6)
          | (go_at_call 8; refine (alive9_any _).mono ?_; rintro e wz ⟨rfl, hbz⟩))
        go_ret
        exact ⟨by simp, b_tr H6.out hbz⟩
      · have LT := fun W => letter_yes 3 W (by decide) (by decide)
        rw [show ltN 3 = 68 by decide] at LT
        go_enter Try.func4, Try.ntmps4
        go_wp2_with (first
          | (go_at_call 14; (with_reducible refine (KD _).mono ?_); rintro e w1 ⟨rfl, rfl⟩)
          | (go_at_call 15; (with_reducible refine (RK _).mono ?_); rintro e w1 ⟨rfl, rfl⟩)
          | (go_at_call 16; (with_reducible refine (LT _).mono ?_); rintro e w1 ⟨rfl, rfl⟩)
          | (go_at_call 18; (with_reducible refine (SP _).mono ?_); rintro e w4 ⟨v4, rfl, ho4, hb4⟩; obtain ⟨A4, c4, rfl, hr4, _, _⟩ := ho4.form; have R4 := Lib.hid hr4; have H4 := Lib.hid hb4; rw [HLN.out]; clear hb4 ho4 hr4)
          | (go_at_call 19; (with_reducible refine (RS _).mono ?_); rintro e w5 ⟨v5, rfl, ho5, hb5⟩; obtain ⟨A5, c5, rfl, hr5, _, _⟩ := ho5.form; have R5 := Lib.hid hr5; have R4' := Lib.hid (R4.out.below hb5); have H5 := Lib.hid (b_tr H4.out hb5); rw [HLN.out]; clear hb5 ho5 hr5)
          | (go_at_call 17; (with_reducible refine (SM A4 A5 c4 c5 _ R4'.out R5.out).mono ?_); rintro e w6 ⟨rfl, hb6⟩; have H6 := Lib.hid (b_tr H5.out hb6); clear hb6)
          | (go_at_call 8; refine (alive9_any _).mono ?_; rintro e wz ⟨rfl, hbz⟩))
        go_ret
        exact ⟨by simp, b_tr H6.out hbz⟩
    · have LT := fun W => letter_no a1 W hk
      by_cases h0 : a1 < 0
      · clear hk
        go_enter Try.func4, Try.ntmps4
        go_wp2_with (first
          | (go_at_call 14; (with_reducible refine (KD _).mono ?_); rintro e w1 ⟨rfl, rfl⟩)
          | (go_at_call 15; (with_reducible refine (RK _).mono ?_); rintro e w1 ⟨rfl, rfl⟩)
          | (go_at_call 16; (with_reducible refine (LT _).mono ?_); rintro e w1 ⟨rfl, rfl⟩)
          | (go_at_call 18; (with_reducible refine (SP _).mono ?_); rintro e w4 ⟨v4, rfl, ho4, hb4⟩; obtain ⟨A4, c4, rfl, hr4, _, _⟩ := ho4.form; have R4 := Lib.hid hr4; have H4 := Lib.hid hb4; rw [HLN.out]; clear hb4 ho4 hr4)
          | (go_at_call 19; (with_reducible refine (RS _).mono ?_); rintro e w5 ⟨v5, rfl, ho5, hb5⟩; obtain ⟨A5, c5, rfl, hr5, _, _⟩ := ho5.form; have R5 := Lib.hid hr5; have R4' := Lib.hid (R4.out.below hb5); have H5 := Lib.hid (b_tr H4.out hb5); rw [HLN.out]; clear hb5 ho5 hr5)
          | (go_at_call 17; (with_reducible refine (SM A4 A5 c4 c5 _ R4'.out R5.out).mono ?_); rintro e w6 ⟨rfl, hb6⟩; have H6 := Lib.hid (b_tr H5.out hb6); clear hb6)
          | (go_at_call 8; refine (alive9_any _).mono ?_; rintro e wz ⟨rfl, hbz⟩))
        go_ret
        exact ⟨by simp, b_tr H6.out hbz⟩
      · have h1 : 0 ≤ a1 := by omega
        have h2 : 4 ≤ a1 := by omega
        clear hk h0
        go_enter Try.func4, Try.ntmps4
        go_wp2_with (first
          | (go_at_call 14; (with_reducible refine (KD _).mono ?_); rintro e w1 ⟨rfl, rfl⟩)
          | (go_at_call 15; (with_reducible refine (RK _).mono ?_); rintro e w1 ⟨rfl, rfl⟩)
          | (go_at_call 16; (with_reducible refine (LT _).mono ?_); rintro e w1 ⟨rfl, rfl⟩)
          | (go_at_call 18; (with_reducible refine (SP _).mono ?_); rintro e w4 ⟨v4, rfl, ho4, hb4⟩; obtain ⟨A4, c4, rfl, hr4, _, _⟩ := ho4.form; have R4 := Lib.hid hr4; have H4 := Lib.hid hb4; rw [HLN.out]; clear hb4 ho4 hr4)
          | (go_at_call 19; (with_reducible refine (RS _).mono ?_); rintro e w5 ⟨v5, rfl, ho5, hb5⟩; obtain ⟨A5, c5, rfl, hr5, _, _⟩ := ho5.form; have R5 := Lib.hid hr5; have R4' := Lib.hid (R4.out.below hb5); have H5 := Lib.hid (b_tr H4.out hb5); rw [HLN.out]; clear hb5 ho5 hr5)
          | (go_at_call 17; (with_reducible refine (SM A4 A5 c4 c5 _ R4'.out R5.out).mono ?_); rintro e w6 ⟨rfl, hb6⟩; have H6 := Lib.hid (b_tr H5.out hb6); clear hb6)
          | (go_at_call 8; refine (alive9_any _).mono ?_; rintro e wz ⟨rfl, hbz⟩))
        go_ret
        exact ⟨by simp, b_tr H6.out hbz⟩

set_option maxRecDepth 100000 in
theorem lifted (os : Os) (started : os.Started) (H : Type) (enc : TypeId × Value → H) :
    ReturnsInHanded {} Try.checked os 4 .any (Rows.viewLettersSpec.pre6 enc Try.prog Try.f4 Rows.viewLettersRow.domain false) (Rows.viewLettersSpec.post enc Try.prog Try.f4 false true false false) := by
  refine returnsInHanded_of_change (C := Try.checked) own started (by kernel_rfl) Try.func4
    (ChangeSpec.witness6 (enc := enc) (C := Try.checked) false ⟨#[], #[.string ⟨#[]⟩, .int .i64 0, .int .u8 0], []⟩ 8 (by kernel_rfl) (by kernel_rfl) (by kernel_rfl) (by kernel_rfl)) ?_
  intro W base args ds gs before hval0 hW hcnd _
  have hval : ∀ (j : Nat) t v, Try.f4.params[j]? = some t → args[j]? = some v → Value.okWide Try.prog W .any base t v := hval0
  have hW' := hW
  obtain ⟨p, q, hA0, hV, rfl, hfz, hnd⟩ := hW
  have hA : DataW.TrodAll enc Try.prog W 0 (fun _ => true) true Try.f4.params.toList args.toList ds p := hA0
  rw [Try.params4] at hA hval
  obtain ⟨v0, vs0, d0, ds0, p0, q0, hargs, rfl, rfl, h0, r0⟩ := trodAll_cons hA
  obtain ⟨v1, vs1, d1, ds1, p1, q1, rfl, rfl, rfl, h1, r1⟩ := trodAll_cons r0
  obtain ⟨v2, vs2, d2, ds2, p2, q2, rfl, rfl, rfl, h2, r2⟩ := trodAll_cons r1
  obtain ⟨rfl, rfl, rfl⟩ := trodAll_nil r2
  obtain rfl : args = #[v0, v1, v2] := by cases args; simp_all
  obtain ⟨rfl, rfl⟩ := trodVars_none hV
  obtain ⟨s0, rfl, rfl, rfl, w0⟩ := open_string Try.underlying9 (hval 0 9 v0 rfl rfl) h0
  obtain ⟨a1, rfl, rfl, rfl, w1⟩ := open_int Try.underlying3 (hval 1 3 v1 rfl rfl) h1
  obtain ⟨a2, rfl, rfl, rfl, w2⟩ := open_int Try.underlying5 (hval 2 5 v2 rfl rfl) h2
  clear hA0 hval0
  refine (walk W s0 w0 a1 w1 a2 w2).mono fun e W' ⟨he, bel⟩ => ?_
  subst he
  exact ⟨_, rfl, _, _, _, [], _, [], hW', trodAll_mk1 (shut_bool Try.underlying4 _), (trodAll_cons_mk (shut_string Try.underlying9 w0) (trodAll_cons_mk (shut_int Try.underlying3 w1) (trodAll_cons_mk (shut_int Try.underlying5 w2) trodAll_mk0))), rfl, bel.frame _, fun h => by cases h⟩

theorem over : Rows.viewLettersRow.holds Try.pinned (OpenSpec.ofChange Rows.viewLettersSpec) :=
  OpenClaim.holds_of_wide 4 Try.f4 rfl rfl rfl rfl rfl rfl rfl ⟨rfl, rfl, rfl, rfl, rfl⟩ rfl rfl rfl rfl rfl (by kernel_rfl) Try.func4 (by kernel_rfl)
    (of_decide_eq_true (by kernel_rfl)) (by unfold Func.isWrapper; first | (rw [if_pos (by decide +kernel)]; kernel_rfl) | (rw [if_neg (by decide +kernel)]; exact ⟨rfl, rfl⟩))
    (fun os started H enc _ => lifted os started H enc)

theorem proved : Rows.ViewLettersSaid := over
#print axioms proved
end Go.Proofs.Ytllinfcdbbmjaaa.viewLetters
