/- Put and Take answer as the document says, and what is put is taken. Conditions: none (of a text of more than 3000 bytes the law asks the examples alone). -/
import Derived.Test.YtofolebhnfmlaaaRows
import Derived.Test.YtofolebhnfmlaaaMath
import Derived.Test.YtofolebhnfmlaaaBase
import Derived.Test.YtofolebhnfmlaaaSumMath
import Derived.Test.YtofolebhnfmlaaaBytes
import Derived.Test.YtofolebhnfmlaaaSumC
import Derived.Test.YtofolebhnfmlaaaClone
import Derived.Test.YtofolebhnfmlaaaSumOpen
import Derived.Test.YtofolebhnfmlaaaSumOpen2
import Derived.WalkKit
import Derived.WalkSmall
import Derived.WalkSpells
import Derived.ProofKit
import Derived.OpenShut
import Derived.ShutString
import Derived.ChangeOld
import Derived.Below
import Derived.Lib.Hide
import Derived.OwnWalk
namespace Go.Proofs.Ytofolebhnfmlaaa.sum16Numbers
open Go.ChangeShapes Go.WideShapes Go.ChangeAt Go.RowKit
open Go.ChangeMaps (open_string shut_string)
set_option linter.unusedVariables false

theorem own : ownKnob Try.prog.godebug = none := by kernel_rfl
theorem laidOut : laidOutB Try.prog = true := by kernel_rfl

theorem walk (a0 : Int) (w0 : (Lit.int .i64 a0).wf = true) (a1 : Int) (w1 : (Lit.int .i64 a1).wf = true) (s2 : ByteArray) (w2 : s2.size ≤ maxLen) (w : World) :
    Calls Try.prog 5 #[.int .i64 a0, .int .i64 a1, .string s2] w fun e w' => e = .returned (.bool true) ∧ Below w.heap.size w w' := by
  by_cases h0 : 3000 < s2.size
  · have h0' : (3000 : Int) < (s2.size : Int) := by omega
    clear w0 w1 w2
    go_enter Try.func5, Try.ntmps5
    go_wp2_with (go_at_call 7; (with_reducible refine (alive5_any _).mono ?_); rintro e w9 ⟨rfl, rfl⟩)
    go_ret
    exact ⟨rfl, Below.refl _ _⟩
  · have h0' : (s2.size : Int) ≤ 3000 := by omega
    have P1 := fun W => put_any a0 W
    have T1 := fun W => take_any s2 a1 W w2
    have T2 := fun W => reftake_any s2 a1 W w2
    generalize (takeV s2 a1).1 = k at T1 T2
    generalize (takeV s2 a1).2 = f at T1 T2
    by_cases h : 0 ≤ a0 ∧ a0 ≤ 65535
    · obtain ⟨g0, g1⟩ := h
      have P2 := fun W => refput_any a0 W g0 g1
      have T3 := fun W => take_any (layB a0) 0 W (by rw [layB_size]; unfold maxLen; omega)
      have ev : takeV (layB a0) 0 = (a0, 0) := by
        have := take_yes (layB a0) 0 (by rw [layB_size]; omega)
        rw [show ((0 : Nat) : Int) = 0 from rfl] at this
        rw [this, show 256 * bt (layB a0) 0 + bt (layB a0) (0 + 1) = a0 from layB_val g0 g1]
      rw [ev] at T3
      unfold putV at P1
      rw [if_pos ⟨g0, g1⟩] at P1
      dsimp only at P1 T3
      generalize layB a0 = t at P1 P2 T3
      clear w0 w1 w2 h0 ev
      go_enter Try.func5, Try.ntmps5
      go_wp2_with (first
        | (go_at_call 16; (with_reducible refine (P1 _).mono ?_); rintro e w1 ⟨rfl, hb1⟩)
        | (go_at_call 17; (with_reducible refine (T1 _).mono ?_); rintro e w2 ⟨rfl, hb2⟩)
        | (go_at_call 18; (with_reducible refine (T2 _).mono ?_); rintro e w3 ⟨rfl, hb3⟩)
        | (go_at_call 17; (with_reducible refine (T3 _).mono ?_); rintro e w4 ⟨rfl, hb4⟩)
        | (go_at_call 19; (with_reducible refine (P2 _).mono ?_); rintro e w5 ⟨rfl, hb5⟩)
        | (go_at_call 7; (with_reducible refine (alive5_any _).mono ?_); rintro e w9 ⟨rfl, rfl⟩))
      go_ret
      refine ⟨rfl, ?_⟩
      (repeat (first | exact Below.refl _ _ | (refine b_st ?_ (by first | (simp; done) | (simp; omega))) | (refine b_al ?_ (Nat.le_refl _) _) | refine b_dn ?_ | refine b_dr ?_ | (refine b_cl ?_ (Nat.le_refl _) (by assumption))))
    · unfold putV at P1
      rw [if_neg h] at P1
      dsimp only at P1
      by_cases g0 : a0 < 0
      · clear w0 w1 w2 h0 h
        go_enter Try.func5, Try.ntmps5
        go_wp2_with (first
          | (go_at_call 16; (with_reducible refine (P1 _).mono ?_); rintro e w1 ⟨rfl, hb1⟩)
          | (go_at_call 17; (with_reducible refine (T1 _).mono ?_); rintro e w2 ⟨rfl, hb2⟩)
          | (go_at_call 18; (with_reducible refine (T2 _).mono ?_); rintro e w3 ⟨rfl, hb3⟩)
          | (go_at_call 7; (with_reducible refine (alive5_any _).mono ?_); rintro e w9 ⟨rfl, rfl⟩))
        go_ret
        refine ⟨rfl, ?_⟩
        (repeat (first | exact Below.refl _ _ | (refine b_st ?_ (by first | (simp; done) | (simp; omega))) | (refine b_al ?_ (Nat.le_refl _) _) | refine b_dn ?_ | refine b_dr ?_ | (refine b_cl ?_ (Nat.le_refl _) (by assumption))))
      · have g1 : 65535 < a0 := by omega
        have g2 : 0 ≤ a0 := by omega
        clear w0 w1 w2 h0 h g0
        go_enter Try.func5, Try.ntmps5
        go_wp2_with (first
          | (go_at_call 16; (with_reducible refine (P1 _).mono ?_); rintro e w1 ⟨rfl, hb1⟩)
          | (go_at_call 17; (with_reducible refine (T1 _).mono ?_); rintro e w2 ⟨rfl, hb2⟩)
          | (go_at_call 18; (with_reducible refine (T2 _).mono ?_); rintro e w3 ⟨rfl, hb3⟩)
          | (go_at_call 7; (with_reducible refine (alive5_any _).mono ?_); rintro e w9 ⟨rfl, rfl⟩))
        go_ret
        refine ⟨rfl, ?_⟩
        (repeat (first | exact Below.refl _ _ | (refine b_st ?_ (by first | (simp; done) | (simp; omega))) | (refine b_al ?_ (Nat.le_refl _) _) | refine b_dn ?_ | refine b_dr ?_ | (refine b_cl ?_ (Nat.le_refl _) (by assumption))))

set_option maxRecDepth 100000 in
theorem lifted (os : Os) (started : os.Started) (H : Type) (enc : TypeId × Value → H) :
    ReturnsInHanded {} Try.checked os 5 .any (Rows.sum16NumbersSpec.pre6 enc Try.prog Try.f5 Rows.sum16NumbersRow.domain false) (Rows.sum16NumbersSpec.post enc Try.prog Try.f5 false true false false) := by
  refine returnsInHanded_of_change (C := Try.checked) own started (by kernel_rfl) Try.func5
    (ChangeSpec.witness6 (enc := enc) (C := Try.checked) false ⟨#[], #[.int .i64 0, .int .i64 0, .string ⟨#[]⟩], []⟩ 8 (by kernel_rfl) (by kernel_rfl) (by kernel_rfl) (by kernel_rfl)) ?_
  intro W base args ds gs before hval0 hW hcnd _
  have hval : ∀ (j : Nat) t v, Try.f5.params[j]? = some t → args[j]? = some v → Value.okWide Try.prog W .any base t v := hval0
  have hW' := hW
  obtain ⟨p, q, hA0, hV, rfl, hfz, hnd⟩ := hW
  have hA : DataW.TrodAll enc Try.prog W 0 (fun _ => true) true Try.f5.params.toList args.toList ds p := hA0
  rw [Try.params5] at hA hval
  obtain ⟨v0, vs0, d0, ds0, p0, q0, hargs, rfl, rfl, h0, r0⟩ := trodAll_cons hA
  obtain ⟨v1, vs1, d1, ds1, p1, q1, rfl, rfl, rfl, h1, r1⟩ := trodAll_cons r0
  obtain ⟨v2, vs2, d2, ds2, p2, q2, rfl, rfl, rfl, h2, r2⟩ := trodAll_cons r1
  obtain ⟨rfl, rfl, rfl⟩ := trodAll_nil r2
  obtain rfl : args = #[v0, v1, v2] := by cases args; simp_all
  obtain ⟨rfl, rfl⟩ := trodVars_none hV
  obtain ⟨a0, rfl, rfl, rfl, w0⟩ := open_int Try.underlying3 (hval 0 3 v0 rfl rfl) h0
  obtain ⟨a1, rfl, rfl, rfl, w1⟩ := open_int Try.underlying3 (hval 1 3 v1 rfl rfl) h1
  obtain ⟨s2, rfl, rfl, rfl, w2⟩ := open_string Try.underlying9 (hval 2 9 v2 rfl rfl) h2
  clear hA0 hval0
  simp only [List.append_nil] at hW'
  refine (walk a0 w0 a1 w1 s2 w2 W).mono fun e W' ⟨he, bel⟩ => ?_
  subst he
  exact ⟨_, rfl, _, _, _, [], [], [], hW', trodAll_mk1 (shut_bool Try.underlying4 _), (trodAll_cons_mk (shut_int Try.underlying3 w0) (trodAll_cons_mk (shut_int Try.underlying3 w1) (trodAll_cons_mk (shut_string Try.underlying9 w2) trodAll_mk0))), rfl, bel.frame _, fun h => by cases h⟩

theorem over : Rows.sum16NumbersRow.holds Try.pinned (OpenSpec.ofChange Rows.sum16NumbersSpec) :=
  OpenClaim.holds_of_wide 5 Try.f5 rfl rfl rfl rfl rfl rfl rfl ⟨rfl, rfl, rfl, rfl, rfl⟩ rfl rfl rfl rfl rfl (by kernel_rfl) Try.func5 (by kernel_rfl)
    (of_decide_eq_true (by kernel_rfl)) (by unfold Func.isWrapper; first | (rw [if_pos (by decide +kernel)]; kernel_rfl) | (rw [if_neg (by decide +kernel)]; exact ⟨rfl, rfl⟩))
    (fun os started H enc _ => lifted os started H enc)

theorem proved : Rows.Sum16NumbersSaid := over
#print axioms proved
end Go.Proofs.Ytofolebhnfmlaaa.sum16Numbers
