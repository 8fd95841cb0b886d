/- Seal and Open answer as the document says, and what is sealed is opened. Conditions: none (of texts of more than 3000 bytes the law asks the examples alone). -/
import Derived.Test.YtofolebhnfmlaaaRows
import Derived.Test.YtofolebhnfmlaaaMath
import Derived.Test.YtofolebhnfmlaaaBase
import Derived.Test.YtofolebhnfmlaaaSumMath
import Derived.Test.YtofolebhnfmlaaaBytes
import Derived.Test.YtofolebhnfmlaaaSumC
import Derived.Test.YtofolebhnfmlaaaClone
import Derived.Test.YtofolebhnfmlaaaSumOpen
import Derived.Test.YtofolebhnfmlaaaSumOpen2
import Derived.WalkKit
import Derived.WalkSmall
import Derived.WalkSpells
import Derived.ProofKit
import Derived.OpenShut
import Derived.ShutString
import Derived.ChangeOld
import Derived.Below
import Derived.Lib.Hide
import Derived.OwnWalk
namespace Go.Proofs.Ytofolebhnfmlaaa.sum16Seals
open Go.ChangeShapes Go.WideShapes Go.ChangeAt Go.RowKit
open Go.ChangeMaps (open_string shut_string)
set_option linter.unusedVariables false

theorem own : ownKnob Try.prog.godebug = none := by kernel_rfl
theorem laidOut : laidOutB Try.prog = true := by kernel_rfl

theorem walk (s0 : ByteArray) (w0 : s0.size ≤ maxLen) (s1 : ByteArray) (w1 : s1.size ≤ maxLen) (w : World) :
    Calls Try.prog 4 #[.string s0, .string s1] w fun e w' => e = .returned (.bool true) ∧ Below w.heap.size w w' := by
  by_cases h0 : 3000 < s0.size
  · have h0' : (3000 : Int) < (s0.size : Int) := by omega
    clear w0 w1
    go_enter Try.func4, Try.ntmps4
    go_wp2_with (go_at_call 7; (with_reducible refine (alive5_any _).mono ?_); rintro e w9 ⟨rfl, rfl⟩)
    go_ret
    exact ⟨rfl, Below.refl _ _⟩
  · have h0' : (s0.size : Int) ≤ 3000 := by omega
    by_cases h1 : 3000 < s1.size
    · have h1' : (3000 : Int) < (s1.size : Int) := by omega
      clear w0 w1
      go_enter Try.func4, Try.ntmps4
      go_wp2_with (go_at_call 7; (with_reducible refine (alive5_any _).mono ?_); rintro e w9 ⟨rfl, rfl⟩)
      go_ret
      exact ⟨rfl, Below.refl _ _⟩
    · have h1' : (s1.size : Int) ≤ 3000 := by omega
      have O1 := fun W => open_any s1 W (by omega)
      have O2 := fun W => refopen_any s1 W (by omega)
      have L1 := fun W => seal_any s0 W (by omega)
      have L2 := fun W => refseal_any s0 W (by omega)
      have O3 := fun W => open_any (sealB s0) W (by rw [sealB_size]; omega)
      rw [open_seal] at O3
      dsimp only at O3
      generalize (openV s1).1 = x at O1 O2
      generalize (openV s1).2 = f at O1 O2
      generalize sealB s0 = t at L1 L2 O3
      clear w0 w1 h0 h1
      go_enter Try.func4, Try.ntmps4
      go_wp2_with (first
        | (go_at_call 12; (with_reducible refine (O1 _).mono ?_); rintro e w1 ⟨rfl, hb1⟩)
        | (go_at_call 13; (with_reducible refine (O2 _).mono ?_); rintro e w2 ⟨rfl, hb2⟩)
        | (go_at_call 14; (with_reducible refine (L1 _).mono ?_); rintro e w3 ⟨rfl, hb3⟩)
        | (go_at_call 12; (with_reducible refine (O3 _).mono ?_); rintro e w4 ⟨rfl, hb4⟩)
        | (go_at_call 15; (with_reducible refine (L2 _).mono ?_); rintro e w6 ⟨rfl, hb6⟩)
        | (go_at_call 7; (with_reducible refine (alive5_any _).mono ?_); rintro e w9 ⟨rfl, rfl⟩))
      go_ret
      refine ⟨rfl, ?_⟩
      (repeat (first | exact Below.refl _ _ | (refine b_st ?_ (by first | (simp; done) | (simp; omega))) | (refine b_al ?_ (Nat.le_refl _) _) | refine b_dn ?_ | refine b_dr ?_ | (refine b_cl ?_ (Nat.le_refl _) (by assumption))))

set_option maxRecDepth 100000 in
theorem lifted (os : Os) (started : os.Started) (H : Type) (enc : TypeId × Value → H) :
    ReturnsInHanded {} Try.checked os 4 .any (Rows.sum16SealsSpec.pre6 enc Try.prog Try.f4 Rows.sum16SealsRow.domain false) (Rows.sum16SealsSpec.post enc Try.prog Try.f4 false true false false) := by
  refine returnsInHanded_of_change (C := Try.checked) own started (by kernel_rfl) Try.func4
    (ChangeSpec.witness6 (enc := enc) (C := Try.checked) false ⟨#[], #[.string ⟨#[]⟩, .string ⟨#[]⟩], []⟩ 8 (by kernel_rfl) (by kernel_rfl) (by kernel_rfl) (by kernel_rfl)) ?_
  intro W base args ds gs before hval0 hW hcnd _
  have hval : ∀ (j : Nat) t v, Try.f4.params[j]? = some t → args[j]? = some v → Value.okWide Try.prog W .any base t v := hval0
  have hW' := hW
  obtain ⟨p, q, hA0, hV, rfl, hfz, hnd⟩ := hW
  have hA : DataW.TrodAll enc Try.prog W 0 (fun _ => true) true Try.f4.params.toList args.toList ds p := hA0
  rw [Try.params4] at hA hval
  obtain ⟨v0, vs0, d0, ds0, p0, q0, hargs, rfl, rfl, h0, r0⟩ := trodAll_cons hA
  obtain ⟨v1, vs1, d1, ds1, p1, q1, rfl, rfl, rfl, h1, r1⟩ := trodAll_cons r0
  obtain ⟨rfl, rfl, rfl⟩ := trodAll_nil r1
  obtain rfl : args = #[v0, v1] := by cases args; simp_all
  obtain ⟨rfl, rfl⟩ := trodVars_none hV
  obtain ⟨s0, rfl, rfl, rfl, w0⟩ := open_string Try.underlying9 (hval 0 9 v0 rfl rfl) h0
  obtain ⟨s1, rfl, rfl, rfl, w1⟩ := open_string Try.underlying9 (hval 1 9 v1 rfl rfl) h1
  clear hA0 hval0
  simp only [List.append_nil] at hW'
  refine (walk s0 w0 s1 w1 W).mono fun e W' ⟨he, bel⟩ => ?_
  subst he
  exact ⟨_, rfl, _, _, _, [], [], [], hW', trodAll_mk1 (shut_bool Try.underlying4 _), (trodAll_cons_mk (shut_string Try.underlying9 w0) (trodAll_cons_mk (shut_string Try.underlying9 w1) trodAll_mk0)), rfl, bel.frame _, fun h => by cases h⟩

theorem over : Rows.sum16SealsRow.holds Try.pinned (OpenSpec.ofChange Rows.sum16SealsSpec) :=
  OpenClaim.holds_of_wide 4 Try.f4 rfl rfl rfl rfl rfl rfl rfl ⟨rfl, rfl, rfl, rfl, rfl⟩ rfl rfl rfl rfl rfl (by kernel_rfl) Try.func4 (by kernel_rfl)
    (of_decide_eq_true (by kernel_rfl)) (by unfold Func.isWrapper; first | (rw [if_pos (by decide +kernel)]; kernel_rfl) | (rw [if_neg (by decide +kernel)]; exact ⟨rfl, rfl⟩))
    (fun os started H enc _ => lifted os started H enc)

theorem proved : Rows.Sum16SealsSaid := over
#print axioms proved
end Go.Proofs.Ytofolebhnfmlaaa.sum16Seals
