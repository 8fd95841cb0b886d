/- A sealed text of which one byte is another one, or two side by side changed places (but for 0 and 255), is not opened. Conditions: none (of a text of more than 3000 bytes, or at a place outside it, the law asks the examples alone). -/
import Derived.Test.YtofolebhnfmlaaaRows
import Derived.Test.YtofolebhnfmlaaaMath
import Derived.Test.YtofolebhnfmlaaaBase
import Derived.Test.YtofolebhnfmlaaaSumMath
import Derived.Test.YtofolebhnfmlaaaBytes
import Derived.Test.YtofolebhnfmlaaaSumC
import Derived.Test.YtofolebhnfmlaaaClone
import Derived.Test.YtofolebhnfmlaaaSumOpen
import Derived.Test.YtofolebhnfmlaaaSumOpen2
import Derived.Test.YtofolebhnfmlaaaSumSlip
import Derived.Test.YtofolebhnfmlaaaSlipsA
import Derived.Test.YtofolebhnfmlaaaSlipsB
import Derived.Test.YtofolebhnfmlaaaSlipsC
import Derived.WalkKit
import Derived.WalkSmall
import Derived.WalkSpells
import Derived.ProofKit
import Derived.OpenShut
import Derived.ShutString
import Derived.ChangeOld
import Derived.Below
import Derived.Lib.Hide
import Derived.OwnWalk
namespace Go.Proofs.Ytofolebhnfmlaaa.sum16Slips
open Go.ChangeShapes Go.WideShapes Go.ChangeAt Go.RowKit
open Go.ChangeMaps (open_string shut_string)
set_option linter.unusedVariables false

theorem own : ownKnob Try.prog.godebug = none := by kernel_rfl
theorem laidOut : laidOutB Try.prog = true := by kernel_rfl

theorem slips_walk (s : ByteArray) (k : Nat) (a2 : Int) (w : World) (hs : (s.size : Int) ≤ 3000) (hk : k < s.size) (c0 : 0 ≤ a2) (c1 : a2 ≤ 255) :
    Calls Try.prog 6 #[.string s, .int .i64 (k : Int), .int .u8 a2] w fun e w' => e = .returned (.bool true) ∧ Below w.heap.size w w' := by
  by_cases hd : a2 % 255 = bt s k % 255
  · by_cases hk1 : k + 1 < s.size
    · by_cases he : bt s k % 255 = bt s (k + 1) % 255
      · exact slips_no_same s k a2 w hs hk c0 c1 hd hk1 he
      · exact slips_no_yes s k a2 w hs hk c0 c1 hd hk1 he
    · exact slips_no_last s k a2 w hs hk c0 c1 hd (by omega)
  · by_cases hk1 : k + 1 < s.size
    · by_cases he : bt s k % 255 = bt s (k + 1) % 255
      · exact slips_yes_same s k a2 w hs hk c0 c1 hd hk1 he
      · exact slips_yes_yes s k a2 w hs hk c0 c1 hd hk1 he
    · exact slips_yes_last s k a2 w hs hk c0 c1 hd (by omega)

theorem walk (s0 : ByteArray) (w0 : s0.size ≤ maxLen) (a1 : Int) (w1 : (Lit.int .i64 a1).wf = true) (a2 : Int) (w2 : (Lit.int .u8 a2).wf = true) (w : World) :
    Calls Try.prog 6 #[.string s0, .int .i64 a1, .int .u8 a2] w fun e w' => e = .returned (.bool true) ∧ Below w.heap.size w w' := by
  by_cases h0 : 3000 < s0.size
  · have h0' : (3000 : Int) < (s0.size : Int) := by omega
    clear w0 w1 w2
    go_enter Try.func6, Try.ntmps6
    go_wp2_with (go_at_call 7; (with_reducible refine (alive5_any _).mono ?_); rintro e w9 ⟨rfl, rfl⟩)
    go_ret
    exact ⟨rfl, Below.refl _ _⟩
  have h0' : (s0.size : Int) ≤ 3000 := by omega
  by_cases h1 : a1 < 0
  · skip
    clear w0 w1 w2
    go_enter Try.func6, Try.ntmps6
    go_wp2_with (go_at_call 7; (with_reducible refine (alive5_any _).mono ?_); rintro e w9 ⟨rfl, rfl⟩)
    go_ret
    exact ⟨rfl, Below.refl _ _⟩
  by_cases h2 : (s0.size : Int) ≤ a1
  · have h1' : 0 ≤ a1 := by omega
    clear w0 w1 w2
    go_enter Try.func6, Try.ntmps6
    go_wp2_with (go_at_call 7; (with_reducible refine (alive5_any _).mono ?_); rintro e w9 ⟨rfl, rfl⟩)
    go_ret
    exact ⟨rfl, Below.refl _ _⟩
  obtain ⟨k, rfl⟩ : ∃ k : Nat, a1 = k := ⟨a1.toNat, by omega⟩
  have hk : k < s0.size := by omega
  obtain ⟨c0, c1⟩ : 0 ≤ a2 ∧ a2 ≤ 255 := by
    simp [Lit.wf, IntKind.min, IntKind.max, IntKind.bits, IntKind.signed] at w2
    omega
  clear w0 w1 w2 h0 h1 h2
  exact slips_walk s0 k a2 w h0' hk c0 c1

set_option maxRecDepth 100000 in
theorem lifted (os : Os) (started : os.Started) (H : Type) (enc : TypeId × Value → H) :
    ReturnsInHanded {} Try.checked os 6 .any (Rows.sum16SlipsSpec.pre6 enc Try.prog Try.f6 Rows.sum16SlipsRow.domain false) (Rows.sum16SlipsSpec.post enc Try.prog Try.f6 false true false false) := by
  refine returnsInHanded_of_change (C := Try.checked) own started (by kernel_rfl) Try.func6
    (ChangeSpec.witness6 (enc := enc) (C := Try.checked) false ⟨#[], #[.string ⟨#[]⟩, .int .i64 0, .int .u8 0], []⟩ 8 (by kernel_rfl) (by kernel_rfl) (by kernel_rfl) (by kernel_rfl)) ?_
  intro W base args ds gs before hval0 hW hcnd _
  have hval : ∀ (j : Nat) t v, Try.f6.params[j]? = some t → args[j]? = some v → Value.okWide Try.prog W .any base t v := hval0
  have hW' := hW
  obtain ⟨p, q, hA0, hV, rfl, hfz, hnd⟩ := hW
  have hA : DataW.TrodAll enc Try.prog W 0 (fun _ => true) true Try.f6.params.toList args.toList ds p := hA0
  rw [Try.params6] at hA hval
  obtain ⟨v0, vs0, d0, ds0, p0, q0, hargs, rfl, rfl, h0, r0⟩ := trodAll_cons hA
  obtain ⟨v1, vs1, d1, ds1, p1, q1, rfl, rfl, rfl, h1, r1⟩ := trodAll_cons r0
  obtain ⟨v2, vs2, d2, ds2, p2, q2, rfl, rfl, rfl, h2, r2⟩ := trodAll_cons r1
  obtain ⟨rfl, rfl, rfl⟩ := trodAll_nil r2
  obtain rfl : args = #[v0, v1, v2] := by cases args; simp_all
  obtain ⟨rfl, rfl⟩ := trodVars_none hV
  obtain ⟨s0, rfl, rfl, rfl, w0⟩ := open_string Try.underlying9 (hval 0 9 v0 rfl rfl) h0
  obtain ⟨a1, rfl, rfl, rfl, w1⟩ := open_int Try.underlying3 (hval 1 3 v1 rfl rfl) h1
  obtain ⟨a2, rfl, rfl, rfl, w2⟩ := open_int Try.underlying5 (hval 2 5 v2 rfl rfl) h2
  clear hA0 hval0
  simp only [List.append_nil] at hW'
  refine (walk s0 w0 a1 w1 a2 w2 W).mono fun e W' ⟨he, bel⟩ => ?_
  subst he
  exact ⟨_, rfl, _, _, _, [], [], [], hW', trodAll_mk1 (shut_bool Try.underlying4 _), (trodAll_cons_mk (shut_string Try.underlying9 w0) (trodAll_cons_mk (shut_int Try.underlying3 w1) (trodAll_cons_mk (shut_int Try.underlying5 w2) trodAll_mk0))), rfl, bel.frame _, fun h => by cases h⟩

theorem over : Rows.sum16SlipsRow.holds Try.pinned (OpenSpec.ofChange Rows.sum16SlipsSpec) :=
  OpenClaim.holds_of_wide 6 Try.f6 rfl rfl rfl rfl rfl rfl rfl ⟨rfl, rfl, rfl, rfl, rfl⟩ rfl rfl rfl rfl rfl (by kernel_rfl) Try.func6 (by kernel_rfl)
    (of_decide_eq_true (by kernel_rfl)) (by unfold Func.isWrapper; first | (rw [if_pos (by decide +kernel)]; kernel_rfl) | (rw [if_neg (by decide +kernel)]; exact ⟨rfl, rfl⟩))
    (fun os started H enc _ => lifted os started H enc)

theorem proved : Rows.Sum16SlipsSaid := over
#print axioms proved
end Go.Proofs.Ytofolebhnfmlaaa.sum16Slips
