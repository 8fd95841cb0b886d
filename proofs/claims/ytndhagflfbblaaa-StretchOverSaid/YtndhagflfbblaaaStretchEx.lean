/- The examples of layer 7 hold in every world. Conditions: none. The example of layer 14 holds in every world. Conditions: none. -/
import Derived.Test.YtndhagflfbblaaaRows
import Derived.Test.YtndhagflfbblaaaBase
import Derived.Test.YtndhagflfbblaaaBookRow
import Derived.Test.YtndhagflfbblaaaBookLeaf
import Derived.Test.YtndhagflfbblaaaBookNum
import Derived.Test.YtndhagflfbblaaaBookBel
import Derived.Test.YtndhagflfbblaaaBookOrd
import Derived.Test.YtndhagflfbblaaaBookLim
import Derived.Test.YtndhagflfbblaaaBookLaws
import Derived.Test.YtndhagflfbblaaaBox
import Derived.Test.YtndhagflfbblaaaSpellMath
import Derived.Test.YtndhagflfbblaaaMeterMath
import Derived.Test.YtndhagflfbblaaaStretchMath
import Derived.Test.YtndhagflfbblaaaStretchFarM
import Derived.Test.YtndhagflfbblaaaStretchChk
import Derived.Test.YtndhagflfbblaaaStretchOverC
import Derived.Test.YtndhagflfbblaaaStretchFarC
import Derived.WalkKit
import Derived.WalkSpells
import Derived.WalkSmall
import Derived.Below
import Derived.Lib.Hide
import Derived.Outline
import Derived.Great.BuildSlice
import Derived.BigQuiet
import Derived.Deep.QuietTactic
import Derived.OwnWalk
import Derived.Maps.RangeWalk
namespace Go.Proofs.Ytndhagflfbblaaa
open Go.RowKit

theorem may_eu : May euV := by
  refine ⟨fun i hi => ?_, by unfold Ord; decide⟩
  have : i = 0 ∨ i = 1 ∨ i = 2 ∨ i = 3 ∨ i = 4 ∨ i = 5 ∨ i = 6 ∨ i = 7 ∨ i = 8 ∨ i = 9 ∨ i = 10 ∨ i = 11 ∨ i = 12 ∨ i = 13 ∨ i = 14 ∨ i = 15 ∨ i = 16 ∨ i = 17 ∨ i = 18 := by omega
  rcases this with rfl | rfl | rfl | rfl | rfl | rfl | rfl | rfl | rfl | rfl | rfl | rfl | rfl | rfl | rfl | rfl | rfl | rfl | rfl <;> (unfold lim; decide)

end Go.Proofs.Ytndhagflfbblaaa

namespace Go.Proofs.Ytndhagflfbblaaa
open Go.RowKit

/-- A fresh driver's meter behind j minutes of driving. -/
def frM (j : Nat) : Mt := ⟨j, j, false, 0, 0, j, 0, false, 0, 0, false, j, 0, j⟩
theorem Mt.eq_of {s u : Mt} (h : s.eqB u = true) : s = u := by
  obtain ⟨a0, a1, a2, a3, a4, a5, a6, a7, a8, a9, a10, a11, a12, a13⟩ := s
  obtain ⟨b0, b1, b2, b3, b4, b5, b6, b7, b8, b9, b10, b11, b12, b13⟩ := u
  simp only [Mt.eqB, Bool.and_eq_true, beq_iff_eq] at h
  obtain ⟨rfl, rfl, rfl, rfl, rfl, rfl, rfl, rfl, rfl, rfl, rfl, rfl, rfl, rfl⟩ := h
  rfl
set_option maxRecDepth 100000 in
theorem eu_free : ∀ j : Fin 270, stepC euV (frM j.1) 3 = 0 ∧ (stepM euV (frM j.1) 3).eqB (frM (j.1 + 1)) = true := by decide +kernel
theorem eu_last : ¬ stepC euV (frM 270) 3 = 0 := by decide +kernel
theorem eu_far : ∀ (d f : Nat), d ≤ 270 → d < f → farR euV 3 f (frM (270 - d)) = d
  | 0, 0, _, h => by omega
  | 0, f + 1, _, _ => by
    unfold farR
    rw [if_neg (by exact eu_last)]
  | d + 1, 0, _, h => by omega
  | d + 1, f + 1, h1, h2 => by
    obtain ⟨e1, e2⟩ := eu_free ⟨270 - (d + 1), by omega⟩
    dsimp only at e1 e2
    unfold farR
    rw [if_pos e1, Mt.eq_of e2, show 270 - (d + 1) + 1 = 270 - d by omega, eu_far d f (by omega) (by omega)]
theorem eu_farV : farV euV .zero 3 = (270, 0) := by
  unfold farV
  rw [if_pos (err14_ok.2 ⟨may_eu, by unfold MayM; decide, by decide⟩)]
  have h := eu_far 270 40320 (by omega) (by omega)
  have e : farR euV 3 (40320 - Mt.zero.now).toNat .zero = 270 := h
  rw [e]
  rfl

set_option maxRecDepth 100000 in
set_option maxHeartbeats 4000000 in
theorem alive14_any (w : World) :
    Calls Try.prog 9 #[] w fun e w' => e = .returned (.bool true) ∧ Below w.heap.size w w' := by
  have FA := fun W => far14_any euV .zero 3 W
  rw [eu_farV] at FA
  dsimp only at FA
  go_enter Try.func9, Try.ntmps9
  go_wp2_with (first
    | go_skip
    | (go_at_call 21; (with_reducible refine (refeurope_any _).mono ?_); rintro e w1 ⟨rfl, hb1⟩)
    | refine wpList_build_as rfl 25 _ rfl (mt .zero) (by kernel_rfl) ?_
    | (go_at_call 10; (with_reducible refine (FA _).mono ?_); rintro e w2 ⟨rfl, hb2⟩))
  go_ret
  exact ⟨rfl, b_cl hb1 (Nat.le_refl _) hb2⟩

end Go.Proofs.Ytndhagflfbblaaa
