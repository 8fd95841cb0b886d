/- An order of triples of numbers: by the first one, then by the second one, then by the third one. Conditions: none. -/
import Derived.Test.YtglgifhpacmhiaaRecMath
namespace Go.Proofs.Ytglgifhpacmhiaa

/-- One triple comes ahead of another one. -/
def ltF (x y : Rc) : Prop := x.1 < y.1 ∨ (x.1 = y.1 ∧ (x.2.1 < y.2.1 ∨ (x.2.1 = y.2.1 ∧ x.2.2 < y.2.2)))
instance (x y : Rc) : Decidable (ltF x y) := by unfold ltF; infer_instance

theorem ltF_irr (x : Rc) : ¬ ltF x x := by unfold ltF; omega
theorem ltF_tr {x y z : Rc} (h : ltF x y) (h2 : ltF y z) : ltF x z := by unfold ltF at *; omega
theorem ltF_as {x y : Rc} (h : ltF x y) : ¬ ltF y x := fun k => ltF_irr x (ltF_tr h k)
theorem ltF_tot {x y : Rc} (h : ¬ ltF x y) (h2 : ¬ ltF y x) : x = y := by
  unfold ltF at *
  obtain ⟨a, b, c⟩ := x
  obtain ⟨d, e, f⟩ := y
  simp only [Prod.mk.injEq] at *
  omega
theorem ltF_nt {x y z : Rc} (h : ¬ ltF x y) (h2 : ¬ ltF y z) : ¬ ltF x z := by unfold ltF at *; omega

end Go.Proofs.Ytglgifhpacmhiaa
