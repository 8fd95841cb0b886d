/- How items are ordered: order, ahead, Less of layer 23 and the document's Less. Conditions: none. -/
import Derived.Test.YtpfmkggnnilknaaRows
import Derived.Test.YtpfmkggnnilknaaBase
import Derived.Test.YtpfmkggnnilknaaRow
import Derived.Test.YtpfmkggnnilknaaRecMath
import Derived.Test.YtpfmkggnnilknaaTriLt
import Derived.WalkKit
import Derived.WalkSpells
import Derived.WalkSmall
import Derived.Below
import Derived.Lib.Hide
import Derived.BigQuiet
import Derived.Outline
import Derived.OwnWalk
import Derived.Deep.DeepCutAuto
import Derived.Deep.RegionWith
import Derived.Deep.QuietTactic
namespace Go.Proofs.Ytpfmkggnnilknaa
open Go.RowKit

/-- An item, a triple, as a value. -/
def itV (x : Rc) : Value := .agg #[.int .i64 x.1, .int .i64 x.2.1, .int .i64 x.2.2]

theorem order23_any (w : World) : Calls Try.prog 21 #[] w fun e w' => e = .returned (.func (.func 24) #[] #[]) ∧ w = w' := by
  go_enter Try.func21, Try.ntmps21
  go_wp2
  go_ret
  exact ⟨rfl, rfl⟩

theorem ahead23_any (x y : Rc) (w : World) : Calls Try.prog 24 #[itV x, itV y] w fun e w' => e = .returned (.bool (decide (ltF x y))) ∧ Below w.heap.size w w' := by
  obtain ⟨a, b, c⟩ := x
  obtain ⟨p, q, r⟩ := y
  unfold itV
  by_cases h1 : a = p
  · subst h1
    by_cases h2 : b = q
    · subst h2
      have e : decide (ltF (a, b, c) (a, b, r)) = decide (c < r) := decide_eq_decide.2 (by unfold ltF; simp)
      go_enter Try.func24, Try.ntmps24
      go_wp2
      go_ret
      rw [e]
      exact ⟨rfl, b_al (b_al (Below.refl _ _) (Nat.le_refl _) _) (Nat.le_refl _) _⟩
    · have e : decide (ltF (a, b, c) (a, q, r)) = decide (b < q) := decide_eq_decide.2 (by unfold ltF; simp [h2])
      have e2 : (b != q) = true := by simpa using h2
      go_enter Try.func24, Try.ntmps24
      go_wp2
      go_ret
      rw [e]
      exact ⟨rfl, b_al (b_al (Below.refl _ _) (Nat.le_refl _) _) (Nat.le_refl _) _⟩
  · have e : decide (ltF (a, b, c) (p, q, r)) = decide (a < p) := decide_eq_decide.2 (by unfold ltF; simp [h1])
    have e2 : (a != p) = true := by simpa using h1
    go_enter Try.func24, Try.ntmps24
    go_wp2
    go_ret
    rw [e]
    exact ⟨rfl, b_al (b_al (Below.refl _ _) (Nat.le_refl _) _) (Nat.le_refl _) _⟩

theorem refless23_any (x y : Rc) (w : World) : Calls Try.prog 20 #[itV x, itV y] w fun e w' => e = .returned (.bool (decide (ltF x y))) ∧ Below w.heap.size w w' := by
  obtain ⟨a, b, c⟩ := x
  obtain ⟨p, q, r⟩ := y
  unfold itV
  by_cases h1 : a = p
  · subst h1
    by_cases h2 : b = q
    · subst h2
      have e : decide (ltF (a, b, c) (a, b, r)) = decide (c < r) := decide_eq_decide.2 (by unfold ltF; simp)
      go_enter Try.func20, Try.ntmps20
      go_wp2
      go_ret
      rw [e]
      exact ⟨rfl, b_al (b_al (Below.refl _ _) (Nat.le_refl _) _) (Nat.le_refl _) _⟩
    · have e : decide (ltF (a, b, c) (a, q, r)) = decide (b < q) := decide_eq_decide.2 (by unfold ltF; simp [h2])
      have e2 : (b != q) = true := by simpa using h2
      go_enter Try.func20, Try.ntmps20
      go_wp2
      go_ret
      rw [e]
      exact ⟨rfl, b_al (b_al (Below.refl _ _) (Nat.le_refl _) _) (Nat.le_refl _) _⟩
  · have e : decide (ltF (a, b, c) (p, q, r)) = decide (a < p) := decide_eq_decide.2 (by unfold ltF; simp [h1])
    have e2 : (a != p) = true := by simpa using h1
    go_enter Try.func20, Try.ntmps20
    go_wp2
    go_ret
    rw [e]
    exact ⟨rfl, b_al (b_al (Below.refl _ _) (Nat.le_refl _) _) (Nat.le_refl _) _⟩

theorem less23_any (x y : Rc) (w : World) : Calls Try.prog 16 #[itV x, itV y] w fun e w' => e = .returned (.bool (decide (ltF x y))) ∧ Below w.heap.size w w' := by
  obtain ⟨a, b, c⟩ := x
  obtain ⟨p, q, r⟩ := y
  have CO := fun W => order23_any W
  have CA := fun W => ahead23_any (a, b, c) (p, q, r) W
  obtain ⟨V, hV⟩ : ∃ V, decide (ltF (a, b, c) (p, q, r)) = V := ⟨_, rfl⟩
  rw [hV] at CA ⊢
  clear hV
  unfold itV at *
  obtain ⟨W1, h1⟩ : ∃ W1, W1 = (w.alloc (.cells #[.int .i64 a, .int .i64 b, .int .i64 c] 28)).alloc (.cells #[.int .i64 p, .int .i64 q, .int .i64 r] 28) := ⟨_, rfl⟩
  have hb : Below w.heap.size w W1 := by subst h1; exact b_al (b_al (Below.refl _ _) (Nat.le_refl _) _) (Nat.le_refl _) _
  have q0 : ∀ P : BelowOf W1, P.world.cell? ⟨w.heap.size, 0, none⟩ = some (.int .i64 a) := fun P => P.cell (by subst h1; simp)
  have q1 : ∀ P : BelowOf W1, P.world.cell? ⟨w.heap.size, 1, none⟩ = some (.int .i64 b) := fun P => P.cell (by subst h1; simp)
  have q2 : ∀ P : BelowOf W1, P.world.cell? ⟨w.heap.size, 2, none⟩ = some (.int .i64 c) := fun P => P.cell (by subst h1; simp)
  have q3 : ∀ P : BelowOf W1, P.world.cell? ⟨w.heap.size + 1, 0, none⟩ = some (.int .i64 p) := fun P => P.cell (by subst h1; simp)
  have q4 : ∀ P : BelowOf W1, P.world.cell? ⟨w.heap.size + 1, 1, none⟩ = some (.int .i64 q) := fun P => P.cell (by subst h1; simp)
  have q5 : ∀ P : BelowOf W1, P.world.cell? ⟨w.heap.size + 1, 2, none⟩ = some (.int .i64 r) := fun P => P.cell (by subst h1; simp)
  go_enter Try.func16, Try.ntmps16
  go_upto_region 1 with (fail)
  rw [← h1]
  refine wp_region_bel (by kernel_rfl) (by kernel_rfl) ?_
  repeat (go_big_quiet_step (first | (go_at_call 21; (with_reducible exact Calls.bel_of ((CO _).mono fun _ _ h => ⟨h.1, h.2 ▸ Below.refl _ _⟩))) | (go_at_call 24; (with_reducible exact Calls.bel_of (CA _)))))
  refine wpQuiet_nil ?_
  refine bel_all fun wq hbq => ?_
  clear q0 q1 q2 q3 q4 q5
  go_wp2
  go_ret
  exact ⟨rfl, b_cl hb (Nat.le_refl _) hbq⟩

end Go.Proofs.Ytpfmkggnnilknaa
