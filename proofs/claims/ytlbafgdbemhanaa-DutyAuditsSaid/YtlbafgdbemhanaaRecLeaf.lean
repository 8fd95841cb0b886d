/- What the small functions of layer 8 return: isKind, inTime, span, alone, behind. Conditions: none. -/
import Derived.Test.YtlbafgdbemhanaaRows
import Derived.Test.YtlbafgdbemhanaaBase
import Derived.Test.YtlbafgdbemhanaaZ1
import Derived.Test.YtlbafgdbemhanaaIvalLeaf
import Derived.WalkKit
import Derived.WalkSpells
import Derived.WalkSmall
import Derived.Below
import Derived.Outline
import Derived.OwnWalk
import Derived.Lib.Hide
import Derived.BigQuiet
import Derived.Deep.QuietTactic
namespace Go.Proofs.Ytlbafgdbemhanaa
open Go.RowKit

theorem isKind_yes (x : Int) (w : World) (h : 0 ≤ x ∧ x < 4) :
    Calls Try.prog 74 #[.int .i64 x] w fun e w' => e = .returned (.bool true) ∧ w = w' := by
  obtain ⟨h0, h1⟩ := h
  go_enter Try.func74, Try.ntmps74
  go_wp2
  go_ret
  exact ⟨rfl, rfl⟩

theorem isKind_no (x : Int) (w : World) (h : ¬ (0 ≤ x ∧ x < 4)) :
    Calls Try.prog 74 #[.int .i64 x] w fun e w' => e = .returned (.bool false) ∧ w = w' := by
  by_cases h0 : 0 ≤ x
  · have h1 : 4 ≤ x := by omega
    clear h
    go_enter Try.func74, Try.ntmps74
    go_wp2
    go_ret
    exact ⟨by simp; omega, rfl⟩
  · have h1 : x < 0 := by omega
    clear h h0
    go_enter Try.func74, Try.ntmps74
    go_wp2
    go_ret
    exact ⟨rfl, rfl⟩

theorem inTime_yes (x : Int) (w : World) (h : 0 ≤ x ∧ x ≤ 40320) :
    Calls Try.prog 75 #[.int .i64 x] w fun e w' => e = .returned (.bool true) ∧ w = w' := by
  obtain ⟨h0, h1⟩ := h
  go_enter Try.func75, Try.ntmps75
  go_wp2
  go_ret
  exact ⟨rfl, rfl⟩

theorem inTime_no (x : Int) (w : World) (h : ¬ (0 ≤ x ∧ x ≤ 40320)) :
    Calls Try.prog 75 #[.int .i64 x] w fun e w' => e = .returned (.bool false) ∧ w = w' := by
  by_cases h0 : 0 ≤ x
  · have h1 : 40320 < x := by omega
    clear h
    go_enter Try.func75, Try.ntmps75
    go_wp2
    go_ret
    exact ⟨by simp; omega, rfl⟩
  · have h1 : x < 0 := by omega
    clear h h0
    go_enter Try.func75, Try.ntmps75
    go_wp2
    go_ret
    exact ⟨rfl, rfl⟩

theorem recspan_any (x y z : Int) (w : World) :
    Calls Try.prog 77 #[.agg #[.int .i64 x, .int .i64 y, .int .i64 z]] w fun e w' => e = .returned (.agg #[.int .i64 y, .int .i64 z]) ∧ Below w.heap.size w w' := by
  go_enter Try.func77, Try.ntmps77
  go_wp2
  refine bodyPost_ret (v := .agg #[.int .i64 y, .int .i64 z]) (by simp [results, Try.results77, go_sem, *]) rfl ⟨rfl, ?_⟩
  (repeat (first | exact Below.refl _ _ | (refine b_st ?_ (by first | (simp; done) | (simp; omega))) | (refine b_al ?_ (Nat.le_refl _) _) | refine b_dn ?_ | refine b_dr ?_ | (refine b_cl ?_ (Nat.le_refl _) (by assumption))))

theorem behind_any (x y z a b c : Int) (w : World) :
    Calls Try.prog 60 #[.agg #[.int .i64 a, .int .i64 b, .int .i64 c], .agg #[.int .i64 x, .int .i64 y, .int .i64 z]] w fun e w' => e = .returned (.int .i64 (behindV c y)) ∧ Below w.heap.size w w' := by
  unfold behindV
  by_cases h1 : c < y
  · rw [if_pos h1]
    go_enter Try.func60, Try.ntmps60
    go_wp2
    go_ret
    exact ⟨rfl, by (repeat (first | exact Below.refl _ _ | (refine b_st ?_ (by first | (simp; done) | (simp; omega))) | (refine b_al ?_ (Nat.le_refl _) _) | refine b_dn ?_ | refine b_dr ?_ | (refine b_cl ?_ (Nat.le_refl _) (by assumption))))⟩
  · rw [if_neg h1]
    by_cases h2 : y < c
    · rw [if_pos h2]
      have h1' : y ≤ c := by omega
      go_enter Try.func60, Try.ntmps60
      go_wp2
      go_ret
      exact ⟨rfl, by (repeat (first | exact Below.refl _ _ | (refine b_st ?_ (by first | (simp; done) | (simp; omega))) | (refine b_al ?_ (Nat.le_refl _) _) | refine b_dn ?_ | refine b_dr ?_ | (refine b_cl ?_ (Nat.le_refl _) (by assumption))))⟩
    · rw [if_neg h2]
      have h1' : y ≤ c := by omega
      have h2' : c ≤ y := by omega
      go_enter Try.func60, Try.ntmps60
      go_wp2
      go_ret
      exact ⟨rfl, by (repeat (first | exact Below.refl _ _ | (refine b_st ?_ (by first | (simp; done) | (simp; omega))) | (refine b_al ?_ (Nat.le_refl _) _) | refine b_dn ?_ | refine b_dr ?_ | (refine b_cl ?_ (Nat.le_refl _) (by assumption))))⟩

theorem alone_no_kind (x y z : Int) (w : World) (h : ¬ (0 ≤ x ∧ x < 4)) :
    Calls Try.prog 59 #[.agg #[.int .i64 x, .int .i64 y, .int .i64 z]] w fun e w' => e = .returned (.int .i64 2) ∧ Below w.heap.size w w' := by
  have C := fun W => isKind_no x W h
  clear h
  go_enter Try.func59, Try.ntmps59
  go_wp2_with (first | (go_at_call 74; (with_reducible refine (C _).mono ?_); rintro e w' ⟨rfl, rfl⟩))
  go_ret
  exact ⟨rfl, by (repeat (first | exact Below.refl _ _ | (refine b_st ?_ (by first | (simp; done) | (simp; omega))) | (refine b_al ?_ (Nat.le_refl _) _) | refine b_dn ?_ | refine b_dr ?_ | (refine b_cl ?_ (Nat.le_refl _) (by assumption))))⟩

theorem alone_no_from (x y z : Int) (w : World) (h : 0 ≤ x ∧ x < 4) (hy : ¬ (0 ≤ y ∧ y ≤ 40320)) :
    Calls Try.prog 59 #[.agg #[.int .i64 x, .int .i64 y, .int .i64 z]] w fun e w' => e = .returned (.int .i64 4) ∧ Below w.heap.size w w' := by
  have C := fun W => isKind_yes x W h
  have D := fun W => inTime_no y W hy
  clear h hy
  go_enter Try.func59, Try.ntmps59
  go_wp2_with (first | (go_at_call 74; (with_reducible refine (C _).mono ?_); rintro e w' ⟨rfl, rfl⟩) | (go_at_call 75; (with_reducible refine (D _).mono ?_); rintro e w' ⟨rfl, rfl⟩))
  go_ret
  exact ⟨rfl, by (repeat (first | exact Below.refl _ _ | (refine b_st ?_ (by first | (simp; done) | (simp; omega))) | (refine b_al ?_ (Nat.le_refl _) _) | refine b_dn ?_ | refine b_dr ?_ | (refine b_cl ?_ (Nat.le_refl _) (by assumption))))⟩

theorem alone_no_to (x y z : Int) (w : World) (h : 0 ≤ x ∧ x < 4) (hy : 0 ≤ y ∧ y ≤ 40320) (hz : ¬ (0 ≤ z ∧ z ≤ 40320)) :
    Calls Try.prog 59 #[.agg #[.int .i64 x, .int .i64 y, .int .i64 z]] w fun e w' => e = .returned (.int .i64 4) ∧ Below w.heap.size w w' := by
  have C := fun W => isKind_yes x W h
  have D := fun W => inTime_yes y W hy
  have E := fun W => inTime_no z W hz
  have tok1 : True := trivial
  clear h hy hz
  go_enter Try.func59, Try.ntmps59
  go_wp2_with (first | (go_at_call 74; (with_reducible refine (C _).mono ?_); rintro e w' ⟨rfl, rfl⟩) | (go_at_call 75; (clear tok1); (with_reducible refine (D _).mono ?_); rintro e w' ⟨rfl, rfl⟩) | (go_at_call 75; (with_reducible refine (E _).mono ?_); rintro e w' ⟨rfl, rfl⟩))
  go_ret
  exact ⟨rfl, by (repeat (first | exact Below.refl _ _ | (refine b_st ?_ (by first | (simp; done) | (simp; omega))) | (refine b_al ?_ (Nat.le_refl _) _) | refine b_dn ?_ | refine b_dr ?_ | (refine b_cl ?_ (Nat.le_refl _) (by assumption))))⟩

theorem alone_in (x y z : Int) (g : Bool) (w : World) (h : 0 ≤ x ∧ x < 4) (hy : 0 ≤ y ∧ y ≤ 40320) (hz : 0 ≤ z ∧ z ≤ 40320) (hg : decide (y < z) = g) :
    Calls Try.prog 59 #[.agg #[.int .i64 x, .int .i64 y, .int .i64 z]] w fun e w' => e = .returned (.int .i64 (if g then 0 else 3)) ∧ Below w.heap.size w w' := by
  have C := fun W => isKind_yes x W h
  have D := fun W => inTime_yes y W hy
  have E := fun W => inTime_yes z W hz
  have G := fun W => right_any y z W
  rw [hg] at G
  have tok1 : True := trivial
  clear h hy hz hg
  cases g
  · go_enter Try.func59, Try.ntmps59
    go_wp2_with (first | (go_at_call 74; (with_reducible refine (C _).mono ?_); rintro e w' ⟨rfl, rfl⟩) | (go_at_call 75; (clear tok1); (with_reducible refine (D _).mono ?_); rintro e w' ⟨rfl, rfl⟩) | (go_at_call 75; (with_reducible refine (E _).mono ?_); rintro e w' ⟨rfl, rfl⟩) | (go_at_call 77; refine (recspan_any _ _ _ _).mono ?_; rintro e w1 ⟨rfl, hb1⟩) | (go_at_call 76; (with_reducible refine (G _).mono ?_); rintro e w2 ⟨rfl, hb2⟩))
    go_ret
    exact ⟨rfl, by (repeat (first | exact Below.refl _ _ | (refine b_st ?_ (by first | (simp; done) | (simp; omega))) | (refine b_al ?_ (Nat.le_refl _) _) | refine b_dn ?_ | refine b_dr ?_ | (refine b_cl ?_ (Nat.le_refl _) (by assumption))))⟩
  · go_enter Try.func59, Try.ntmps59
    go_wp2_with (first | (go_at_call 74; (with_reducible refine (C _).mono ?_); rintro e w' ⟨rfl, rfl⟩) | (go_at_call 75; (clear tok1); (with_reducible refine (D _).mono ?_); rintro e w' ⟨rfl, rfl⟩) | (go_at_call 75; (with_reducible refine (E _).mono ?_); rintro e w' ⟨rfl, rfl⟩) | (go_at_call 77; refine (recspan_any _ _ _ _).mono ?_; rintro e w1 ⟨rfl, hb1⟩) | (go_at_call 76; (with_reducible refine (G _).mono ?_); rintro e w2 ⟨rfl, hb2⟩))
    go_ret
    exact ⟨rfl, by (repeat (first | exact Below.refl _ _ | (refine b_st ?_ (by first | (simp; done) | (simp; omega))) | (refine b_al ?_ (Nat.le_refl _) _) | refine b_dn ?_ | refine b_dr ?_ | (refine b_cl ?_ (Nat.le_refl _) (by assumption))))⟩

theorem alone_any (x y z : Int) (w : World) :
    Calls Try.prog 59 #[.agg #[.int .i64 x, .int .i64 y, .int .i64 z]] w fun e w' => e = .returned (.int .i64 (aloneV x y z)) ∧ Below w.heap.size w w' := by
  unfold aloneV
  by_cases h : 0 ≤ x ∧ x < 4
  · rw [if_pos h]
    by_cases hy : 0 ≤ y ∧ y ≤ 40320
    · by_cases hz : 0 ≤ z ∧ z ≤ 40320
      · rw [if_pos ⟨hy, hz⟩]
        have := alone_in x y z _ w h hy hz rfl
        by_cases hg : y < z
        · rw [decide_eq_true hg] at this; rw [if_pos hg]; exact this
        · rw [decide_eq_false hg] at this; rw [if_neg hg]; exact this
      · rw [if_neg (fun k => hz k.2)]
        exact alone_no_to x y z w h hy hz
    · rw [if_neg (fun k => hy k.1)]
      exact alone_no_from x y z w h hy
  · rw [if_neg h]
    exact alone_no_kind x y z w h

end Go.Proofs.Ytlbafgdbemhanaa
