/- What Mul of layer 1 returns, for any two numbers of 64 bits: the product that fits, or 0 and the error 19. Conditions: the arguments fit 64 bits. -/
import Derived.Test.YtbldkhlkejoklaaDoorRows
import Derived.Test.YtbldkhlkejoklaaDoorMath
import Derived.Test.YtbldkhlkejoklaaDoorLeaf
import Derived.WalkKit
import Derived.WalkSpells
import Derived.Lib.Hide
namespace Go.Proofs.YtbldkhlkejoklaaDoor
open Go.RowKit

theorem mul_any (a b : Int) (w : World) (ha : -9223372036854775808 ≤ a ∧ a ≤ 9223372036854775807) (hb : -9223372036854775808 ≤ b ∧ b ≤ 9223372036854775807) :
    Calls Tryd.prog 20 #[.int .i64 a, .int .i64 b] w fun e w' => e = .returned (.tuple #[.int .i64 (fit (a * b)).1, .int .i64 (fit (a * b)).2]) ∧ w = w' := by
  by_cases c0 : b = 0
  · subst c0
    rw [Int.mul_zero, fit_in 0 (by decide) (by decide)]
    go_enter Tryd.func20, Tryd.ntmps20
    go_wp2
    go_ret2
    exact ⟨rfl, rfl⟩
  · by_cases c1 : b = -1
    · subst c1
      clear c0
      rw [show a * -1 = -a by omega]
      go_enter Tryd.func20, Tryd.ntmps20
      go_wp2_with (go_at_call 30; refine (sub_any _ _ _ (by omega) (by omega)).mono ?_; rintro e w' ⟨rfl, rfl⟩)
      go_ret2
      exact ⟨rfl, rfl⟩
    · have k0 : (b == 0) = false := by simpa using c0
      have k1 : (b == -1) = false := by simpa using c1
      by_cases h : -9223372036854775808 ≤ a * b ∧ a * b ≤ 9223372036854775807
      · have hq := mul_back a b c0
        rw [fit_in _ h.1 h.2]
        obtain ⟨h3, h4⟩ := h
        obtain ⟨ha0, ha1⟩ := ha
        obtain ⟨hb0, hb1⟩ := hb
        go_enter Tryd.func20, Tryd.ntmps20
        go_wp2
        go_ret2
        exact ⟨rfl, rfl⟩
      · have hq := mul_over a b hb c1 h
        rw [fit_out _ h]
        clear h
        obtain ⟨ha0, ha1⟩ := ha
        obtain ⟨hb0, hb1⟩ := hb
        go_enter Tryd.func20, Tryd.ntmps20
        go_wp2
        go_ret2
        exact ⟨rfl, rfl⟩

theorem refmul_any (a b : Int) (w : World) (ha : -9223372036854775808 ≤ a ∧ a ≤ 9223372036854775807) (hb : -9223372036854775808 ≤ b ∧ b ≤ 9223372036854775807) :
    Calls Tryd.prog 21 #[.int .i64 a, .int .i64 b] w fun e w' => e = .returned (.tuple #[.int .i64 (fit (a * b)).1, .int .i64 (fit (a * b)).2]) ∧ w = w' := by
  by_cases c0 : b = 0
  · subst c0
    rw [Int.mul_zero, fit_in 0 (by decide) (by decide)]
    by_cases c2 : a = 0
    · subst c2
      go_enter Tryd.func21, Tryd.ntmps21
      go_wp2
      go_ret2
      exact ⟨rfl, rfl⟩
    · have k2 : (a == 0) = false := by simpa using c2
      go_enter Tryd.func21, Tryd.ntmps21
      go_wp2
      go_ret2
      exact ⟨rfl, rfl⟩
  · by_cases c2 : a = 0
    · subst c2
      rw [Int.zero_mul, fit_in 0 (by decide) (by decide)]
      go_enter Tryd.func21, Tryd.ntmps21
      go_wp2
      go_ret2
      exact ⟨rfl, rfl⟩
    · by_cases c3 : a = -1
      · subst c3
        clear c2
        have k0 : (b == 0) = false := by simpa using c0
        rw [show -1 * b = -b by omega]
        go_enter Tryd.func21, Tryd.ntmps21
        go_wp2_with (go_at_call 31; refine (refsub_any _ _ _ (by omega) (by omega)).mono ?_; rintro e w' ⟨rfl, rfl⟩)
        go_ret2
        exact ⟨rfl, rfl⟩
      · by_cases c1 : b = -1
        · subst c1
          clear c0
          have k2 : (a == 0) = false := by simpa using c2
          have k3 : (a == -1) = false := by simpa using c3
          rw [show a * -1 = -a by omega]
          go_enter Tryd.func21, Tryd.ntmps21
          go_wp2_with (go_at_call 31; refine (refsub_any _ _ _ (by omega) (by omega)).mono ?_; rintro e w' ⟨rfl, rfl⟩)
          go_ret2
          exact ⟨rfl, rfl⟩
        · have k0 : (b == 0) = false := by simpa using c0
          have k1 : (b == -1) = false := by simpa using c1
          have k2 : (a == 0) = false := by simpa using c2
          have k3 : (a == -1) = false := by simpa using c3
          by_cases h : -9223372036854775808 ≤ a * b ∧ a * b ≤ 9223372036854775807
          · have hq := mul_back a b c0
            rw [fit_in _ h.1 h.2]
            obtain ⟨h3, h4⟩ := h
            obtain ⟨ha0, ha1⟩ := ha
            obtain ⟨hb0, hb1⟩ := hb
            go_enter Tryd.func21, Tryd.ntmps21
            go_wp2
            go_ret2
            exact ⟨rfl, rfl⟩
          · have hq := mul_over a b hb c1 h
            rw [fit_out _ h]
            clear h
            obtain ⟨ha0, ha1⟩ := ha
            obtain ⟨hb0, hb1⟩ := hb
            go_enter Tryd.func21, Tryd.ntmps21
            go_wp2
            go_ret2
            exact ⟨rfl, rfl⟩

end Go.Proofs.YtbldkhlkejoklaaDoor
