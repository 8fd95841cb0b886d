/- What Sub, Two and their like of layer 1 return, for any two numbers of 64 bits: the value that fits, or 0 and the error 19. Conditions: the arguments fit 64 bits. -/
import Derived.Test.YtbldkhlkejoklaaDoorRows
import Derived.Test.YtbldkhlkejoklaaDoorMath
import Derived.WalkKit
import Derived.WalkSpells
import Derived.Lib.Hide
namespace Go.Proofs.YtbldkhlkejoklaaDoor
open Go.RowKit

theorem sub_any (a b : Int) (w : World) (ha : -9223372036854775808 ≤ a ∧ a ≤ 9223372036854775807) (hb : -9223372036854775808 ≤ b ∧ b ≤ 9223372036854775807) :
    Calls Tryd.prog 30 #[.int .i64 a, .int .i64 b] w fun e w' => e = .returned (.tuple #[.int .i64 (fit (a - b)).1, .int .i64 (fit (a - b)).2]) ∧ w = w' := by
  obtain ⟨ha0, ha1⟩ := ha
  obtain ⟨hb0, hb1⟩ := hb
  by_cases h1 : 9223372036854775807 < a - b
  · have hw := sub_wrap_hi a b ha1 hb0 h1
    rw [fit_hi _ h1]
    have c1 : ¬ 0 < b := by omega
    have c2 : b < 0 := by omega
    go_enter Tryd.func30, Tryd.ntmps30
    go_wp2
    go_ret2
    exact ⟨rfl, rfl⟩
  · by_cases h2 : a - b < -9223372036854775808
    · have hw := sub_wrap_lo a b ha0 hb1 h2
      rw [fit_lo _ h2]
      have c1 : 0 < b := by omega
      go_enter Tryd.func30, Tryd.ntmps30
      go_wp2
      go_ret2
      exact ⟨rfl, rfl⟩
    · rw [fit_in _ (by omega) (by omega)]
      have h3 : a - b ≤ 9223372036854775807 := by omega
      have h4 : -9223372036854775808 ≤ a - b := by omega
      clear h1 h2
      by_cases c1 : 0 < b
      · go_enter Tryd.func30, Tryd.ntmps30
        go_wp2
        go_ret2
        exact ⟨rfl, rfl⟩
      · by_cases c2 : b < 0
        all_goals
          go_enter Tryd.func30, Tryd.ntmps30
          go_wp2
          go_ret2
          exact ⟨rfl, rfl⟩

theorem refsub_any (a b : Int) (w : World) (ha : -9223372036854775808 ≤ a ∧ a ≤ 9223372036854775807) (hb : -9223372036854775808 ≤ b ∧ b ≤ 9223372036854775807) :
    Calls Tryd.prog 31 #[.int .i64 a, .int .i64 b] w fun e w' => e = .returned (.tuple #[.int .i64 (fit (a - b)).1, .int .i64 (fit (a - b)).2]) ∧ w = w' := by
  obtain ⟨ha0, ha1⟩ := ha
  obtain ⟨hb0, hb1⟩ := hb
  by_cases h1 : 9223372036854775807 < a - b
  · rw [fit_hi _ h1]
    have c2 : b < 0 := by omega
    go_enter Tryd.func31, Tryd.ntmps31
    go_wp2
    go_ret2
    exact ⟨rfl, rfl⟩
  · by_cases h2 : a - b < -9223372036854775808
    · rw [fit_lo _ h2]
      have c2 : 0 < b := by omega
      go_enter Tryd.func31, Tryd.ntmps31
      go_wp2
      go_ret2
      exact ⟨rfl, rfl⟩
    · rw [fit_in _ (by omega) (by omega)]
      have h3 : a - b ≤ 9223372036854775807 := by omega
      have h4 : -9223372036854775808 ≤ a - b := by omega
      clear h1 h2
      by_cases c1 : 0 < b
      · go_enter Tryd.func31, Tryd.ntmps31
        go_wp2
        go_ret2
        exact ⟨rfl, rfl⟩
      · by_cases c2 : b < 0
        all_goals
          go_enter Tryd.func31, Tryd.ntmps31
          go_wp2
          go_ret2
          exact ⟨rfl, rfl⟩

end Go.Proofs.YtbldkhlkejoklaaDoor
