/- What Of and Begin of layer 4 return, for any two numbers of 64 bits, and the document's own. Conditions: the arguments fit 64 bits. -/
import Derived.Test.YtbldkhlkejoklaaDoorRows
import Derived.Test.YtbldkhlkejoklaaDoorMath
import Derived.Test.YtbldkhlkejoklaaDoorLeaf
import Derived.Test.YtbldkhlkejoklaaDoorMul
import Derived.Test.YtbldkhlkejoklaaDoorDiv
import Derived.WalkKit
import Derived.WalkSpells
import Derived.Deep.QuietTactic
import Derived.BigQuiet
import Derived.Lib.Hide
namespace Go.Proofs.YtbldkhlkejoklaaDoor
open Go.RowKit

/-- The week of a minute: the number, the error. -/
def ofV (m l : Int) : Int × Int := if l < 1 then (0, 1) else if m < 0 then (0, 4) else (m / l, 0)

/-- Where a week begins: the minute, the error. -/
def beginV (n l : Int) : Int × Int := if l < 1 then (0, 1) else if n < 0 then (0, 4) else fit (n * l)

theorem of_ok {m l : Int} (h1 : 1 ≤ l) (h2 : 0 ≤ m) : ofV m l = (m / l, 0) := by
  unfold ofV; rw [if_neg (by omega), if_neg (by omega)]

theorem begin_ok {n l : Int} (h1 : 1 ≤ l) (h2 : 0 ≤ n) (h3 : n * l ≤ 9223372036854775807) : beginV n l = (n * l, 0) := by
  unfold beginV
  rw [if_neg (by omega), if_neg (by omega)]
  exact fit_in _ (by have := Int.mul_nonneg h2 (show 0 ≤ l by omega); omega) h3

theorem check_any (m l : Int) (w : World) :
    Calls Tryd.prog 18 #[.int .i64 m, .int .i64 l] w fun e w' => e = .returned (.int .i64 (if l < 1 then 1 else if m < 0 then 4 else 0)) ∧ w = w' := by
  by_cases h1 : l < 1
  · rw [if_pos h1]
    go_enter Tryd.func18, Tryd.ntmps18
    go_wp2
    go_ret
    exact ⟨rfl, rfl⟩
  · rw [if_neg h1]
    by_cases h2 : m < 0
    · rw [if_pos h2]
      go_enter Tryd.func18, Tryd.ntmps18
      go_wp2
      go_ret
      exact ⟨rfl, rfl⟩
    · rw [if_neg h2]
      go_enter Tryd.func18, Tryd.ntmps18
      go_wp2
      go_ret
      exact ⟨rfl, rfl⟩

theorem check_c (m l : Int) (w : World) (c : Int) (h : (if l < 1 then (1 : Int) else if m < 0 then 4 else 0) = c) :
    Calls Tryd.prog 18 #[.int .i64 m, .int .i64 l] w fun e w' => e = .returned (.int .i64 c) ∧ w = w' := by
  subst h
  exact check_any m l w

theorem of_any (m l : Int) (w : World) (hm : -9223372036854775808 ≤ m ∧ m ≤ 9223372036854775807) (hl : -9223372036854775808 ≤ l ∧ l ≤ 9223372036854775807) :
    Calls Tryd.prog 6 #[.int .i64 m, .int .i64 l] w fun e w' => e = .returned (.tuple #[.int .i64 (ofV m l).1, .int .i64 (ofV m l).2]) ∧ ∃ n, w' = w.drewN n := by
  unfold ofV
  by_cases h1 : l < 1
  · have C := fun W => check_c m l W 1 (by rw [if_pos h1])
    rw [if_pos h1]
    go_enter Tryd.func6, Tryd.ntmps6
    go_wp2_with (go_at_call 18; refine (C _).mono ?_; rintro e w' ⟨rfl, rfl⟩)
    go_ret2
    exact ⟨rfl, 0, rfl⟩
  · rw [if_neg h1]
    by_cases h2 : m < 0
    · have C := fun W => check_c m l W 4 (by rw [if_neg h1, if_pos h2])
      rw [if_pos h2]
      go_enter Tryd.func6, Tryd.ntmps6
      go_wp2_with (go_at_call 18; refine (C _).mono ?_; rintro e w' ⟨rfl, rfl⟩)
      go_ret2
      exact ⟨rfl, 0, rfl⟩
    · have C := fun W => check_c m l W 0 (by rw [if_neg h1, if_neg h2])
      rw [if_neg h2]
      have D := fun W => div_any m l W hm hl
      simp only [dv_ok m l (by omega)] at D
      go_enter Tryd.func6, Tryd.ntmps6
      go_wp2_with (first | (go_at_call 18; refine (C _).mono ?_; rintro e w' ⟨rfl, rfl⟩) | (go_at_call 19; refine (D _).mono ?_; rintro e w1 ⟨rfl, n, rfl⟩))
      go_ret2
      exact ⟨rfl, n, rfl⟩

theorem refof_any (m l : Int) (w : World) (hm : -9223372036854775808 ≤ m ∧ m ≤ 9223372036854775807) (hl : -9223372036854775808 ≤ l ∧ l ≤ 9223372036854775807) :
    Calls Tryd.prog 7 #[.int .i64 m, .int .i64 l] w fun e w' => e = .returned (.tuple #[.int .i64 (ofV m l).1, .int .i64 (ofV m l).2]) ∧ ∃ n, w' = w.drewN n := by
  obtain ⟨hm0, hm1⟩ := hm
  obtain ⟨hl0, hl1⟩ := hl
  unfold ofV
  by_cases h1 : l < 1
  · rw [if_pos h1]
    go_enter Tryd.func7, Tryd.ntmps7
    go_wp2
    go_ret2
    exact ⟨rfl, 0, rfl⟩
  · rw [if_neg h1]
    by_cases h2 : m < 0
    · rw [if_pos h2]
      go_enter Tryd.func7, Tryd.ntmps7
      go_wp2
      go_ret2
      exact ⟨rfl, 0, rfl⟩
    · rw [if_neg h2]
      have h3 : 1 ≤ l := by omega
      have h4 : 0 ≤ m := by omega
      clear h1 h2
      go_enter Tryd.func7, Tryd.ntmps7
      go_wp2
      go_ret2
      exact ⟨rfl, 0, rfl⟩

theorem begin_any (n l : Int) (w : World) (hn : -9223372036854775808 ≤ n ∧ n ≤ 9223372036854775807) (hl : -9223372036854775808 ≤ l ∧ l ≤ 9223372036854775807) :
    Calls Tryd.prog 8 #[.int .i64 n, .int .i64 l] w fun e w' => e = .returned (.tuple #[.int .i64 (beginV n l).1, .int .i64 (beginV n l).2]) ∧ w = w' := by
  unfold beginV
  have M := fun W => mul_any n l W hn hl
  by_cases h1 : l < 1
  · have C := fun W => check_c n l W 1 (by rw [if_pos h1])
    rw [if_pos h1]
    go_enter Tryd.func8, Tryd.ntmps8
    go_wp2_with (go_at_call 18; refine (C _).mono ?_; rintro e w' ⟨rfl, rfl⟩)
    go_ret2
    exact ⟨rfl, rfl⟩
  · rw [if_neg h1]
    by_cases h2 : n < 0
    · have C := fun W => check_c n l W 4 (by rw [if_neg h1, if_pos h2])
      rw [if_pos h2]
      go_enter Tryd.func8, Tryd.ntmps8
      go_wp2_with (go_at_call 18; refine (C _).mono ?_; rintro e w' ⟨rfl, rfl⟩)
      go_ret2
      exact ⟨rfl, rfl⟩
    · have C := fun W => check_c n l W 0 (by rw [if_neg h1, if_neg h2])
      rw [if_neg h2]
      go_enter Tryd.func8, Tryd.ntmps8
      go_wp2_with (first | (go_at_call 18; refine (C _).mono ?_; rintro e w' ⟨rfl, rfl⟩) | (go_at_call 20; refine (M _).mono ?_; rintro e w' ⟨rfl, rfl⟩))
      go_ret2
      exact ⟨rfl, rfl⟩

theorem refbegin_any (n l : Int) (w : World) (hn : -9223372036854775808 ≤ n ∧ n ≤ 9223372036854775807) (hl : -9223372036854775808 ≤ l ∧ l ≤ 9223372036854775807) :
    Calls Tryd.prog 9 #[.int .i64 n, .int .i64 l] w fun e w' => e = .returned (.tuple #[.int .i64 (beginV n l).1, .int .i64 (beginV n l).2]) ∧ w = w' := by
  unfold beginV
  have M := fun W => refmul_any n l W hn hl
  by_cases h1 : l < 1
  · rw [if_pos h1]
    go_enter Tryd.func9, Tryd.ntmps9
    go_wp2
    go_ret2
    exact ⟨rfl, rfl⟩
  · rw [if_neg h1]
    by_cases h2 : n < 0
    · rw [if_pos h2]
      go_enter Tryd.func9, Tryd.ntmps9
      go_wp2
      go_ret2
      exact ⟨rfl, rfl⟩
    · rw [if_neg h2]
      go_enter Tryd.func9, Tryd.ntmps9
      go_wp2_with (go_at_call 21; refine (M _).mono ?_; rintro e w' ⟨rfl, rfl⟩)
      go_ret2
      exact ⟨rfl, rfl⟩

end Go.Proofs.YtbldkhlkejoklaaDoor
