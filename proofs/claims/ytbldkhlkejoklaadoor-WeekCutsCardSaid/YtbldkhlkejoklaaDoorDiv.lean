/- What Div of layer 1 returns, for any two numbers of 64 bits: the error 1 where b is below 1; else the quotient towards the lesser number and what is left. Conditions: the arguments fit 64 bits. -/
import Derived.Test.YtbldkhlkejoklaaDoorRows
import Derived.Test.YtbldkhlkejoklaaDoorMath
import Derived.WalkKit
import Derived.WalkSpells
import Derived.Deep.QuietTactic
import Derived.BigQuiet
import Derived.Lib.Hide
namespace Go.Proofs.YtbldkhlkejoklaaDoor
open Go.RowKit

theorem div_arg (a b : Int) (w : World) (hb : b < 1) :
    Calls Tryd.prog 19 #[.int .i64 a, .int .i64 b] w fun e w' => e = .returned (.tuple #[.int .i64 0, .int .i64 0, .int .i64 1]) ∧ w = w' := by
  go_enter Tryd.func19, Tryd.ntmps19
  go_wp2
  go_ret3
  exact ⟨rfl, rfl⟩
theorem div_neg (a b : Int) (w : World) (ha : -9223372036854775808 ≤ a ∧ a ≤ 9223372036854775807) (hb : 1 ≤ b) (hb1 : b ≤ 9223372036854775807) (h : a.tmod b < 0) :
    Calls Tryd.prog 19 #[.int .i64 a, .int .i64 b] w fun e w' => e = .returned (.tuple #[.int .i64 (a / b), .int .i64 (a % b), .int .i64 0]) ∧ ∃ n, w' = w.drewN n := by
  obtain ⟨q0, q1⟩ := tdiv_bd a b hb ha h
  have E := Lib.hid (div_lo a b hb h)
  obtain ⟨m0, m1⟩ := emod_bd a b hb
  have r1 : a.tmod b + b ≤ 9223372036854775807 := by rw [E.out.2]; omega
  have r0 : 0 ≤ a.tmod b + b := by rw [E.out.2]; omega
  clear m0 m1
  obtain ⟨ha0, ha1⟩ := ha
  go_enter Tryd.func19, Tryd.ntmps19
  go_wp2
  go_quiet (fail)
  go_wp2
  go_ret3
  rw [← E.out.1, ← E.out.2]
  exact ⟨rfl, _, rfl⟩
theorem div_pos (a b : Int) (w : World) (ha : -9223372036854775808 ≤ a ∧ a ≤ 9223372036854775807) (hb : 1 ≤ b) (hb1 : b ≤ 9223372036854775807) (h : 0 ≤ a.tmod b) :
    Calls Tryd.prog 19 #[.int .i64 a, .int .i64 b] w fun e w' => e = .returned (.tuple #[.int .i64 (a / b), .int .i64 (a % b), .int .i64 0]) ∧ ∃ n, w' = w.drewN n := by
  have E := Lib.hid (div_hi a b hb h)
  obtain ⟨ha0, ha1⟩ := ha
  go_enter Tryd.func19, Tryd.ntmps19
  go_wp2
  go_quiet (fail)
  go_wp2
  go_ret3
  rw [← E.out.1, ← E.out.2]
  exact ⟨rfl, _, rfl⟩
/-- For any two numbers of 64 bits. -/
theorem div_any (a b : Int) (w : World) (ha : -9223372036854775808 ≤ a ∧ a ≤ 9223372036854775807) (hb : -9223372036854775808 ≤ b ∧ b ≤ 9223372036854775807) :
    Calls Tryd.prog 19 #[.int .i64 a, .int .i64 b] w fun e w' => e = .returned (.tuple #[.int .i64 (dv a b).1, .int .i64 (dv a b).2.1, .int .i64 (dv a b).2.2]) ∧ ∃ n, w' = w.drewN n := by
  unfold dv
  by_cases h : b < 1
  · rw [if_pos h]
    exact (div_arg a b w h).mono fun e w' ⟨he, hw⟩ => ⟨he, 0, by rw [← hw]; rfl⟩
  · rw [if_neg h]
    by_cases h2 : a.tmod b < 0
    · exact div_neg a b w ha (by omega) hb.2 h2
    · exact div_pos a b w ha (by omega) hb.2 (by omega)

end Go.Proofs.YtbldkhlkejoklaaDoor
