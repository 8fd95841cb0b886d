/- The contracts of layer 1 cut to one way each: a sum, a difference, a product that fits or that does not. Conditions: each lemma's own premises. -/
import Derived.Test.YtpnfdeconinaoaaRows
import Derived.Test.YtpnfdeconinaoaaMath
import Derived.Test.YtpnfdeconinaoaaLeaf
import Derived.Test.YtpnfdeconinaoaaDiv
import Derived.Test.YtpnfdeconinaoaaMul
import Derived.Test.YtpnfdeconinaoaaAdd
import Derived.WalkKit
import Derived.Lib.Hide
namespace Go.Proofs.Ytpnfdeconinaoaa
open Go.RowKit

def Fits (n : Int) : Prop := -9223372036854775808 ≤ n ∧ n ≤ 9223372036854775807

theorem two_cells_at (w : World) (a b : Value) (t : TypeId) (n : Nat) (h : n = w.heap.size) :
    (w.alloc (.cells #[a, b] t)).cell? ⟨n, 0, none⟩ = some a ∧ (w.alloc (.cells #[a, b] t)).cell? ⟨n, 1, none⟩ = some b := by
  subst h; exact two_cells w a b t
theorem add_fits (b cap : Nat) (x y z : Int) (w : World) (h0 : w.cell? ⟨b, 0, none⟩ = some (.int .i64 x)) (h1 : w.cell? ⟨b, 1, none⟩ = some (.int .i64 y))
    (hx : Fits x) (hy : Fits y) (hz : Fits z) (h : x + y = z) :
    Calls Try.prog 8 #[.slice (some ⟨b, 0, none⟩) 2 cap] w fun e w' => e = .returned (.tuple #[.int .i64 z, .int .i64 0]) ∧ w = w' := by
  have H := add_two b cap x y w h0 h1 hx hy
  rwa [h, fit_in z hz.1 hz.2] at H
theorem add_over (b cap : Nat) (x y : Int) (w : World) (h0 : w.cell? ⟨b, 0, none⟩ = some (.int .i64 x)) (h1 : w.cell? ⟨b, 1, none⟩ = some (.int .i64 y))
    (hx : Fits x) (hy : Fits y) (h : ¬ Fits (x + y)) :
    Calls Try.prog 8 #[.slice (some ⟨b, 0, none⟩) 2 cap] w fun e w' => e = .returned (.tuple #[.int .i64 0, .int .i64 19]) ∧ w = w' := by
  have H := add_two b cap x y w h0 h1 hx hy
  rwa [fit_out _ h] at H
theorem sub_sum (s b a : Int) (w : World) (hs : Fits s) (hb : Fits b) (ha : Fits a) (h : s - b = a) :
    Calls Try.prog 10 #[.int .i64 s, .int .i64 b] w fun e w' => e = .returned (.tuple #[.int .i64 a, .int .i64 0]) ∧ w = w' := by
  have H := sub_any s b w hs hb
  rwa [h, fit_in _ ha.1 ha.2] at H
theorem mul_fits (a b m : Int) (w : World) (ha : Fits a) (hb : Fits b) (hm : Fits m) (h : a * b = m) :
    Calls Try.prog 11 #[.int .i64 a, .int .i64 b] w fun e w' => e = .returned (.tuple #[.int .i64 m, .int .i64 0]) ∧ w = w' := by
  have H := mul_any a b w ha hb
  rwa [h, fit_in _ hm.1 hm.2] at H
theorem mul_out (a b : Int) (w : World) (ha : Fits a) (hb : Fits b) (h : ¬ Fits (a * b)) :
    Calls Try.prog 11 #[.int .i64 a, .int .i64 b] w fun e w' => e = .returned (.tuple #[.int .i64 0, .int .i64 19]) ∧ w = w' := by
  have H := mul_any a b w ha hb
  rwa [fit_out _ h] at H
theorem div_bad (a b : Int) (w : World) (ha : Fits a) (hb : Fits b) (h : b < 1) :
    Calls Try.prog 12 #[.int .i64 a, .int .i64 b] w fun e w' => e = .returned (.tuple #[.int .i64 0, .int .i64 0, .int .i64 1]) ∧ ∃ n, w' = w.drewN n := by
  have H := div_any a b w ha hb
  rwa [dv_arg a b h] at H
theorem div_good (a b q r : Int) (w : World) (ha : Fits a) (hb : Fits b) (h : 1 ≤ b) (hq : a / b = q) (hr : a % b = r) :
    Calls Try.prog 12 #[.int .i64 a, .int .i64 b] w fun e w' => e = .returned (.tuple #[.int .i64 q, .int .i64 r, .int .i64 0]) ∧ ∃ n, w' = w.drewN n := by
  have H := div_any a b w ha hb
  rwa [dv_ok a b h, hq, hr] at H
theorem div_sum (a b : Int) : a / b * b + a % b = a := by rw [Int.mul_comm]; exact Int.mul_ediv_add_emod a b
/-- Where the multiple does not fit, the number is below nought. -/
theorem neg_of_out (a b : Int) (hb : 1 ≤ b) (ha : Fits a) (h : ¬ Fits (a / b * b)) : a < 0 := by
  have h1 := div_sum a b
  obtain ⟨m0, m1⟩ := emod_bd a b hb
  by_cases hz : 0 ≤ a
  · have hq := Int.ediv_nonneg hz (by omega : 0 ≤ b)
    have hp := Int.mul_nonneg hq (by omega : 0 ≤ b)
    exact absurd ⟨by omega, by have := ha.2; omega⟩ h
  · omega

end Go.Proofs.Ytpnfdeconinaoaa
