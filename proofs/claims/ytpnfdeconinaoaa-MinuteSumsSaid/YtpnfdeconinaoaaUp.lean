/- What Up of layer 1 returns, for any two numbers of 64 bits. Conditions: the arguments fit 64 bits. -/
import Derived.Test.YtpnfdeconinaoaaRows
import Derived.Test.YtpnfdeconinaoaaMath
import Derived.Test.YtpnfdeconinaoaaLeaf
import Derived.Test.YtpnfdeconinaoaaDiv
import Derived.Test.YtpnfdeconinaoaaAdd
import Derived.WalkKit
import Derived.WalkSpells
import Derived.WalkSmall
import Derived.Lib.Hide
namespace Go.Proofs.Ytpnfdeconinaoaa
open Go.RowKit

theorem up_arg (n s : Int) (w : World) (hn : -9223372036854775808 ≤ n ∧ n ≤ 9223372036854775807) (hs : -9223372036854775808 ≤ s ∧ s ≤ 9223372036854775807) (h : s < 1) :
    Calls Try.prog 16 #[.int .i64 n, .int .i64 s] w fun e w' => e = .returned (.tuple #[.int .i64 0, .int .i64 1]) ∧ Below w.heap.size w w' := by
  have hd := div_any n s w hn hs
  rw [dv_arg n s h] at hd
  have H := Lib.hid hd
  clear hd
  go_enter Try.func16, Try.ntmps16
  go_wp2_with (go_at_call 12; refine H.out.mono ?_; rintro e w' ⟨rfl, k, rfl⟩)
  go_ret2
  exact ⟨rfl, below_drewN (Below.refl _ _) k⟩
theorem up_even (n s : Int) (w : World) (hn : -9223372036854775808 ≤ n ∧ n ≤ 9223372036854775807) (hs : -9223372036854775808 ≤ s ∧ s ≤ 9223372036854775807) (h : 1 ≤ s) (h0 : n % s = 0) :
    Calls Try.prog 16 #[.int .i64 n, .int .i64 s] w fun e w' => e = .returned (.tuple #[.int .i64 n, .int .i64 0]) ∧ Below w.heap.size w w' := by
  have hd := div_any n s w hn hs
  rw [dv_ok n s h, h0] at hd
  have H := Lib.hid hd
  clear hd h0
  go_enter Try.func16, Try.ntmps16
  go_wp2_with (go_at_call 12; refine H.out.mono ?_; rintro e w' ⟨rfl, k, rfl⟩)
  go_ret2
  exact ⟨rfl, below_drewN (Below.refl _ _) k⟩
theorem up_next (n s : Int) (w : World) (hn : -9223372036854775808 ≤ n ∧ n ≤ 9223372036854775807) (hs : -9223372036854775808 ≤ s ∧ s ≤ 9223372036854775807) (h : 1 ≤ s) (h0 : n % s ≠ 0) :
    Calls Try.prog 16 #[.int .i64 n, .int .i64 s] w fun e w' => e = .returned (.tuple #[.int .i64 (fit (n + (s - n % s))).1, .int .i64 (fit (n + (s - n % s))).2]) ∧ Below w.heap.size w w' := by
  have hd := div_any n s w hn hs
  rw [dv_ok n s h] at hd
  obtain ⟨m0, m1⟩ := emod_bd n s h
  have k0 : (n % s == 0) = false := by simpa using h0
  generalize hr : n % s = r at *
  generalize hq : n / s = q at *
  clear hr hq h0
  have H := Lib.hid hd
  clear hd
  obtain ⟨hn0, hn1⟩ := hn
  obtain ⟨hs0, hs1⟩ := hs
  go_enter Try.func16, Try.ntmps16
  go_wp2_with (first | (go_at_call 12; refine H.out.mono ?_; rintro e w' ⟨rfl, k, rfl⟩) | (go_at_call 8; go_must (refine (add_two _ _ n (s - r) _ (by exact (two_cells (w.drewN k) _ _ _).1) (by exact (two_cells (w.drewN k) _ _ _).2) (by omega) (by omega)).mono ?_); rintro e w' ⟨rfl, rfl⟩))
  go_ret2
  exact ⟨rfl, ((below_drewN (Below.refl _ _) _).alloc (by simp) _)⟩
theorem refup_arg (n s : Int) (w : World) (hn : -9223372036854775808 ≤ n ∧ n ≤ 9223372036854775807) (hs : -9223372036854775808 ≤ s ∧ s ≤ 9223372036854775807) (h : s < 1) :
    Calls Try.prog 17 #[.int .i64 n, .int .i64 s] w fun e w' => e = .returned (.tuple #[.int .i64 0, .int .i64 1]) ∧ Below w.heap.size w w' := by
  have hd := refdiv_any n s w hn hs
  rw [dv_arg n s h] at hd
  have H := Lib.hid hd
  clear hd
  go_enter Try.func17, Try.ntmps17
  go_wp2_with (go_at_call 15; refine H.out.mono ?_; rintro e w' ⟨rfl, k, rfl⟩)
  go_ret2
  exact ⟨rfl, below_drewN (Below.refl _ _) k⟩
theorem refup_even (n s : Int) (w : World) (hn : -9223372036854775808 ≤ n ∧ n ≤ 9223372036854775807) (hs : -9223372036854775808 ≤ s ∧ s ≤ 9223372036854775807) (h : 1 ≤ s) (h0 : n % s = 0) :
    Calls Try.prog 17 #[.int .i64 n, .int .i64 s] w fun e w' => e = .returned (.tuple #[.int .i64 n, .int .i64 0]) ∧ Below w.heap.size w w' := by
  have hd := refdiv_any n s w hn hs
  rw [dv_ok n s h, h0] at hd
  have H := Lib.hid hd
  clear hd h0
  go_enter Try.func17, Try.ntmps17
  go_wp2_with (go_at_call 15; refine H.out.mono ?_; rintro e w' ⟨rfl, k, rfl⟩)
  go_ret2
  exact ⟨rfl, below_drewN (Below.refl _ _) k⟩
theorem refup_next (n s : Int) (w : World) (hn : -9223372036854775808 ≤ n ∧ n ≤ 9223372036854775807) (hs : -9223372036854775808 ≤ s ∧ s ≤ 9223372036854775807) (h : 1 ≤ s) (h0 : n % s ≠ 0) :
    Calls Try.prog 17 #[.int .i64 n, .int .i64 s] w fun e w' => e = .returned (.tuple #[.int .i64 (fit (n + (s - n % s))).1, .int .i64 (fit (n + (s - n % s))).2]) ∧ Below w.heap.size w w' := by
  have hd := refdiv_any n s w hn hs
  rw [dv_ok n s h] at hd
  obtain ⟨m0, m1⟩ := emod_bd n s h
  have k0 : (n % s == 0) = false := by simpa using h0
  generalize hr : n % s = r at *
  generalize hq : n / s = q at *
  clear hr hq h0
  have H := Lib.hid hd
  clear hd
  obtain ⟨hn0, hn1⟩ := hn
  obtain ⟨hs0, hs1⟩ := hs
  go_enter Try.func17, Try.ntmps17
  go_wp2_with (first | (go_at_call 15; refine H.out.mono ?_; rintro e w' ⟨rfl, k, rfl⟩) | (go_at_call 19; refine (two_any _ _ _ (by omega) (by omega)).mono ?_; rintro e w' ⟨rfl, rfl⟩))
  go_ret2
  exact ⟨rfl, below_drewN (Below.refl _ _) _⟩
theorem up_any (n s : Int) (w : World) (hn : -9223372036854775808 ≤ n ∧ n ≤ 9223372036854775807) (hs : -9223372036854775808 ≤ s ∧ s ≤ 9223372036854775807) :
    Calls Try.prog 16 #[.int .i64 n, .int .i64 s] w fun e w' => e = .returned (.tuple #[.int .i64 (upv n s).1, .int .i64 (upv n s).2]) ∧ Below w.heap.size w w' := by
  by_cases h : s < 1
  · rw [upv_arg n s h]; exact up_arg n s w hn hs h
  · by_cases h0 : n % s = 0
    · rw [upv_even n s (by omega) h0]; exact up_even n s w hn hs (by omega) h0
    · rw [upv_next n s (by omega) h0]; exact up_next n s w hn hs (by omega) h0

theorem refup_any (n s : Int) (w : World) (hn : -9223372036854775808 ≤ n ∧ n ≤ 9223372036854775807) (hs : -9223372036854775808 ≤ s ∧ s ≤ 9223372036854775807) :
    Calls Try.prog 17 #[.int .i64 n, .int .i64 s] w fun e w' => e = .returned (.tuple #[.int .i64 (upv n s).1, .int .i64 (upv n s).2]) ∧ Below w.heap.size w w' := by
  by_cases h : s < 1
  · rw [upv_arg n s h]; exact refup_arg n s w hn hs h
  · by_cases h0 : n % s = 0
    · rw [upv_even n s (by omega) h0]; exact refup_even n s w hn hs (by omega) h0
    · rw [upv_next n s (by omega) h0]; exact refup_next n s w hn hs (by omega) h0

end Go.Proofs.Ytpnfdeconinaoaa
