/- What the small functions of layer 11 return: isKind, ofDay, Change, Told, the examples, and the document's own Told. Conditions: none beyond each theorem's premises. -/
import Derived.Test.YtgmcikajhnnaaaaRows
import Derived.Test.YtgmcikajhnnaaaaBase
import Derived.Test.YtgmcikajhnnaaaaZ1
import Derived.WalkKit
import Derived.WalkSpells
import Derived.WalkSmall
import Derived.Below
import Derived.Lib.Hide
import Derived.Outline
import Derived.OwnWalk
namespace Go.Proofs.Ytgmcikajhnnaaaa
open Go.RowKit

theorem kind11_yes (x : Int) (w : World) (h : 0 ≤ x ∧ x < 4) :
    Calls Try.prog 15 #[.int .i64 x] w fun e w' => e = .returned (.bool true) ∧ w = w' := by
  obtain ⟨h0, h1⟩ := h
  go_enter Try.func15, Try.ntmps15
  go_wp2
  go_ret
  exact ⟨rfl, rfl⟩

theorem kind11_no (x : Int) (w : World) (h : ¬ (0 ≤ x ∧ x < 4)) :
    Calls Try.prog 15 #[.int .i64 x] w fun e w' => e = .returned (.bool false) ∧ w = w' := by
  by_cases h0 : 0 ≤ x
  · have h1 : 4 ≤ x := by omega
    clear h
    go_enter Try.func15, Try.ntmps15
    go_wp2
    go_ret
    exact ⟨by simp; omega, rfl⟩
  · have h1 : x < 0 := by omega
    clear h h0
    go_enter Try.func15, Try.ntmps15
    go_wp2
    go_ret
    exact ⟨rfl, rfl⟩

theorem ofday_yes (x : Int) (w : World) (h : 0 ≤ x ∧ x < 1440) :
    Calls Try.prog 16 #[.int .i64 x] w fun e w' => e = .returned (.bool true) ∧ w = w' := by
  obtain ⟨h0, h1⟩ := h
  go_enter Try.func16, Try.ntmps16
  go_wp2
  go_ret
  exact ⟨rfl, rfl⟩

theorem ofday_no (x : Int) (w : World) (h : ¬ (0 ≤ x ∧ x < 1440)) :
    Calls Try.prog 16 #[.int .i64 x] w fun e w' => e = .returned (.bool false) ∧ w = w' := by
  by_cases h0 : 0 ≤ x
  · have h1 : 1440 ≤ x := by omega
    clear h
    go_enter Try.func16, Try.ntmps16
    go_wp2
    go_ret
    exact ⟨by simp; omega, rfl⟩
  · have h1 : x < 0 := by omega
    clear h h0
    go_enter Try.func16, Try.ntmps16
    go_wp2
    go_ret
    exact ⟨rfl, rfl⟩

def changeV (k m : Int) : Int × Int := if 0 ≤ k ∧ k < 4 then (if 0 ≤ m ∧ m < 1440 then (2048 * k + m, 0) else (0, 4)) else (0, 2)

theorem change_any (k m : Int) (w : World) :
    Calls Try.prog 6 #[.int .i64 k, .int .i64 m] w fun e w' => e = .returned (.tuple #[.int .i64 (changeV k m).1, .int .i64 (changeV k m).2]) ∧ w = w' := by
  unfold changeV
  by_cases hk : 0 ≤ k ∧ k < 4
  · have K := fun W => kind11_yes k W hk
    rw [if_pos hk]
    by_cases hm : 0 ≤ m ∧ m < 1440
    · have D := fun W => ofday_yes m W hm
      rw [if_pos hm]
      obtain ⟨k0, k1⟩ := hk
      obtain ⟨m0, m1⟩ := hm
      have HC := Lib.hid (Int.mul_comm 2048 k)
      go_enter Try.func6, Try.ntmps6
      go_wp2_with (first | (go_at_call 15; (with_reducible refine (K _).mono ?_); rintro e w' ⟨rfl, rfl⟩) | (go_at_call 16; (with_reducible refine (D _).mono ?_); rintro e w' ⟨rfl, rfl⟩))
      go_ret2
      rw [HC.out]
      exact ⟨rfl, rfl⟩
    · have D := fun W => ofday_no m W hm
      rw [if_neg hm]
      clear hk hm
      go_enter Try.func6, Try.ntmps6
      go_wp2_with (first | (go_at_call 15; (with_reducible refine (K _).mono ?_); rintro e w' ⟨rfl, rfl⟩) | (go_at_call 16; (with_reducible refine (D _).mono ?_); rintro e w' ⟨rfl, rfl⟩))
      go_ret2
      exact ⟨rfl, rfl⟩
  · have K := fun W => kind11_no k W hk
    rw [if_neg hk]
    clear hk
    go_enter Try.func6, Try.ntmps6
    go_wp2_with (go_at_call 15; (with_reducible refine (K _).mono ?_); rintro e w' ⟨rfl, rfl⟩)
    go_ret2
    exact ⟨rfl, rfl⟩

/-- The change of a number: kind, minute, error. -/
def toldV (n : Int) : Int × Int × Int := if toldOk n then (n / 2048, n % 2048, 0) else (0, 0, 7)

theorem told_yes (n : Int) (w : World) (h : toldOk n) :
    Calls Try.prog 7 #[.int .i64 n] w fun e w' => e = .returned (.tuple #[.int .i64 (n / 2048), .int .i64 (n % 2048), .int .i64 0]) ∧ w = w' := by
  unfold toldOk at h
  have K := fun W => kind11_yes (n / 2048) W (by omega)
  have D := fun W => ofday_yes (n % 2048) W (by omega)
  obtain ⟨h0, h1, h2⟩ := h
  go_enter Try.func7, Try.ntmps7
  go_wp2_with (first | (go_at_call 15; (with_reducible refine (K _).mono ?_); rintro e w' ⟨rfl, rfl⟩) | (go_at_call 16; (with_reducible refine (D _).mono ?_); rintro e w' ⟨rfl, rfl⟩))
  go_ret3
  exact ⟨rfl, rfl⟩

theorem told_no (n : Int) (w : World) (h : ¬ toldOk n) (hn : -9223372036854775808 ≤ n ∧ n ≤ 9223372036854775807) :
    Calls Try.prog 7 #[.int .i64 n] w fun e w' => e = .returned (.tuple #[.int .i64 0, .int .i64 0, .int .i64 7]) ∧ w = w' := by
  unfold toldOk at h
  obtain ⟨hn0, hn1⟩ := hn
  by_cases h0 : 0 ≤ n
  · by_cases h1 : n < 8192
    · have K := fun W => kind11_yes (n / 2048) W (by omega)
      have D := fun W => ofday_no (n % 2048) W (by omega)
      clear h
      go_enter Try.func7, Try.ntmps7
      go_wp2_with (first | (go_at_call 15; (with_reducible refine (K _).mono ?_); rintro e w' ⟨rfl, rfl⟩) | (go_at_call 16; (with_reducible refine (D _).mono ?_); rintro e w' ⟨rfl, rfl⟩))
      go_ret3
      exact ⟨rfl, rfl⟩
    · have K := fun W => kind11_no (n / 2048) W (by omega)
      have h1' : 8192 ≤ n := by omega
      clear h h1
      go_enter Try.func7, Try.ntmps7
      go_wp2_with (first | (go_at_call 15; (with_reducible refine (K _).mono ?_); rintro e w' ⟨rfl, rfl⟩))
      go_ret3
      exact ⟨rfl, rfl⟩
  · have e1 : n.tdiv 2048 * 2048 + n.tmod 2048 = n := Int.tdiv_mul_add_tmod n 2048
    have e2 : n.tmod 2048 ≤ 0 ∧ -2048 < n.tmod 2048 := by
      have : n.tmod 2048 = -((-n) % 2048) := by
        rw [← Int.neg_neg n, Int.neg_tmod, Int.neg_neg, Int.tmod_eq_emod_of_nonneg (by omega)]
      omega
    obtain ⟨q, hq⟩ : ∃ q, n.tdiv 2048 = q := ⟨_, rfl⟩
    obtain ⟨r, hr⟩ : ∃ r, n.tmod 2048 = r := ⟨_, rfl⟩
    rw [hq, hr] at e1
    rw [hr] at e2
    by_cases h1 : q < 0
    · have K := fun W => kind11_no q W (by omega)
      have q0 : -9223372036854775808 ≤ q := by omega
      have HE := Lib.hid e1
      clear h e1 h0
      go_enter Try.func7, Try.ntmps7
      go_wp2_with (first | (go_at_call 15; (with_reducible refine (K _).mono ?_); rintro e w' ⟨rfl, rfl⟩))
      go_ret3
      exact ⟨rfl, rfl⟩
    · obtain rfl : q = 0 := by omega
      have K := fun W => kind11_yes 0 W (by omega)
      have D := fun W => ofday_no r W (by omega)
      obtain ⟨r0, r1⟩ := e2
      clear h e1 h0 h1
      go_enter Try.func7, Try.ntmps7
      go_wp2_with (first | (go_at_call 15; (with_reducible refine (K _).mono ?_); rintro e w' ⟨rfl, rfl⟩) | (go_at_call 16; (with_reducible refine (D _).mono ?_); rintro e w' ⟨rfl, rfl⟩))
      go_ret3
      exact ⟨rfl, rfl⟩

theorem told_any (n : Int) (w : World) (hn : -9223372036854775808 ≤ n ∧ n ≤ 9223372036854775807) :
    Calls Try.prog 7 #[.int .i64 n] w fun e w' => e = .returned (.tuple #[.int .i64 (toldV n).1, .int .i64 (toldV n).2.1, .int .i64 (toldV n).2.2]) ∧ w = w' := by
  unfold toldV
  by_cases h : toldOk n
  · rw [if_pos h]; exact told_yes n w h
  · rw [if_neg h]; exact told_no n w h hn

theorem reftold_any (n : Int) (w : World) (hn : -9223372036854775808 ≤ n ∧ n ≤ 9223372036854775807) :
    Calls Try.prog 8 #[.int .i64 n] w fun e w' => e = .returned (.tuple #[.int .i64 (toldV n).1, .int .i64 (toldV n).2.1, .int .i64 (toldV n).2.2]) ∧ w = w' := by
  unfold toldV
  obtain ⟨hn0, hn1⟩ := hn
  by_cases h0 : n < 0
  · rw [if_neg (by unfold toldOk; omega)]
    go_enter Try.func8, Try.ntmps8
    go_wp2
    go_ret3
    exact ⟨rfl, rfl⟩
  · have h0' : 0 ≤ n := by omega
    clear h0
    by_cases h1 : n < 8192
    · by_cases h2 : n % 2048 < 1440
      · rw [if_pos (by unfold toldOk; omega)]
        go_enter Try.func8, Try.ntmps8
        go_wp2
        go_ret3
        exact ⟨rfl, rfl⟩
      · have h2' : 1440 ≤ n % 2048 := by omega
        rw [if_neg (by unfold toldOk; omega)]
        clear h2
        go_enter Try.func8, Try.ntmps8
        go_wp2
        go_ret3
        exact ⟨rfl, rfl⟩
    · have h1' : 8192 ≤ n := by omega
      rw [if_neg (by unfold toldOk; omega)]
      clear h1
      go_enter Try.func8, Try.ntmps8
      go_wp2
      go_ret3
      exact ⟨rfl, rfl⟩

theorem alive11_any (w : World) :
    Calls Try.prog 9 #[] w fun e w' => e = .returned (.bool true) ∧ w = w' := by
  have C := fun W => change_any 3 5 W
  go_enter Try.func9, Try.ntmps9
  go_wp2_with (go_at_call 6; (with_reducible refine (C _).mono ?_); rintro e w' ⟨rfl, rfl⟩)
  go_ret
  exact ⟨rfl, rfl⟩

end Go.Proofs.Ytgmcikajhnnaaaa
