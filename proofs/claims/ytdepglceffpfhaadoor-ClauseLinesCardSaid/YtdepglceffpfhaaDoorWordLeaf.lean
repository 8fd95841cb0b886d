/- What ofWord, piece and isNumber of layer 6 return, and the document's Text. Conditions: as each theorem says. -/
import Derived.Test.YtdepglceffpfhaaDoorRows
import Derived.Test.YtdepglceffpfhaaDoorBase
import Derived.Test.YtdepglceffpfhaaDoorBytes
import Derived.Test.YtdepglceffpfhaaDoorWordNum
import Derived.Test.YtdepglceffpfhaaDoorStrs
import Derived.Lib.SlicesS
import Derived.WalkKit
import Derived.WalkSpells
import Derived.WalkSmall
import Derived.Below
import Derived.Outline
import Derived.OwnWalk
import Derived.Lib.Hide
namespace Go.Proofs.YtdepglceffpfhaaDoor
open Go.RowKit

theorem not_empty {s : ByteArray} (h : s.size ≠ 0) : s.toList.isEmpty = false := by
  have := (Lib.bytes_beq_false_iff s ⟨#[]⟩).2 (by rintro rfl; exact h rfl)
  simpa using this

theorem ofWord_yes (b : Int) (w : World) (h0 : 33 ≤ b) (h1 : b ≤ 126) :
    Calls Tryd.prog 47 #[.int .u8 b] w fun e w' => e = .returned (.bool true) ∧ w' = w := by
  go_enter Tryd.func47, Tryd.ntmps47
  go_wp2
  go_ret
  exact ⟨rfl, rfl⟩

theorem ofWord_no (b : Int) (w : World) (h : b < 33 ∨ 126 < b) :
    Calls Tryd.prog 47 #[.int .u8 b] w fun e w' => e = .returned (.bool false) ∧ w' = w := by
  rcases h with h | h
  · go_enter Tryd.func47, Tryd.ntmps47
    go_wp2
    go_ret
    exact ⟨rfl, rfl⟩
  · have h2 : 33 ≤ b := by omega
    go_enter Tryd.func47, Tryd.ntmps47
    go_wp2
    go_ret
    exact ⟨by simp; omega, rfl⟩

theorem clones_any (s : ByteArray) (w : World) (hl : s.size ≤ 281474976710656) :
    Calls Tryd.prog 66 #[.string s] w fun e w' => e = .returned (.string s) ∧ Below w.heap.size w w' := by
  go_enter Tryd.func66, Tryd.ntmps66
  go_wp2_with (go_at_call 77; (with_reducible refine (clone_any _ _ hl).mono ?_); rintro e w1 ⟨rfl, hb1⟩)
  go_ret
  exact ⟨rfl, hb1⟩

theorem piece_any (s : ByteArray) (i j : Nat) (w : World) (h1 : i ≤ j) (h2 : j ≤ s.size) (hl : s.size ≤ 281474976710656) :
    Calls Tryd.prog 48 #[.string s, .int .i64 i, .int .i64 j] w fun e w' => e = .returned (.string (s.extract i j)) ∧ Below w.heap.size w w' := by
  have K := fun W => clones_any (s.extract i j) W (by rw [ByteArray.size_extract]; omega)
  have i1 : (i : Int) ≤ (j : Int) := by omega
  have i2 : (j : Int) ≤ (s.size : Int) := by omega
  go_enter Tryd.func48, Tryd.ntmps48
  go_wp2_with (go_at_call 66; (with_reducible refine (K _).mono ?_); rintro e w1 ⟨rfl, hb1⟩)
  go_ret
  exact ⟨rfl, hb1⟩

theorem head_ways {n : Int} {m : Nat} (h : m = 1 ∨ n ≠ 48) : ((n == 48) = true ∧ ¬ (1 : Int) < (m : Int)) ∨ (n == 48) = false := by
  by_cases hn : n = 48
  · exact .inl ⟨by simpa using hn, by omega⟩
  · exact .inr (by simpa using hn)

theorem isnum_yes (s : ByteArray) (w : World) (hs : s.size ≤ maxLen) (h : numOk s) :
    Calls Tryd.prog 68 #[.string s] w fun e w' => e = .returned (.bool true) ∧ w' = w := by
  unfold maxLen at hs
  have h0 := h.1
  have h1 := h.2.2
  have hd := Lib.hid h.2.1
  have g0 : 0 < s.size := by omega
  have i0 : (0 : Int) < (s.size : Int) := by omega
  have hne := not_empty (s := s) (by omega)
  have e0 := byte_bt s 0 g0
  clear h
  rw [← e0] at h1
  clear e0
  rcases head_ways h1 with ⟨q0, q1⟩ | q1
  · go_enter Tryd.func68, Tryd.ntmps68
    go_wp2
    go_loop [18] (fun i => ∃ k : Nat, k ≤ s.size ∧ i = .int .i64 k) (fun i => s.size - (intOf i).toNat)
    case atStart => exact ⟨0, Nat.zero_le _, rfl⟩
    case round =>
      obtain ⟨k, hk, rfl⟩ := hrel
      by_cases hlt : k < s.size
      · have d := dig_at hd.out hlt
        rw [← byte_bt s k hlt] at d
        obtain ⟨d1, d2⟩ := d
        go_wp2
        go_round
        case rel => exact ⟨k + 1, by omega, by go_num⟩
        case measure => simp [intOf]; omega
      · go_wp2
        go_ret
        exact ⟨rfl, rfl⟩
  · go_enter Tryd.func68, Tryd.ntmps68
    go_wp2
    go_loop [18] (fun i => ∃ k : Nat, k ≤ s.size ∧ i = .int .i64 k) (fun i => s.size - (intOf i).toNat)
    case atStart => exact ⟨0, Nat.zero_le _, rfl⟩
    case round =>
      obtain ⟨k, hk, rfl⟩ := hrel
      by_cases hlt : k < s.size
      · have d := dig_at hd.out hlt
        rw [← byte_bt s k hlt] at d
        obtain ⟨d1, d2⟩ := d
        go_wp2
        go_round
        case rel => exact ⟨k + 1, by omega, by go_num⟩
        case measure => simp [intOf]; omega
      · go_wp2
        go_ret
        exact ⟨rfl, rfl⟩

/-- A text that is no number's: what is wrong. -/
theorem num_no {s : ByteArray} (h : ¬ numOk s) : s.size = 0 ∨ (1 < s.size ∧ bt s 0 = 48) ∨ ((s.size = 1 ∨ bt s 0 ≠ 48) ∧ s.size ≠ 0 ∧ ∃ i, i < s.size ∧ ¬ (48 ≤ bt s i ∧ bt s i ≤ 57)) := by
  by_cases h0 : s.size = 0
  · exact .inl h0
  · by_cases h1 : s.size = 1 ∨ bt s 0 ≠ 48
    · refine .inr (.inr ⟨h1, h0, ?_⟩)
      apply Classical.byContradiction
      intro hn
      exact h ⟨h0, dig_of (fun i hi => Classical.byContradiction fun hc => hn ⟨i, hi, hc⟩), h1⟩
    · exact .inr (.inl (by omega))

theorem isnum_no (s : ByteArray) (w : World) (hs : s.size ≤ maxLen) (h : ¬ numOk s) :
    Calls Tryd.prog 68 #[.string s] w fun e w' => e = .returned (.bool false) ∧ w' = w := by
  unfold maxLen at hs
  rcases num_no h with h0 | ⟨h0, h1⟩ | ⟨h1, h0, i, hi, hi2⟩
  · obtain rfl : s = ⟨#[]⟩ := ByteArray.ext (Array.eq_empty_of_size_eq_zero h0)
    go_enter Tryd.func68, Tryd.ntmps68
    go_wp2
    go_ret
    exact ⟨rfl, rfl⟩
  · have g0 : 0 < s.size := by omega
    have i0 : (0 : Int) < (s.size : Int) := by omega
    have i1 : (1 : Int) < (s.size : Int) := by omega
    have hne := not_empty (s := s) (by omega)
    rw [← byte_bt s 0 g0] at h1
    have q1 : (((s[0]'g0).toNat : Int) == 48) = true := by simp; omega
    clear h h1
    go_enter Tryd.func68, Tryd.ntmps68
    go_wp2
    go_ret
    exact ⟨rfl, rfl⟩
  · have g0 : 0 < s.size := by omega
    have i0 : (0 : Int) < (s.size : Int) := by omega
    have hne := not_empty (s := s) (by omega)
    have HI := Lib.hid hi2
    clear hi2 h
    rw [← byte_bt s 0 g0] at h1
    rcases head_ways h1 with ⟨q0, q1⟩ | q1
    · go_enter Tryd.func68, Tryd.ntmps68
      go_wp2
      go_loop [18] (fun j => ∃ k : Nat, k ≤ i ∧ j = .int .i64 k) (fun j => s.size - (intOf j).toNat)
      case atStart => exact ⟨0, Nat.zero_le _, rfl⟩
      case round =>
        obtain ⟨k, hk, rfl⟩ := hrel
        have hlt : k < s.size := by omega
        have hki : (48 ≤ ((s[k]'hlt).toNat : Int) ∧ ((s[k]'hlt).toNat : Int) ≤ 57) → k < i := by
          rw [byte_bt s k hlt]
          intro hc
          rcases Nat.lt_or_ge k i with h | h
          · exact h
          · obtain rfl : k = i := by omega
            exact absurd hc HI.out
        have HK := Lib.hid hki
        clear hki
        by_cases c1 : ((s[k]'hlt).toNat : Int) < 48
        · go_wp2
          go_ret
          exact ⟨rfl, rfl⟩
        · by_cases c2 : (57 : Int) < ((s[k]'hlt).toNat : Int)
          · go_wp2
            go_ret
            exact ⟨rfl, rfl⟩
          · have hk2 := HK.out ⟨by omega, by omega⟩
            go_wp2
            go_round
            case rel => exact ⟨k + 1, by omega, by go_num⟩
            case measure => simp [intOf]; omega
    · go_enter Tryd.func68, Tryd.ntmps68
      go_wp2
      go_loop [18] (fun j => ∃ k : Nat, k ≤ i ∧ j = .int .i64 k) (fun j => s.size - (intOf j).toNat)
      case atStart => exact ⟨0, Nat.zero_le _, rfl⟩
      case round =>
        obtain ⟨k, hk, rfl⟩ := hrel
        have hlt : k < s.size := by omega
        have hki : (48 ≤ ((s[k]'hlt).toNat : Int) ∧ ((s[k]'hlt).toNat : Int) ≤ 57) → k < i := by
          rw [byte_bt s k hlt]
          intro hc
          rcases Nat.lt_or_ge k i with h | h
          · exact h
          · obtain rfl : k = i := by omega
            exact absurd hc HI.out
        have HK := Lib.hid hki
        clear hki
        by_cases c1 : ((s[k]'hlt).toNat : Int) < 48
        · go_wp2
          go_ret
          exact ⟨rfl, rfl⟩
        · by_cases c2 : (57 : Int) < ((s[k]'hlt).toNat : Int)
          · go_wp2
            go_ret
            exact ⟨rfl, rfl⟩
          · have hk2 := HK.out ⟨by omega, by omega⟩
            go_wp2
            go_round
            case rel => exact ⟨k + 1, by omega, by go_num⟩
            case measure => simp [intOf]; omega

theorem text_yes (s : ByteArray) (w : World) (hs : s.size ≤ maxLen) (h : numOk s) :
    Calls Tryd.prog 51 #[.string s] w fun e w' => e = .returned (.bool true) ∧ w' = w := by
  unfold maxLen at hs
  have h0 := h.1
  have h1 := h.2.2
  have hd := Lib.hid h.2.1
  have g0 : 0 < s.size := by omega
  have i0 : (0 : Int) < (s.size : Int) := by omega
  have e0 := byte_bt s 0 g0
  clear h
  rw [← e0] at h1
  clear e0
  have HW : Hid (((s.size : Int) == 1) = true ∨ (((s.size : Int) == 1) = false ∧ (1 : Int) < (s.size : Int) ∧ (((s[0]'g0).toNat : Int) == 48) = false)) := Lib.hid (by
    by_cases h2 : s.size = 1
    · exact .inl (by simp; omega)
    · exact .inr ⟨by simp; omega, by omega, by simp; omega⟩)
  clear h1
  go_enter Tryd.func51, Tryd.ntmps51
  go_wp2
  go_loop [3] (fun i => ∃ k : Nat, k ≤ s.size ∧ i = .int .i64 k) (fun i => s.size - (intOf i).toNat)
  case atStart => exact ⟨0, Nat.zero_le _, rfl⟩
  case round =>
    obtain ⟨k, hk, rfl⟩ := hrel
    by_cases hlt : k < s.size
    · have d := dig_at hd.out hlt
      rw [← byte_bt s k hlt] at d
      obtain ⟨d1, d2⟩ := d
      go_wp2
      go_round
      case rel => exact ⟨k + 1, by omega, by go_num⟩
      case measure => simp [intOf]; omega
    · rcases HW.out with q | ⟨q, q1, q2⟩
      · go_wp2
        go_ret
        exact ⟨rfl, rfl⟩
      · have q3 : (((s[0]'g0).toNat : Int) != 48) = true := by simpa using q2
        go_wp2
        go_ret
        exact ⟨rfl, rfl⟩

theorem text_no (s : ByteArray) (w : World) (hs : s.size ≤ maxLen) (h : ¬ numOk s) :
    Calls Tryd.prog 51 #[.string s] w fun e w' => e = .returned (.bool false) ∧ w' = w := by
  unfold maxLen at hs
  rcases num_no h with h0 | ⟨h0, h1⟩ | ⟨h1, h0, i, hi, hi2⟩
  · obtain rfl : s = ⟨#[]⟩ := ByteArray.ext (Array.eq_empty_of_size_eq_zero h0)
    go_enter Tryd.func51, Tryd.ntmps51
    go_wp2
    go_loop [3] (fun i => i = .int .i64 0) (fun i => 0)
    case atStart => exact rfl
    case round =>
      obtain rfl := hrel
      go_wp2
      go_ret
      exact ⟨rfl, rfl⟩
  · have g0 : 0 < s.size := by omega
    have i0 : (0 : Int) < (s.size : Int) := by omega
    have i1 : (1 : Int) < (s.size : Int) := by omega
    have i2 : ((s.size : Int) == 1) = false := by simp; omega
    rw [← byte_bt s 0 g0] at h1
    have q1 : (((s[0]'g0).toNat : Int) == 48) = true := by simp; omega
    have q2 : (((s[0]'g0).toNat : Int) != 48) = false := by simpa using q1
    clear h h1
    go_enter Tryd.func51, Tryd.ntmps51
    go_wp2
    go_loop [3] (fun i => ∃ k : Nat, k ≤ s.size ∧ i = .int .i64 k) (fun i => s.size - (intOf i).toNat)
    case atStart => exact ⟨0, Nat.zero_le _, rfl⟩
    case round =>
      obtain ⟨k, hk, rfl⟩ := hrel
      by_cases hlt : k < s.size
      · by_cases c1 : ((s[k]'hlt).toNat : Int) < 48
        · go_wp2
          go_ret
          exact ⟨rfl, rfl⟩
        · by_cases c2 : (57 : Int) < ((s[k]'hlt).toNat : Int)
          · go_wp2
            go_ret
            exact ⟨rfl, rfl⟩
          · go_wp2
            go_round
            case rel => exact ⟨k + 1, by omega, by go_num⟩
            case measure => simp [intOf]; omega
      · go_wp2
        go_ret
        exact ⟨rfl, rfl⟩
  · have HI := Lib.hid hi2
    clear hi2 h h1
    go_enter Tryd.func51, Tryd.ntmps51
    go_wp2
    go_loop [3] (fun j => ∃ k : Nat, k ≤ i ∧ j = .int .i64 k) (fun j => s.size - (intOf j).toNat)
    case atStart => exact ⟨0, Nat.zero_le _, rfl⟩
    case round =>
      obtain ⟨k, hk, rfl⟩ := hrel
      have hlt : k < s.size := by omega
      have hki : (48 ≤ ((s[k]'hlt).toNat : Int) ∧ ((s[k]'hlt).toNat : Int) ≤ 57) → k < i := by
        rw [byte_bt s k hlt]
        intro hc
        rcases Nat.lt_or_ge k i with h | h
        · exact h
        · obtain rfl : k = i := by omega
          exact absurd hc HI.out
      have HK := Lib.hid hki
      clear hki
      by_cases c1 : ((s[k]'hlt).toNat : Int) < 48
      · go_wp2
        go_ret
        exact ⟨rfl, rfl⟩
      · by_cases c2 : (57 : Int) < ((s[k]'hlt).toNat : Int)
        · go_wp2
          go_ret
          exact ⟨rfl, rfl⟩
        · have hk2 := HK.out ⟨by omega, by omega⟩
          go_wp2
          go_round
          case rel => exact ⟨k + 1, by omega, by go_num⟩
          case measure => simp [intOf]; omega

end Go.Proofs.YtdepglceffpfhaaDoor
