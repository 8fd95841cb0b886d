/- What Add, Sum and lay of layer 5 return, and the document's own, for any text. Conditions: as each theorem says. -/
import Derived.Test.YtgmcikajhnnaaaaRows
import Derived.Test.YtgmcikajhnnaaaaBase
import Derived.Test.YtgmcikajhnnaaaaSumMath
import Derived.Test.YtgmcikajhnnaaaaBytes
import Derived.WalkKit
import Derived.WalkSpells
import Derived.WalkSmall
import Derived.Below
import Derived.Outline
import Derived.OwnWalk
import Derived.Laws.BitsLemmas
import Derived.Lib.Hide
namespace Go.Proofs.Ytgmcikajhnnaaaa
open Go.RowKit

theorem mask16 (n : Int) : bits .and .i64 n 65535 = n % 65536 := by
  have h16 : (BitVec.ofInt 64 65535).toNat = 2 ^ 16 - 1 := by decide
  have key : (BitVec.ofInt 64 n &&& BitVec.ofInt 64 65535).toNat = (n % ((2 ^ 64 : Nat) : Int)).toNat % 2 ^ 16 := by
    rw [BitVec.toNat_and, BitVec.toNat_ofInt, h16, Nat.and_two_pow_sub_one_eq_mod]
  show IntKind.i64.wrap ((BitVec.ofInt 64 n &&& BitVec.ofInt 64 65535).toNat : Nat) = n % 65536
  rw [key, IntKind.wrap_i64]
  omega

theorem run_take (p : Int × Int) (s : ByteArray) (k : Nat) (h : k < s.size) : srun p (s.data.toList.take (k + 1)) = sstep (srun p (s.data.toList.take k)) s[k] := by
  rw [List.take_succ_eq_append_getElem (by simpa using h), srun_snoc]
  rfl

theorem run_all (p : Int × Int) (s : ByteArray) (k : Nat) (h : s.size ≤ k) : srun p (s.data.toList.take k) = srun p s.data.toList := by
  rw [List.take_of_length_le (by simpa using h)]

/-- The relation of both loops: k bytes are behind, x and y are the two numbers. -/
def SumR (p : Int × Int) (s : ByteArray) (a b i : Value) : Prop :=
  ∃ (k : Nat) (x y : Int), k ≤ s.size ∧ 0 ≤ x ∧ x < 255 ∧ 0 ≤ y ∧ y < 255 ∧ Hid (srun p (s.data.toList.take k) = (x, y)) ∧ i = .int .i64 k ∧ a = .int .i64 x ∧ b = .int .i64 y

theorem sumR_round {p : Int × Int} {s : ByteArray} {k : Nat} {x y : Int} (h : k < s.size) (H : Hid (srun p (s.data.toList.take k) = (x, y))) :
    SumR p s (.int .i64 ((x + ((s[k]'h).toNat : Int)) % 255)) (.int .i64 ((y + (x + ((s[k]'h).toNat : Int)) % 255) % 255)) (.int .i64 ((k : Int) + 1)) :=
  ⟨k + 1, (x + ((s[k]'h).toNat : Int)) % 255, (y + (x + ((s[k]'h).toNat : Int)) % 255) % 255, h, by omega, by omega, by omega, by omega, Lib.hid (by rw [run_take p s k h, H.out]; rfl), rfl, rfl, rfl⟩

theorem sumR_end {n : Int} {s : ByteArray} {k : Nat} {x y : Int} (h : s.size ≤ k) (H : Hid (srun (sst n) (s.data.toList.take k) = (x, y))) : 256 * y + x = sumV n s.data.toList := by
  unfold sumV sval
  rw [← run_all (sst n) s k h, H.out]

theorem ret_i {a b : Int} (h : a = b) : Ending.returned (.int .i64 a) = .returned (.int .i64 b) := by rw [h]

theorem sadd_any (n : Int) (s : ByteArray) (w : World) (hs : s.size ≤ maxLen) :
    Calls Try.prog 56 #[.int .i64 n, .string s] w fun e w' => e = .returned (.int .i64 (sumV n s.data.toList)) ∧ w' = w := by
  unfold maxLen at hs
  obtain ⟨m, hm⟩ : ∃ m, n % 65536 = m := ⟨_, rfl⟩
  have ea : bits .and .i64 n 65535 = m := by rw [mask16, hm]
  have m0 : 0 ≤ m := by omega
  have m1 : m ≤ 65535 := by omega
  have HP : Hid (sst n = (m % 256 % 255, m / 256 % 255)) := Lib.hid (by unfold sst; rw [hm])
  clear hm
  go_enter Try.func56, Try.ntmps56
  go_wp2
  go_loop [5, 6, 18] (fun a b i => SumR (sst n) s a b i) (fun _ _ i => s.size - (intOf i).toNat)
  case atStart => exact ⟨0, _, _, Nat.zero_le _, by omega, by omega, by omega, by omega, Lib.hid (by rw [HP.out]; rfl), rfl, rfl, rfl⟩
  case round =>
    obtain ⟨k, x, y, hk, x0, x1, y0, y1, H, rfl, rfl, rfl⟩ := hrel
    by_cases hlt : k < s.size
    · have hc := (s[k]'hlt).toNat_lt
      go_wp2
      go_round
      case rel => exact sumR_round hlt H
      case measure => simp [intOf]; omega
    · have HE := Lib.hid (sumR_end (by omega) H)
      go_wp2
      go_ret
      exact ⟨ret_i (by rw [← HE.out]; omega), rfl⟩

theorem refsadd_any (n : Int) (s : ByteArray) (w : World) (hs : s.size ≤ maxLen) (hn : -9223372036854775808 ≤ n ∧ n ≤ 9223372036854775807) :
    Calls Try.prog 57 #[.int .i64 n, .string s] w fun e w' => e = .returned (.int .i64 (sumV n s.data.toList)) ∧ w' = w := by
  unfold maxLen at hs
  obtain ⟨m, hm⟩ : ∃ m, n % 65536 = m := ⟨_, rfl⟩
  obtain ⟨r, hr⟩ : ∃ r, n.tmod 65536 = r := ⟨_, rfl⟩
  have er : (r < 0 ∧ r + 65536 = m) ∨ (0 ≤ r ∧ r = m) := by
    subst hr hm
    rcases Int.lt_or_le n 0 with h | h
    · have e1 : n.tmod 65536 = -((-n) % 65536) := by
        rw [← Int.neg_neg n, Int.neg_tmod, Int.neg_neg, Int.tmod_eq_emod_of_nonneg (by omega)]
      rw [e1]
      omega
    · rw [Int.tmod_eq_emod_of_nonneg h]
      omega
  have m0 : 0 ≤ m := by omega
  have m1 : m ≤ 65535 := by omega
  have HP : Hid (sst n = (m % 256 % 255, m / 256 % 255)) := Lib.hid (by unfold sst; rw [hm])
  clear hm
  rcases er with ⟨hr0, hrm⟩ | ⟨hr0, hrm⟩
  · have r1 : -65536 ≤ r := by omega
    go_enter Try.func57, Try.ntmps57
    go_wp2
    go_loop [6, 7, 8] (fun a b i => SumR (sst n) s a b i) (fun _ _ i => s.size - (intOf i).toNat)
    case atStart => exact ⟨0, _, _, Nat.zero_le _, by omega, by omega, by omega, by omega, Lib.hid (by rw [HP.out]; rfl), rfl, rfl, rfl⟩
    case round =>
      obtain ⟨k, x, y, hk, x0, x1, y0, y1, H, rfl, rfl, rfl⟩ := hrel
      by_cases hlt : k < s.size
      · have hc := (s[k]'hlt).toNat_lt
        go_wp2
        go_round
        case rel => exact sumR_round hlt H
        case measure => simp [intOf]; omega
      · have HE := Lib.hid (sumR_end (by omega) H)
        go_wp2
        go_ret
        exact ⟨ret_i HE.out, rfl⟩
  · subst hrm
    go_enter Try.func57, Try.ntmps57
    go_wp2
    go_loop [6, 7, 8] (fun a b i => SumR (sst n) s a b i) (fun _ _ i => s.size - (intOf i).toNat)
    case atStart => exact ⟨0, _, _, Nat.zero_le _, by omega, by omega, by omega, by omega, Lib.hid (by rw [HP.out]; rfl), rfl, rfl, rfl⟩
    case round =>
      obtain ⟨k, x, y, hk, x0, x1, y0, y1, H, rfl, rfl, rfl⟩ := hrel
      by_cases hlt : k < s.size
      · have hc := (s[k]'hlt).toNat_lt
        go_wp2
        go_round
        case rel => exact sumR_round hlt H
        case measure => simp [intOf]; omega
      · have HE := Lib.hid (sumR_end (by omega) H)
        go_wp2
        go_ret
        exact ⟨ret_i HE.out, rfl⟩

theorem sum_any (s : ByteArray) (w : World) (hs : s.size ≤ maxLen) :
    Calls Try.prog 41 #[.string s] w fun e w' => e = .returned (.int .i64 (sumV 0 s.data.toList)) ∧ w' = w := by
  go_enter Try.func41, Try.ntmps41
  go_wp2_with (go_at_call 56; refine (sadd_any _ _ _ hs).mono ?_; rintro e w' ⟨rfl, rfl⟩)
  go_ret
  exact ⟨rfl, rfl⟩

theorem refsum_any (s : ByteArray) (w : World) (hs : s.size ≤ maxLen) :
    Calls Try.prog 42 #[.string s] w fun e w' => e = .returned (.int .i64 (sumV 0 s.data.toList)) ∧ w' = w := by
  go_enter Try.func42, Try.ntmps42
  go_wp2_with (go_at_call 57; refine (refsadd_any _ _ _ hs (by omega)).mono ?_; rintro e w' ⟨rfl, rfl⟩)
  go_ret
  exact ⟨rfl, rfl⟩

theorem lay_any (n : Int) (w : World) (h0 : 0 ≤ n) (h : n ≤ 65535) :
    Calls Try.prog 38 #[.int .i64 n] w fun e w' => e = .returned (.string (layB n)) ∧ Below w.heap.size w w' := by
  have K := convB2 (w.alloc (.cells #[.int .u8 (n / 256), .int .u8 (n % 256)] 5)) w.heap.size (n / 256) (n % 256) (by simp) (by simp)
  go_enter Try.func38, Try.ntmps38
  go_wp2
  go_ret
  exact ⟨rfl, (Below.refl _ _).alloc (Nat.le_refl _) _⟩

theorem refput_any (n : Int) (w : World) (h0 : 0 ≤ n) (h : n ≤ 65535) :
    Calls Try.prog 29 #[.int .i64 n] w fun e w' => e = .returned (.string (layB n)) ∧ Below w.heap.size w w' := by
  have K := convB2 (w.alloc (.cells #[.int .u8 (n / 256), .int .u8 (n % 256)] 5)) w.heap.size (n / 256) (n % 256) (by simp) (by simp)
  go_enter Try.func29, Try.ntmps29
  go_wp2
  go_ret
  exact ⟨rfl, (Below.refl _ _).alloc (Nat.le_refl _) _⟩

end Go.Proofs.Ytgmcikajhnnaaaa
