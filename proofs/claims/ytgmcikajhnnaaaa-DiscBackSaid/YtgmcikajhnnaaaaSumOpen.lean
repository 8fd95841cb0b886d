/- What Seal, Open, Put and Take of layer 5 return, and the document's own, for any text. Conditions: as each theorem says. -/
import Derived.Test.YtgmcikajhnnaaaaSumC
import Derived.Test.YtgmcikajhnnaaaaClone
import Derived.RegionTactic
import Derived.Deep.RegionWith
import Derived.Deep.QuietTactic
import Derived.BigQuiet
import Derived.Lib.SlicesS
namespace Go.Proofs.Ytgmcikajhnnaaaa
open Go.RowKit

theorem seal_any (s : ByteArray) (w : World) (hs : s.size ≤ 1000000) :
    Calls Try.prog 24 #[.string s] w fun e w' => e = .returned (.string (sealB s)) ∧ Below w.heap.size w w' := by
  have hm : s.size ≤ maxLen := by unfold maxLen; omega
  have S := fun W => sum_any s W hm
  have N0 := sumV_bd 0 s.data.toList
  have HL := Lib.hid (show s ++ layB (sumV 0 s.data.toList) = sealB s from rfl)
  generalize sumV 0 s.data.toList = n at S N0 HL
  have L := fun W => lay_any n W N0.1 N0.2
  have hz := layB_size n
  generalize layB n = b at L HL hz
  clear N0 hm
  go_enter Try.func24, Try.ntmps24
  go_wp2_with (first
    | (go_at_call 41; (with_reducible refine (S _).mono ?_); rintro e w' ⟨rfl, rfl⟩)
    | (go_at_call 38; (with_reducible refine (L _).mono ?_); rintro e w1 ⟨rfl, hb1⟩))
  go_ret
  rw [HL.out]
  exact ⟨rfl, hb1⟩

theorem refseal_any (s : ByteArray) (w : World) (hs : s.size ≤ 1000000) :
    Calls Try.prog 31 #[.string s] w fun e w' => e = .returned (.string (sealB s)) ∧ Below w.heap.size w w' := by
  have hm : s.size ≤ maxLen := by unfold maxLen; omega
  have S := fun W => refsum_any s W hm
  have N0 := sumV_bd 0 s.data.toList
  have HL := Lib.hid (show s ++ layB (sumV 0 s.data.toList) = sealB s from rfl)
  generalize sumV 0 s.data.toList = n at S N0 HL
  have L := fun W => refput_any n W N0.1 N0.2
  have hz := layB_size n
  generalize layB n = b at L HL hz
  clear N0 hm
  go_enter Try.func31, Try.ntmps31
  go_wp2_with (first
    | (go_at_call 42; (with_reducible refine (S _).mono ?_); rintro e w' ⟨rfl, rfl⟩)
    | (go_at_call 29; (with_reducible refine (L _).mono ?_); rintro e w1 ⟨rfl, hb1⟩))
  go_ret
  rw [HL.out]
  exact ⟨rfl, hb1⟩

/-- What Put tells: the two bytes, or none, and the error number. -/
def putV (n : Int) : ByteArray × Int := if 0 ≤ n ∧ n ≤ 65535 then (layB n, 0) else (⟨#[]⟩, 4)

theorem put_any (n : Int) (w : World) :
    Calls Try.prog 20 #[.int .i64 n] w fun e w' => e = .returned (.tuple #[.string (putV n).1, .int .i64 (putV n).2]) ∧ Below w.heap.size w w' := by
  unfold putV
  by_cases h : 0 ≤ n ∧ n ≤ 65535
  · rw [if_pos h]
    obtain ⟨h0, h1⟩ := h
    have L := fun W => lay_any n W h0 h1
    generalize layB n = b at L
    go_enter Try.func20, Try.ntmps20
    go_wp2_with (go_at_call 38; (with_reducible refine (L _).mono ?_); rintro e w1 ⟨rfl, hb1⟩)
    go_ret2
    exact ⟨rfl, hb1⟩
  · rw [if_neg h]
    by_cases h0 : n < 0
    · clear h
      go_enter Try.func20, Try.ntmps20
      go_wp2
      go_ret2
      exact ⟨rfl, Below.refl _ _⟩
    · have h1 : 65535 < n := by omega
      have h2 : 0 ≤ n := by omega
      clear h h0
      go_enter Try.func20, Try.ntmps20
      go_wp2
      go_ret2
      exact ⟨rfl, Below.refl _ _⟩

/-- What Take tells: the number of two bytes, or 0, and the error number. -/
def takeV (s : ByteArray) (p : Int) : Int × Int := if p < 0 then (0, 1) else if (s.size : Int) - 2 < p then (0, 8) else (256 * bt s p.toNat + bt s (p.toNat + 1), 0)

theorem take_yes (s : ByteArray) (k : Nat) (h : k + 1 < s.size) : takeV s k = (256 * bt s k + bt s (k + 1), 0) := by
  unfold takeV
  rw [if_neg (by omega), if_neg (by omega)]
  rfl

theorem take_any (s : ByteArray) (p : Int) (w : World) (hs : s.size ≤ maxLen) :
    Calls Try.prog 59 #[.string s, .int .i64 p] w fun e w' => e = .returned (.tuple #[.int .i64 (takeV s p).1, .int .i64 (takeV s p).2]) ∧ Below w.heap.size w w' := by
  unfold maxLen at hs
  by_cases h : 0 ≤ p ∧ p ≤ (s.size : Int) - 2
  · obtain ⟨k, rfl⟩ : ∃ k : Nat, p = k := ⟨p.toNat, by omega⟩
    have hk : k + 1 < s.size := by omega
    rw [take_yes s k hk]
    have b0 := bt_bd s k
    have b1 := bt_bd s (k + 1)
    have g0 : k < s.size := by omega
    have y0 := byte_bt s k g0
    have y1 := byte_bt s (k + 1) hk
    have g1 : (k : Int) < (s.size : Int) := by omega
    have g2 : (k : Int) + 1 < (s.size : Int) := by omega
    have z0 := wrap_of (n := bt s k * 256) (by omega) (by omega)
    have z1 := wrap_of (n := 256 * bt s k) (by omega) (by omega)
    have z2 := wrap_of (n := bt s k * 256 + bt s (k + 1)) (by omega) (by omega)
    have z3 := wrap_of (n := 256 * bt s k + bt s (k + 1)) (by omega) (by omega)
    have z4 := wrap_of (n := (k : Int) + 1) (by omega) (by omega)
    have z5 : ((k : Int) + 1).toNat = k + 1 := by omega
    have hle : (k : Int) ≤ (s.size : Int) - 2 := by omega
    have HC := Lib.hid (Int.mul_comm (bt s k) 256)
    clear h
    go_enter Try.func59, Try.ntmps59
    go_wp2
    go_quiet (fail)
    go_wp2
    go_ret2
    rw [HC.out]
    exact ⟨rfl, b_dn (Below.refl _ _)⟩
  · unfold takeV
    by_cases h0 : p < 0
    · rw [if_pos h0]
      clear h
      go_enter Try.func59, Try.ntmps59
      go_wp2
      go_ret2
      exact ⟨rfl, Below.refl _ _⟩
    · have h1 : (s.size : Int) - 2 < p := by omega
      have h2 : 0 ≤ p := by omega
      rw [if_neg h0, if_pos h1]
      clear h h0
      go_enter Try.func59, Try.ntmps59
      go_wp2
      go_ret2
      exact ⟨rfl, Below.refl _ _⟩

end Go.Proofs.Ytgmcikajhnnaaaa
