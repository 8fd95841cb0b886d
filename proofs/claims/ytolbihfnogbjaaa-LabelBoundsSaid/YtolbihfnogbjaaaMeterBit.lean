/- What the document's bit and Or of layer 13 return. Conditions: as each theorem says. -/
import Derived.Test.YtolbihfnogbjaaaRows
import Derived.Test.YtolbihfnogbjaaaBase
import Derived.Test.YtolbihfnogbjaaaZ4
import Derived.WalkKit
import Derived.WalkSpells
import Derived.WalkSmall
import Derived.Below
import Derived.Lib.Hide
import Derived.BigQuiet
import Derived.OwnWalk
import Derived.Outline
namespace Go.Proofs.Ytolbihfnogbjaaa
open Go.RowKit

theorem bit_any (c : Int) (k : Nat) (b : Bool) (w : World) (hc : c = (k : Int)) (hk : k < 16) :
    Calls Try.prog 37 #[.int .i64 c, .bool b] w fun e w' => e = .returned (.int .i64 ((bitN k b : Nat) : Int)) ∧ w = w' := by
  subst hc
  obtain ⟨v, hv⟩ : ∃ v, bitN k b = v := ⟨_, rfl⟩
  rw [hv]
  have HV := Lib.hid hv
  clear hv
  go_enter Try.func37, Try.ntmps37
  go_wp2
  go_loop [5, 6] (fun n i => ∃ j : Nat, j ≤ k ∧ i = .int .i64 j ∧ ∃ p : Nat, p ≤ 65536 ∧ Hid (p = 2 ^ j) ∧ n = .int .i64 (p : Nat)) (fun _ i => k - (intOf i).toNat)
  case atStart => exact ⟨0, Nat.zero_le _, rfl, 1, by omega, Lib.hid rfl, rfl⟩
  case round =>
    obtain ⟨j, hj, rfl, p, hp, HP, rfl⟩ := hrel
    by_cases hlt : j < k
    case neg =>
      obtain rfl : j = k := by omega
      have hv := HV.out
      unfold bitN at hv
      rw [← HP.out] at hv
      clear HP HV hlt
      cases b with
      | true =>
        rw [if_pos rfl] at hv
        subst hv
        go_wp2
        go_ret
        exact ⟨rfl, rfl⟩
      | false =>
        rw [if_neg (by simp)] at hv
        subst hv
        go_wp2
        go_ret
        exact ⟨rfl, rfl⟩
    have hp2 : Hid (p * 2 = 2 ^ (j + 1)) := Lib.hid (by rw [HP.out, Nat.pow_succ])
    have hq : p * 2 ≤ 65536 := by
      rw [hp2.out]
      exact Nat.pow_le_pow_right (n := 2) (by omega) (by omega : j + 1 ≤ 16)
    go_wp2
    go_round
    case rel => exact ⟨j + 1, by omega, by go_num, p * 2, by omega, hp2, by go_num⟩
    case measure => simp [intOf]; omega

theorem bitN_test (k : Nat) (b : Bool) (j : Nat) : (bitN k b).testBit j = (decide (k = j) && b) := by
  unfold bitN
  cases b with
  | true => simp [Nat.testBit_two_pow]
  | false => simp

/-- The bits of a set below c. -/
theorem or_bits (a b : Nat) (c : Nat) (out : Nat) (h : out = (a ||| b) % 2 ^ c) : out + bitN c (a.testBit c || b.testBit c) = (a ||| b) % 2 ^ (c + 1) := by
  rw [h, ← Nat.testBit_or]
  generalize a ||| b = n
  rw [Nat.mod_pow_succ, Nat.testBit_eq_decide_div_mod_eq]
  unfold bitN
  have : n / 2 ^ c % 2 = 0 ∨ n / 2 ^ c % 2 = 1 := by omega
  rcases this with h | h <;> simp [h]

theorem quo_bit (a c : Nat) : ((((a : Int) / ((2 ^ c : Nat) : Int)) % 2 == 1)) = a.testBit c := by
  rw [Nat.testBit_eq_decide_div_mod_eq]
  have : ((a : Int) / ((2 ^ c : Nat) : Int)) % 2 = ((a / 2 ^ c % 2 : Nat) : Int) := by simp
  rw [this]
  have h : a / 2 ^ c % 2 = 0 ∨ a / 2 ^ c % 2 = 1 := by omega
  rcases h with h | h <;> rw [h] <;> rfl

theorem quo_t (a c : Nat) (ha : a < 1024) : (wrap64 ((a : Int) / ((2 ^ c : Nat) : Int))).tmod 2 = if a.testBit c then 1 else 0 := by
  rw [Nat.testBit_eq_decide_div_mod_eq]
  have e : ((a : Int) / ((2 ^ c : Nat) : Int)) = ((a / 2 ^ c : Nat) : Int) := by simp
  rw [e]
  have hl : a / 2 ^ c < 1024 := Nat.lt_of_le_of_lt (Nat.div_le_self _ _) ha
  generalize a / 2 ^ c = n at hl ⊢
  have hw : wrap64 (n : Int) = (n : Int) := by unfold wrap64; omega
  rw [hw]
  have h : n % 2 = 0 ∨ n % 2 = 1 := by omega
  have ht : ((n : Int)).tmod 2 = ((n % 2 : Nat) : Int) := by rw [Int.tmod_eq_emod_of_nonneg (by omega)]; omega
  rw [ht]
  rcases h with h | h <;> simp [h]

end Go.Proofs.Ytolbihfnogbjaaa
