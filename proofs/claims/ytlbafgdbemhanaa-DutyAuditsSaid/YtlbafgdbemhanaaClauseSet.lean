/- What In and All of layer 15, and the document's own All, return, for any numbers. Conditions: none. -/
import Derived.Test.YtlbafgdbemhanaaRows
import Derived.Test.YtlbafgdbemhanaaBase
import Derived.Test.YtlbafgdbemhanaaZ2
import Derived.Test.YtlbafgdbemhanaaZ1
import Derived.Test.YtlbafgdbemhanaaClauseLeaf
import Derived.WalkKit
import Derived.WalkSpells
import Derived.WalkSmall
import Derived.Below
import Derived.Outline
import Derived.OwnWalk
import Derived.Laws.BitsLemmas
import Derived.Lib.Hide
namespace Go.Proofs.Ytlbafgdbemhanaa
open Go.RowKit

theorem and_low (n : Int) : bits .and .i64 n 1 = n % 2 := by
  have h16 : (BitVec.ofInt 64 1).toNat = 2 ^ 1 - 1 := by decide
  have key : (BitVec.ofInt 64 n &&& BitVec.ofInt 64 1).toNat = (n % ((2 ^ 64 : Nat) : Int)).toNat % 2 ^ 1 := by
    rw [BitVec.toNat_and, BitVec.toNat_ofInt, h16, Nat.and_two_pow_sub_one_eq_mod]
  show IntKind.i64.wrap ((BitVec.ofInt 64 n &&& BitVec.ofInt 64 1).toNat : Nat) = n % 2
  rw [key, IntKind.wrap_i64]
  omega

theorem bit_and (s : Int) (k : Nat) : (bits .and .i64 (s / 2 ^ k) 1 == 1) = bitV s k := by
  unfold bitV
  rw [and_low]

theorem in_no (s c : Int) (w : World) (h : ¬ isC c) :
    Calls Try.prog 24 #[.int .i64 s, .int .i64 c] w fun e w' => e = .returned (.bool false) ∧ w = w' := by
  have CI := fun W => is_any c W
  rw [decide_eq_false h] at CI
  clear h
  go_enter Try.func24, Try.ntmps24
  go_wp2_with (go_at_call 38; (with_reducible refine (CI _).mono ?_); rintro e w1 ⟨rfl, rfl⟩)
  go_ret
  exact ⟨rfl, rfl⟩

theorem in_yes (s : Int) (k : Nat) (w : World) (hk : k < 16) :
    Calls Try.prog 24 #[.int .i64 s, .int .i64 (k : Nat)] w fun e w' => e = .returned (.bool (bitV s k)) ∧ w = w' := by
  have CI := fun W => is_any (k : Int) W
  rw [decide_eq_true (isC_nat hk)] at CI
  have k0 : (0 : Int) ≤ (k : Int) := by omega
  have k1 : (k : Int) < 16 := by omega
  have e1 := bit_and s k
  generalize bitV s k = g at e1
  go_enter Try.func24, Try.ntmps24
  go_wp2_with (go_at_call 38; (with_reducible refine (CI _).mono ?_); rintro e w1 ⟨rfl, rfl⟩)
  go_ret
  exact ⟨by simp_all, rfl⟩

theorem in_any (s c : Int) (w : World) :
    Calls Try.prog 24 #[.int .i64 s, .int .i64 c] w fun e w' => e = .returned (.bool (inV s c)) ∧ w = w' := by
  by_cases h : isC c
  · obtain ⟨k, hk, rfl⟩ := isC_of h
    have e : inV s (k : Int) = bitV s k := by unfold inV; rw [decide_eq_true h]; simp
    rw [e]
    exact in_yes s k w hk
  · have e : inV s c = false := by unfold inV; rw [decide_eq_false h]; rfl
    rw [e]
    exact in_no s c w h

set_option maxRecDepth 100000 in
set_option maxHeartbeats 4000000 in
theorem all15_any (s : Int) (w : World) :
    Calls Try.prog 40 #[.int .i64 s] w fun e w' => ∃ v, e = .returned v ∧ OwnN w.heap.size w' v (allN s 16) ∧ Below w.heap.size w w' := by
  obtain ⟨i1, hj, hy0, hy1, hy2⟩ := info_parts info_int
  go_enter Try.func40, Try.ntmps40
  go_wp2
  go_loopw [3, 5] (fun v i wr => ∃ (k n : Nat) (A' : Option Addr) (c' : Nat), k ≤ 16 ∧ i = .int .i64 k ∧ v = .slice A' n c' ∧ Hid ((allN s k).length = n) ∧ n ≤ k ∧
      Hid (OwnN w.heap.size wr (.slice A' n c') (allN s k)) ∧ Below w.heap.size w wr) (fun _ i _ => 16 - (intOf i).toNat)
  case atStart => exact ⟨0, 0, none, 0, Nat.zero_le _, rfl, rfl, Lib.hid rfl, Nat.le_refl _, Lib.hid (OwnN.nil _ _), Below.refl _ _⟩
  case round =>
    obtain ⟨k, n, A', c', hk, rfl, rfl, HON, hnk, hown, hb⟩ := hrel
    obtain ⟨w2, rfl⟩ : ∃ w2 : World, w2 = wr := ⟨_, rfl⟩
    have hsz := hb.size
    by_cases hlt : k < 16
    · have CI := fun W => in_yes s k W hlt
      cases hbit : bitV s k with
      | true =>
        rw [hbit] at CI
        have KM := Lib.hid (all_yes hbit)
        have HL5 := Lib.hid (show (allN s k ++ [(k : Int)]).length = n + 1 by rw [List.length_append, HON.out]; rfl)
        have hnb : (allN s k).length ≤ 16 := by have := HON.out; omega
        clear hbit
        go_wp2_with (first
          | (go_at_call 24; (with_reducible refine (CI _).mono ?_); rintro e w3 ⟨rfl, rfl⟩)
          | (at_builtin; refine wpList_append_own _ rfl _ _ 59 rfl w.heap.size 3 i1 (.int .i64 0) 1 8 Try.underlying59 hj hy0 hy1 hy2 rfl (by decide) _ _ _ rfl (OwnN.alloc hown.out _) ⟨w2.heap.size, 0, none⟩ 1 1 [.int .i64 k] rfl rfl (int_news rfl) int_cells (by unfold maxLen; omega) (by omega) (by have := hb.size; simp; omega) ?_; intro v5 w5 hown5 hgrow5 _; have HS := Lib.hid (OwnN.snoc hown5); have HB5 := Lib.hid ((hb.alloc hb.size (.cells #[.int .i64 k] 3)).grown hgrow5 (by have := hb.size; simp; omega) (fun q hq => (World.ownsRow.lt hown.out q hq).1)); clear hown5 hgrow5))
        obtain ⟨A5, c5, rfl, _⟩ := HS.out.read
        go_wp2
        go_roundw
        case rel => exact ⟨k + 1, n + 1, A5, c5, by omega, by go_num, by rw [HL5.out], Lib.hid (by rw [KM.out]; exact HL5.out), by omega, Lib.hid (by rw [KM.out]; have := HS.out; rw [HL5.out] at this; exact this), HB5.out⟩
        case measure => simp [intOf]; omega
      | false =>
        rw [hbit] at CI
        have KM := Lib.hid (all_no hbit)
        clear hbit
        go_wp2_with (go_at_call 24; (with_reducible refine (CI _).mono ?_); rintro e w3 ⟨rfl, rfl⟩)
        go_roundw
        case rel => exact ⟨k + 1, n, A', c', by omega, by go_num, rfl, Lib.hid (by rw [KM.out]; exact HON.out), by omega, Lib.hid (by rw [KM.out]; exact hown.out), hb⟩
        case measure => simp [intOf]; omega
    · obtain rfl : k = 16 := by omega
      go_wp2
      go_ret
      exact ⟨_, rfl, hown.out, hb⟩

theorem low_half (u : Int) (k : Nat) : u / 2 ^ k / 2 = u / 2 ^ (k + 1) := by
  rw [Int.ediv_ediv_of_nonneg (Int.le_of_lt (Int.pow_pos (by decide))), Int.pow_succ]

end Go.Proofs.Ytlbafgdbemhanaa
