/- What the document's Or and Set of layers 13 and 16 return, for sets of all sixteen clauses. Conditions: the findings can be read; at most a million. -/
import Derived.Test.YtlbafgdbemhanaaRows
import Derived.Test.YtlbafgdbemhanaaBase
import Derived.Test.YtlbafgdbemhanaaZ2
import Derived.Test.YtlbafgdbemhanaaZ1
import Derived.Test.YtlbafgdbemhanaaZ3
import Derived.Test.YtlbafgdbemhanaaMeterBit
import Derived.Test.YtlbafgdbemhanaaDutySet
import Derived.WalkKit
import Derived.WalkSpells
import Derived.WalkSmall
import Derived.Below
import Derived.Lib.Hide
import Derived.BigQuiet
import Derived.OwnWalk
import Derived.Outline
namespace Go.Proofs.Ytlbafgdbemhanaa
open Go.RowKit

theorem quo_t16 (a c : Nat) (ha : a < 65536) : (wrap64 ((a : Int) / ((2 ^ c : Nat) : Int))).tmod 2 = if a.testBit c then 1 else 0 := by
  rw [Nat.testBit_eq_decide_div_mod_eq]
  have e : ((a : Int) / ((2 ^ c : Nat) : Int)) = ((a / 2 ^ c : Nat) : Int) := by simp
  rw [e]
  have hl : a / 2 ^ c < 65536 := Nat.lt_of_le_of_lt (Nat.div_le_self _ _) ha
  generalize a / 2 ^ c = n at hl ⊢
  have hw : wrap64 (n : Int) = (n : Int) := by unfold wrap64; omega
  rw [hw]
  have h : n % 2 = 0 ∨ n % 2 = 1 := by omega
  have ht : ((n : Int)).tmod 2 = ((n % 2 : Nat) : Int) := by rw [Int.tmod_eq_emod_of_nonneg (by omega)]; omega
  rw [ht]
  rcases h with h | h <;> simp [h]

set_option maxRecDepth 20000 in
theorem or16_any (a b : Nat) (w : World) (ha : a < 65536) (hb : b < 65536) :
    Calls Try.prog 32 #[.int .i64 (a : Int), .int .i64 (b : Int)] w fun e w' => e = .returned (.int .i64 ((a ||| b : Nat) : Int)) ∧ w = w' := by
  have BI := fun (k : Nat) (hk : k < 16) W => bit_any (k : Int) k true W rfl hk
  have hab : a ||| b < 65536 := Nat.or_lt_two_pow (n := 16) ha hb
  obtain ⟨v, hv⟩ : ∃ v, a ||| b = v := ⟨_, rfl⟩
  rw [hv] at hab ⊢
  have HV := Lib.hid hv
  clear hv
  go_enter Try.func32, Try.ntmps32
  go_wp2
  go_loop [5, 6] (fun o i => ∃ j : Nat, j ≤ 16 ∧ i = .int .i64 j ∧ ∃ p : Nat, p ≤ 65536 ∧ Hid (p = v % 2 ^ j) ∧ o = .int .i64 (p : Nat)) (fun _ i => 16 - (intOf i).toNat)
  case atStart => exact ⟨0, Nat.zero_le _, rfl, 0, by omega, Lib.hid (by simp [Nat.mod_one]), rfl⟩
  case round =>
    obtain ⟨j, hj, rfl, p, hp, HP, rfl⟩ := hrel
    by_cases hlt : j < 16
    case neg =>
      obtain rfl : j = 16 := by omega
      have hpe := HP.out
      rw [Nat.mod_eq_of_lt (by omega)] at hpe
      subst hpe
      clear HP HV
      go_wp2
      go_ret
      exact ⟨rfl, rfl⟩
    have B := BI j hlt
    have Q1 := quo_t16 a j ha
    have Q2 := quo_t16 b j hb
    have OB : Hid (p + bitN j (a.testBit j || b.testBit j) = v % 2 ^ (j + 1)) := Lib.hid (by have := or_bits a b j p (by rw [HV.out]; exact HP.out); rwa [HV.out] at this)
    have OBL : p + bitN j (a.testBit j || b.testBit j) ≤ 65536 := by rw [OB.out]; exact Nat.le_trans (Nat.mod_le _ _) (by omega)
    clear BI HP
    unfold bitN at B OB OBL
    rw [if_pos rfl] at B
    have hq1 : 1 ≤ 2 ^ j := Nat.one_le_two_pow
    have hq2 : 2 ^ j ≤ 32768 := Nat.pow_le_pow_right (n := 2) (by omega) (by omega : j ≤ 15)
    generalize 2 ^ j = q at B Q1 Q2 OB OBL hq1 hq2
    have hqz : (q : Int) ≠ 0 := by omega
    cases h1 : a.testBit j with
    | true =>
      rw [h1] at Q1 OB OBL
      simp only [Bool.true_or, if_true] at OB OBL Q1
      clear Q2 h1
      go_wp2_with (go_at_call 55; (with_reducible refine (B _).mono ?_); rintro e w2 ⟨rfl, rfl⟩)
      go_round
      case rel => exact ⟨j + 1, by omega, by go_num, p + q, by omega, OB, by go_num⟩
      case measure => simp [intOf]; omega
    | false =>
      rw [h1] at Q1 OB OBL
      cases h2 : b.testBit j with
      | true =>
        rw [h2] at Q2 OB OBL
        simp only [Bool.false_or, if_true, Bool.false_eq_true, if_false] at OB OBL Q1 Q2
        clear h1 h2
        go_wp2_with (go_at_call 55; (with_reducible refine (B _).mono ?_); rintro e w2 ⟨rfl, rfl⟩)
        go_round
        case rel => exact ⟨j + 1, by omega, by go_num, p + q, by omega, OB, by go_num⟩
        case measure => simp [intOf]; omega
      | false =>
        rw [h2] at Q2 OB OBL
        simp only [Bool.false_or, Bool.false_eq_true, if_false, Nat.add_zero] at OB OBL Q1 Q2
        clear h1 h2
        go_wp2_with (go_at_call 55; (with_reducible refine (B _).mono ?_); rintro e w2 ⟨rfl, rfl⟩)
        go_round
        case rel => exact ⟨j + 1, by omega, by go_num, p, by omega, OB, by go_num⟩
        case measure => simp [intOf]; omega

/-- The set with one finding's clause more, if it is below c. -/
def setI (s : Nat) (x : Int) (c : Nat) : Nat := if 0 ≤ x ∧ x < (c : Int) then s ||| 2 ^ x.toNat else s
theorem setI_yes {s : Nat} {x : Int} {c : Nat} (h : x = (c : Int)) : setI s x c ||| 2 ^ c = setI s x (c + 1) ∧ setI s x c = s := by
  subst h
  unfold setI
  rw [if_neg (by omega), if_pos (by omega), Int.toNat_natCast]
  exact ⟨rfl, rfl⟩
theorem setI_no {s : Nat} {x : Int} {c : Nat} (h : ¬ x = (c : Int)) : setI s x c = setI s x (c + 1) := by
  unfold setI
  by_cases h1 : 0 ≤ x ∧ x < (c : Int)
  · rw [if_pos h1, if_pos (by omega)]
  · rw [if_neg h1, if_neg (by omega)]
theorem setI_lt {s : Nat} (x : Int) {c : Nat} (hs : s < 65536) (hc : c ≤ 16) : setI s x c < 65536 := by
  unfold setI
  split
  · exact Nat.or_lt_two_pow (n := 16) (by omega) (Nat.pow_lt_pow_right (by omega) (by omega))
  · exact hs

set_option maxRecDepth 20000 in
set_option maxHeartbeats 2000000 in
theorem refset16_any (A : Option Addr) (c n : Nat) (l : List Rc) (w : World) (hn : l.length = n) (hr : RdF w A l) (hl : n ≤ 1000000) :
    Calls Try.prog 15 #[.slice A n c] w fun e w' => e = .returned (.int .i64 (setL l : Nat)) ∧ w = w' := by
  have HN := Lib.hid hn
  have HR := Lib.hid hr
  clear hn hr
  go_enter Try.func15, Try.ntmps15
  go_wp2
  go_loop [3, 4] (fun v i => ∃ k s : Nat, k ≤ n ∧ i = .int .i64 (k : Nat) ∧ v = .int .i64 (s : Nat) ∧ Hid (setL (l.take k) = s) ∧ s < 65536) (fun _ i => n - (intOf i).toNat)
  case atStart => exact ⟨0, 0, Nat.zero_le _, rfl, rfl, Lib.hid rfl, by decide⟩
  case round =>
    obtain ⟨k, s, hk, rfl, rfl, HS, hs⟩ := hrel
    by_cases hlt : k < n
    · have hlt' : k < l.length := by rw [HN.out]; exact hlt
      obtain ⟨b, off, x, y, z, rfl, hbb, hc0, hc1, hc2, hq⟩ := HR.out.at_ hlt'
      have ST := setL_take hlt' hq.out
      rw [HS.out] at ST
      have HST : Hid (setL (l.take (k + 1)) = setI s x 16) := Lib.hid (by rw [ST]; rfl)
      clear ST hq hc1 hc2 hlt' HS
      go_wp2
      go_loop [3, 5, 6] (fun v m i => ∃ c q r : Nat, c ≤ 16 ∧ i = .int .i64 (c : Nat) ∧ m = .int .i64 (q : Nat) ∧ Hid (q = 2 ^ c) ∧ q ≤ 65536 ∧ v = .int .i64 (r : Nat) ∧ Hid (r = setI s x c) ∧ r < 65536) (fun _ _ i => 16 - (intOf i).toNat)
      case atStart => exact ⟨0, 1, s, Nat.zero_le _, rfl, rfl, Lib.hid rfl, by omega, rfl, Lib.hid (by unfold setI; rw [if_neg (by omega)]), hs⟩
      case round =>
        obtain ⟨c, q, r, hc, rfl, rfl, HQ, hq, rfl, HRR, hr⟩ := hrel
        by_cases hc16 : c < 16
        · have hq2 : Hid (2 * q = 2 ^ (c + 1)) := Lib.hid (by rw [HQ.out, Nat.pow_succ, Nat.mul_comm])
          have hq3 : 2 * q ≤ 65536 := by rw [hq2.out]; exact Nat.pow_le_pow_right (n := 2) (by omega) (by omega : c + 1 ≤ 16)
          by_cases he : x = (c : Int)
          · have hx : (x == (c : Int)) = true := by simpa using he
            have OR := fun W => or16_any r q W hr (by omega)
            have hrn : Hid (r ||| q = setI s x (c + 1)) := Lib.hid (by rw [HRR.out, HQ.out]; exact (setI_yes he).1)
            have hrl : r ||| q < 65536 := by rw [hrn.out]; exact setI_lt _ hs (by omega)
            have HE := Lib.hid he
            clear he
            go_wp2_with (go_at_call 32; (with_reducible refine (OR _).mono ?_); rintro e w2 ⟨rfl, rfl⟩)
            go_round
            case rel => exact ⟨c + 1, 2 * q, r ||| q, by omega, by go_num, by go_num, hq2, hq3, rfl, hrn, hrl⟩
            case measure => simp [intOf]; omega
          · have hx : (x == (c : Int)) = false := by simpa using he
            have hrn : Hid (r = setI s x (c + 1)) := Lib.hid (by rw [HRR.out]; exact setI_no he)
            clear he
            go_wp2
            go_round
            case rel => exact ⟨c + 1, 2 * q, r, by omega, by go_num, by go_num, hq2, hq3, rfl, hrn, hr⟩
            case measure => simp [intOf]; omega
        · obtain rfl : c = 16 := by omega
          go_wp2
          go_round
          case rel => exact ⟨k + 1, r, by omega, by go_num, rfl, Lib.hid (by rw [HST.out, HRR.out]), hr⟩
          case measure => simp [intOf]; omega
    · obtain rfl : k = n := by omega
      have e : setL l = s := by
        have := HS.out
        rwa [List.take_of_length_le (Nat.le_of_eq HN.out)] at this
      go_wp2
      go_ret
      exact ⟨by first | rfl | (rw [e]; rfl), rfl⟩

end Go.Proofs.Ytlbafgdbemhanaa
