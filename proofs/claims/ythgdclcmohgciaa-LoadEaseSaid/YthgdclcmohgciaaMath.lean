/- The document's reckoning of layer 1 in whole numbers: what fits 64 bits, and what wraps. Conditions: none beyond each lemma's own premises. -/
import Derived.RowKit
import Derived.IntWalk
namespace Go.Proofs.Ythgdclcmohgciaa
open Go.RowKit

/-- The value and the error number of a whole number: itself, if 64 bits with a sign hold it; else 0 and 19. -/
def fit (n : Int) : Int × Int := if -9223372036854775808 ≤ n ∧ n ≤ 9223372036854775807 then (n, 0) else (0, 19)

theorem fit_in (n : Int) (h0 : -9223372036854775808 ≤ n) (h1 : n ≤ 9223372036854775807) : fit n = (n, 0) := by
  unfold fit; rw [if_pos ⟨h0, h1⟩]
theorem fit_hi (n : Int) (h : 9223372036854775807 < n) : fit n = (0, 19) := by
  unfold fit; rw [if_neg (by omega)]
theorem fit_lo (n : Int) (h : n < -9223372036854775808) : fit n = (0, 19) := by
  unfold fit; rw [if_neg (by omega)]
theorem fit_out (n : Int) (h : ¬ (-9223372036854775808 ≤ n ∧ n ≤ 9223372036854775807)) : fit n = (0, 19) := by
  unfold fit; rw [if_neg h]
theorem fit_bd (n : Int) : -9223372036854775808 ≤ (fit n).1 ∧ (fit n).1 ≤ 9223372036854775807 := by
  unfold fit; split <;> constructor <;> (try simp only []) <;> omega

theorem wf_bd {n : Int} (h : (Lit.int .i64 n).wf = true) : -9223372036854775808 ≤ n ∧ n ≤ 9223372036854775807 := by
  simp [Lit.wf, IntKind.min, IntKind.max, IntKind.bits, IntKind.signed] at h
  omega

theorem add_wrap_hi (a b : Int) (ha : a ≤ 9223372036854775807) (hb : b ≤ 9223372036854775807) (h : 9223372036854775807 < a + b) : wrap64 (a + b) < a ∧ wrap64 (a + b) < b := by
  unfold wrap64; omega
theorem add_wrap_lo (a b : Int) (ha : -9223372036854775808 ≤ a) (hb : -9223372036854775808 ≤ b) (h : a + b < -9223372036854775808) : a < wrap64 (a + b) ∧ b < wrap64 (a + b) := by
  unfold wrap64; omega
theorem sub_wrap_hi (a b : Int) (ha : a ≤ 9223372036854775807) (hb : -9223372036854775808 ≤ b) (h : 9223372036854775807 < a - b) : wrap64 (a - b) < a := by
  unfold wrap64; omega
theorem sub_wrap_lo (a b : Int) (ha : -9223372036854775808 ≤ a) (hb : b ≤ 9223372036854775807) (h : a - b < -9223372036854775808) : a < wrap64 (a - b) := by
  unfold wrap64; omega

/-- Division towards the lesser number, out of Go's own, which cuts towards nought. -/
theorem div_lo (a b : Int) (hb : 1 ≤ b) (h : a.tmod b < 0) : a.tdiv b - 1 = a / b ∧ a.tmod b + b = a % b := by
  have e1 := Int.mul_tdiv_add_tmod a b
  have l1 := Int.tmod_lt_of_pos a (b := b) (by omega)
  have l2 : -b < a.tmod b := by
    have := Int.tmod_lt_of_pos (-a) (b := b) (by omega)
    rw [Int.neg_tmod] at this; omega
  have hq : a = (a.tmod b + b) + b * (a.tdiv b - 1) := by rw [Int.mul_sub]; omega
  constructor
  · conv => rhs; rw [hq]
    rw [Int.add_mul_ediv_left _ _ (by omega), Int.ediv_eq_zero_of_lt (by omega) (by omega)]; omega
  · conv => rhs; rw [hq]
    rw [Int.add_mul_emod_self_left, Int.emod_eq_of_lt (by omega) (by omega)]
theorem div_hi (a b : Int) (hb : 1 ≤ b) (h : 0 ≤ a.tmod b) : a.tdiv b = a / b ∧ a.tmod b = a % b := by
  have e1 := Int.mul_tdiv_add_tmod a b
  have l1 := Int.tmod_lt_of_pos a (b := b) (by omega)
  have hq : a = (a.tmod b) + b * (a.tdiv b) := by omega
  constructor
  · conv => rhs; rw [hq]
    rw [Int.add_mul_ediv_left _ _ (by omega), Int.ediv_eq_zero_of_lt (by omega) (by omega)]; omega
  · conv => rhs; rw [hq]
    rw [Int.add_mul_emod_self_left, Int.emod_eq_of_lt (by omega) (by omega)]
theorem ediv_bd (a b : Int) (hb : 1 ≤ b) (ha : -9223372036854775808 ≤ a ∧ a ≤ 9223372036854775807) : -9223372036854775808 ≤ a / b ∧ a / b ≤ 9223372036854775807 := by
  have h1 := Int.emod_nonneg a (b := b) (by omega)
  have h2 := Int.emod_lt_of_pos a (b := b) (by omega)
  constructor
  · by_cases h : 0 ≤ a
    · have := Int.ediv_nonneg h (by omega : 0 ≤ b); omega
    · have : a ≤ a / b := by
        rw [Int.le_ediv_iff_mul_le (by omega)]
        have := Int.mul_le_mul_of_nonpos_left (a := a) (by omega) hb
        omega
      omega
  · by_cases h : 0 ≤ a
    · have := Int.ediv_le_self b h; omega
    · have : a / b < 0 := Int.ediv_neg_of_neg_of_pos (by omega) (by omega)
      omega
theorem emod_bd (a b : Int) (hb : 1 ≤ b) : 0 ≤ a % b ∧ a % b < b :=
  ⟨Int.emod_nonneg a (by omega), Int.emod_lt_of_pos a (by omega)⟩
theorem tdiv_bd (a b : Int) (hb : 1 ≤ b) (ha : -9223372036854775808 ≤ a ∧ a ≤ 9223372036854775807) (h : a.tmod b < 0) :
    -9223372036854775808 ≤ a.tdiv b - 1 ∧ a.tdiv b - 1 ≤ 9223372036854775807 := by
  rw [(div_lo a b hb h).1]; exact ediv_bd a b hb ha
theorem tdiv_bd' (a b : Int) (hb : 1 ≤ b) (ha : -9223372036854775808 ≤ a ∧ a ≤ 9223372036854775807) (h : 0 ≤ a.tmod b) :
    -9223372036854775808 ≤ a.tdiv b ∧ a.tdiv b ≤ 9223372036854775807 := by
  rw [(div_hi a b hb h).1]; exact ediv_bd a b hb ha

/-- What Div tells: the quotient, what is left, the error number. -/
def dv (a b : Int) : Int × Int × Int := if b < 1 then (0, 0, 1) else (a / b, a % b, 0)
/-- A quotient cut towards nought fits, if the divisor is neither 0 nor -1. -/
theorem quo_fits (p b : Int) (hp : -9223372036854775808 ≤ p ∧ p ≤ 9223372036854775807) (h1 : b ≠ -1) : -9223372036854775808 ≤ p.tdiv b ∧ p.tdiv b ≤ 9223372036854775807 := by
  have hn : (p.tdiv b).natAbs = p.natAbs / b.natAbs := Int.natAbs_tdiv p b
  have hle : p.natAbs / b.natAbs ≤ p.natAbs := Nat.div_le_self _ _
  by_cases h2 : b = 0
  · subst h2; simp
  · by_cases h3 : b = 1
    · subst h3; rw [Int.tdiv_one]; exact hp
    · have hb : 2 ≤ b.natAbs := by omega
      have : p.natAbs / b.natAbs ≤ p.natAbs / 2 := Nat.div_le_div_left hb (by omega)
      omega
theorem mul_back (a b : Int) (h0 : b ≠ 0) : (a * b).tdiv b = a := Int.mul_tdiv_cancel a h0
theorem mul_over (a b : Int) (hb : -9223372036854775808 ≤ b ∧ b ≤ 9223372036854775807) (h1 : b ≠ -1) (h : ¬ (-9223372036854775808 ≤ a * b ∧ a * b ≤ 9223372036854775807)) :
    (wrap64 ((wrap64 (a * b)).tdiv b) != a) = true := by
  have hp : -9223372036854775808 ≤ wrap64 (a * b) ∧ wrap64 (a * b) ≤ 9223372036854775807 := by unfold wrap64; omega
  have hm : ∃ k : Int, wrap64 (a * b) = a * b - 18446744073709551616 * k ∧ k ≠ 0 := by
    refine ⟨(a * b + 9223372036854775808) / 18446744073709551616, ?_, ?_⟩
    · unfold wrap64; omega
    · omega
  obtain ⟨k, hk, hk0⟩ := hm
  generalize hpp : wrap64 (a * b) = p at *
  have hq := quo_fits p b hp h1
  have hw : wrap64 (p.tdiv b) = p.tdiv b := IntWalk.wrap64_in _ hq
  rw [hw]
  simp only [bne_iff_ne, ne_eq]
  intro he
  have e1 := Int.mul_tdiv_add_tmod p b
  rw [he, Int.mul_comm b a] at e1
  have hl : (p.tmod b).natAbs < 9223372036854775809 := by
    by_cases hb0 : b = 0
    · subst hb0; simp at h
    · have : (p.tmod b).natAbs = p.natAbs % b.natAbs := Int.natAbs_tmod p b
      have h2 := Nat.mod_lt p.natAbs (y := b.natAbs) (by omega)
      omega
  omega

/-- What Add tells, from a sum on: each sum on the way must fit. -/
def sums (acc : Int) : List Int → Int × Int
  | [] => (acc, 0)
  | z :: r => if -9223372036854775808 ≤ acc + z ∧ acc + z ≤ 9223372036854775807 then sums (acc + z) r else (0, 19)
theorem sums_nil (acc : Int) : sums acc [] = (acc, 0) := rfl
theorem sums_in (acc z : Int) (r : List Int) (h : -9223372036854775808 ≤ acc + z ∧ acc + z ≤ 9223372036854775807) : sums acc (z :: r) = sums (acc + z) r := by
  rw [sums, if_pos h]
theorem sums_out (acc z : Int) (r : List Int) (h : ¬ (-9223372036854775808 ≤ acc + z ∧ acc + z ≤ 9223372036854775807)) : sums acc (z :: r) = (0, 19) := by
  rw [sums, if_neg h]
theorem sums_two (a b : Int) (ha : -9223372036854775808 ≤ a ∧ a ≤ 9223372036854775807) : sums 0 [a, b] = fit (a + b) := by
  rw [sums_in _ _ _ (by omega), Int.zero_add]
  by_cases h : -9223372036854775808 ≤ a + b ∧ a + b ≤ 9223372036854775807
  · rw [sums_in _ _ _ h, sums_nil, fit_in _ h.1 h.2]
  · rw [sums_out _ _ _ h, fit_out _ h]
theorem drop_cons (l : List Int) (k : Nat) (h : k < l.length) : l.drop k = l.getD k 0 :: l.drop (k + 1) := by
  rw [List.drop_eq_getElem_cons h]; simp [List.getD, h]

/-- What Up tells: the least multiple that is not below, if it fits; the error number. -/
def upv (n s : Int) : Int × Int := if s < 1 then (0, 1) else if n % s = 0 then (n, 0) else fit (n + (s - n % s))
theorem upv_arg (n s : Int) (h : s < 1) : upv n s = (0, 1) := by unfold upv; rw [if_pos h]
theorem upv_even (n s : Int) (h : 1 ≤ s) (h0 : n % s = 0) : upv n s = (n, 0) := by unfold upv; rw [if_neg (by omega), if_pos h0]
theorem upv_next (n s : Int) (h : 1 ≤ s) (h0 : n % s ≠ 0) : upv n s = fit (n + (s - n % s)) := by unfold upv; rw [if_neg (by omega), if_neg h0]
theorem dv_arg (a b : Int) (h : b < 1) : dv a b = (0, 0, 1) := by unfold dv; rw [if_pos h]
theorem dv_ok (a b : Int) (h : 1 ≤ b) : dv a b = (a / b, a % b, 0) := by unfold dv; rw [if_neg (by omega)]

end Go.Proofs.Ythgdclcmohgciaa
