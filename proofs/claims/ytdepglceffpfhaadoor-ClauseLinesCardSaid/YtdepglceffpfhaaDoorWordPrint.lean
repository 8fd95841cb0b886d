/- What Print and Told of layer 6 return, and the document's own, for any number and any span. Conditions: as each theorem says; the program's listed variables are laid. -/
import Derived.Test.YtdepglceffpfhaaDoorWordNumC
namespace Go.Proofs.YtdepglceffpfhaaDoor
open Go.RowKit

theorem ba_ext {a b : ByteArray} (h : a.data.toList = b.data.toList) : a = b := ByteArray.ext (Array.toList_inj.1 h)

theorem ret_s {a b : ByteArray} (h : a = b) : Ending.returned (.string a) = .returned (.string b) := by rw [h]

theorem grow_below {w w' : World} {k : Nat} {os : Array Obj} (h : w' = Go.Sort.grow (w.drewN k) os) : Below w.heap.size w w' := by
  subst h
  exact ⟨rfl, rfl, rfl, by simp, fun j hj => (Go.Sort.heap_grow_old (w.drewN k) os (show j < (w.drewN k).heap.size from hj)).trans rfl⟩

theorem print_tab (n : Int) (w : World) (ht : Lib.TabIs Tryd.prog w "internal/strconv.uint64pow10" .u64 Lib.pow10Tab) (h0 : -9223372036854775808 ≤ n) (h1 : n ≤ 9223372036854775807) :
    Calls Tryd.prog 45 #[.int .i64 n] w fun e w' => e = .returned (.string (itoaB n)) ∧ Below w.heap.size w w' := by
  have K : Calls Tryd.prog 65 #[.int .i64 n] w fun e w' => e = .returned (.string (itoaB n)) ∧ Below w.heap.size w w' :=
    (itoa_any n h0 h1 w ht).mono fun e w' ⟨he, k, os, hw⟩ => ⟨he, grow_below hw⟩
  clear ht
  go_enter Tryd.func45, Tryd.ntmps45
  go_wp2_with (go_at_call 65; (with_reducible refine K.mono ?_); rintro e w1 ⟨rfl, hb1⟩)
  go_ret
  exact ⟨rfl, hb1⟩

theorem print_any (n : Int) (w : World) (hl : Laid6 w) (h0 : -9223372036854775808 ≤ n) (h1 : n ≤ 9223372036854775807) :
    Calls Tryd.prog 45 #[.int .i64 n] w fun e w' => e = .returned (.string (itoaB n)) ∧ Below w.heap.size w w' := print_tab n w hl.tab h0 h1

/-- One digit more is told. -/
theorem dec_more {u q p r : Nat} {sb : ByteArray} (H : Lib.decDigits u = Lib.decDigits q ++ sb.data.toList) (hq : q = 10 * p + r) (hr : r < 10) (hp : p ≠ 0) :
    Lib.decDigits u = Lib.decDigits p ++ (⟨#[UInt8.ofNat ((48 : Int) + (r : Int)).toNat]⟩ ++ sb).data.toList := by
  have e1 : q / 10 = p := by omega
  have e2 : q % 10 = r := by omega
  have e3 : ((48 : Int) + (r : Int)).toNat = 48 + r := by omega
  rw [H, dec_big (by omega), e1, e2, e3]
  simp [ByteArray.data_append]

theorem dec_last {u q r : Nat} {sb : ByteArray} (H : Lib.decDigits u = Lib.decDigits q ++ sb.data.toList) (hq : q = r) (hr : r < 10) :
    (⟨#[UInt8.ofNat ((48 : Int) + (r : Int)).toNat]⟩ ++ sb).data.toList = Lib.decDigits u := by
  have e3 : ((48 : Int) + (r : Int)).toNat = 48 + r := by omega
  rw [H, hq, dec_small hr, e3]
  simp [ByteArray.data_append]

theorem refprint_pos (u : Nat) (w : World) (h1 : u ≤ 9223372036854775807) :
    Calls Tryd.prog 46 #[.int .i64 ((u : Int))] w fun e w' => e = .returned (.string (itoaB ((u : Int)))) ∧ Below w.heap.size w w' := by
  have HU := Lib.hid h1

  have n0 : ¬ (u : Int) < 0 := by omega
  go_enter Tryd.func46, Tryd.ntmps46
  go_wp2
  go_loopw [3, 4, 5] (fun s m i wr => ∃ (k q : Nat) (sb : ByteArray), s = .string sb ∧ m = .int .i64 ((q : Int)) ∧ i = .int .i64 k ∧ q ≤ u ∧ q * 10 ^ k ≤ u ∧ sb.size ≤ k ∧ (k = 0 ∨ q ≠ 0) ∧ Below w.heap.size w wr ∧ Hid (Lib.decDigits u = Lib.decDigits q ++ sb.data.toList)) (fun _ _ i _ => 20 - (intOf i).toNat)
  case atStart => exact ⟨0, u, ⟨#[]⟩, rfl, rfl, rfl, Nat.le_refl _, by omega, by decide, .inl rfl, Below.refl _ _, Lib.hid (by simp)⟩
  case round =>
    obtain ⟨k, q, sb, rfl, rfl, rfl, hqu, hpow, hsb, hk0, hb, H⟩ := hrel
    have hk : k < 19 := by
      rcases Nat.lt_or_ge k 19 with h | h
      · exact h
      · exfalso
        have hp := Nat.pow_le_pow_right (n := 10) (by decide) h
        have e : (10 : Nat) ^ 19 = 10000000000000000000 := by decide
        have hq1 : 1 ≤ q := by omega
        have := Nat.mul_le_mul hq1 hp
        omega
    obtain ⟨p, r, hq, hr⟩ : ∃ p r, q = 10 * p + r ∧ r < 10 := ⟨q / 10, q % 10, by omega, by omega⟩
    have HP := Lib.hid (show p * 10 ^ (k + 1) ≤ u by
      refine Nat.le_trans ?_ hpow
      rw [Nat.pow_succ, Nat.mul_comm (10 ^ k) 10, ← Nat.mul_assoc]
      exact Nat.mul_le_mul_right _ (by omega))
    clear hpow
    have e1 : ((q : Int)).tmod 10 = (r : Int) := by
      rw [Int.tmod_eq_emod_of_nonneg (by omega)]; omega
    have e2 : ((q : Int)).tdiv 10 = (p : Int) := by
      rw [Int.tdiv_eq_ediv_of_nonneg (by omega)]; omega
    have e3 : (q : Int) % 10 = (r : Int) := by omega
    have e4 : (q : Int) / 10 = (p : Int) := by omega
    have hq2 : q ≤ 9223372036854775808 := by omega
    have hp2 : p ≤ 922337203685477580 := by omega
    have K := fun T => convB1 (wr.alloc (.cells #[.int .u8 (48 + (r : Int))] T)) wr.heap.size (48 + (r : Int)) (by simp)
    have HL := Lib.hid (fun h : q = r => dec_last H.out h hr)
    have HM := Lib.hid (fun (h : q = 10 * p + r) (h2 : p ≠ 0) => dec_more H.out h hr h2)
    obtain ⟨c, hc⟩ : ∃ c, UInt8.ofNat ((48 : Int) + (r : Int)).toNat = c := ⟨_, rfl⟩
    rw [hc] at HL HM
    simp only [hc] at K
    clear hc
    have hsz : (⟨#[c]⟩ ++ sb : ByteArray).size = sb.size + 1 := by rw [ByteArray.size_append]; show 1 + sb.size = _; omega
    have HQ := Lib.hid hq
    clear hq
    by_cases hp : p = 0
    · have HE := Lib.hid (HL.out (by have := HQ.out; omega))
      subst hp
      go_wp2
      go_ret
      exact ⟨ret_s (ba_ext (by rw [itoaB_list, itoa_pos (by omega), HE.out]; rfl)), hb.alloc hb.size _⟩
    · have HE := Lib.hid (HM.out HQ.out hp)
      have p0 : ((p : Int) == 0) = false := by simp; omega
      go_wp2
      go_roundw
      case rel => exact ⟨k + 1, p, ⟨#[c]⟩ ++ sb, rfl, rfl, by go_num, by omega, HP.out, by omega, .inr hp, hb.alloc hb.size _, HE⟩
      case measure => simp [intOf]; omega

theorem refprint_neg (n : Int) (w : World) (h0 : -9223372036854775808 ≤ n) (h1 : n < 0) :
    Calls Tryd.prog 46 #[.int .i64 n] w fun e w' => e = .returned (.string (itoaB n)) ∧ Below w.heap.size w w' := by
  obtain ⟨u, hu⟩ : ∃ u : Nat, n.natAbs = u := ⟨_, rfl⟩
  have hu1 : u ≤ 9223372036854775808 := by omega
  have HU := Lib.hid hu
  have hnu : n = -(u : Int) := by omega
  have HN := Lib.hid hnu
  clear hu hnu
  go_enter Tryd.func46, Tryd.ntmps46
  go_wp2
  go_loopw [3, 4, 5] (fun s mv i wr => ∃ (k q : Nat) (m : Int) (sb : ByteArray), s = .string sb ∧ mv = .int .i64 m ∧ i = .int .i64 k ∧ Hid (m = -(q : Int)) ∧ q ≤ u ∧ q * 10 ^ k ≤ u ∧ sb.size ≤ k ∧ q ≠ 0 ∧ Below w.heap.size w wr ∧ Hid (Lib.decDigits u = Lib.decDigits q ++ sb.data.toList)) (fun _ _ i _ => 20 - (intOf i).toNat)
  case atStart => exact ⟨0, u, n, ⟨#[]⟩, rfl, rfl, rfl, HN, Nat.le_refl _, by omega, by decide, (by have := HN.out; omega), Below.refl _ _, Lib.hid (by simp)⟩
  case round =>
    obtain ⟨k, q, m, sb, rfl, rfl, rfl, HMQ, hqu, hpow, hsb, hk0, hb, H⟩ := hrel
    have hk : k < 19 := by
      rcases Nat.lt_or_ge k 19 with h | h
      · exact h
      · exfalso
        have hp := Nat.pow_le_pow_right (n := 10) (by decide) h
        have e : (10 : Nat) ^ 19 = 10000000000000000000 := by decide
        have hq1 : 1 ≤ q := by omega
        have := Nat.mul_le_mul hq1 hp
        omega
    obtain ⟨p, r, hq, hr⟩ : ∃ p r, q = 10 * p + r ∧ r < 10 := ⟨q / 10, q % 10, by omega, by omega⟩
    have HP := Lib.hid (show p * 10 ^ (k + 1) ≤ u by
      refine Nat.le_trans ?_ hpow
      rw [Nat.pow_succ, Nat.mul_comm (10 ^ k) 10, ← Nat.mul_assoc]
      exact Nat.mul_le_mul_right _ (by omega))
    clear hpow
    have hm := HMQ.out
    obtain ⟨d, e1, hd⟩ : ∃ d, m.tmod 10 = d ∧ d = -(r : Int) := ⟨_, rfl, by rw [hm, Int.neg_tmod, Int.tmod_eq_emod_of_nonneg (by omega)]; omega⟩
    obtain ⟨m2, e2, hm2⟩ : ∃ m2, m.tdiv 10 = m2 ∧ m2 = -(p : Int) := ⟨_, rfl, by rw [hm, Int.neg_tdiv, Int.tdiv_eq_ediv_of_nonneg (by omega)]; omega⟩
    have b0 : -9223372036854775808 ≤ m := by omega
    have b1 : m ≤ 0 := by omega
    have b2 : -9 ≤ d := by omega
    have b3 : d ≤ 0 := by omega
    have b4 : -922337203685477580 ≤ m2 := by omega
    have b5 : m2 ≤ 0 := by omega
    have HQ := Lib.hid hq
    have HM2 := Lib.hid hm2
    have HD := Lib.hid hd
    clear hq hm hm2 hd
    have K := fun T => convB1 (wr.alloc (.cells #[.int .u8 (48 + (r : Int))] T)) wr.heap.size (48 + (r : Int)) (by simp)
    have HL := Lib.hid (fun h : q = r => dec_last H.out h hr)
    have HM := Lib.hid (fun (h : q = 10 * p + r) (h2 : p ≠ 0) => dec_more H.out h hr h2)
    obtain ⟨c, hc⟩ : ∃ c, UInt8.ofNat ((48 : Int) + (r : Int)).toNat = c := ⟨_, rfl⟩
    rw [hc] at HL HM
    simp only [hc] at K
    have K0 := fun (h : d = (r : Int)) T => convB1 (wr.alloc (.cells #[.int .u8 (48 + d)] T)) wr.heap.size (48 + d) (by simp)
    have K1 : d = (r : Int) → ∀ T, (convert 78 9 (.slice (some ⟨wr.heap.size, 0, none⟩) 1 1)).run Tryd.prog (wr.alloc (.cells #[.int .u8 (48 + d)] T)) = .ok (.string ⟨#[c]⟩) (wr.alloc (.cells #[.int .u8 (48 + d)] T)) := fun h T => by
      have := K0 h T
      rw [h, hc] at this
      rw [h]
      exact this
    clear hc K0
    have hsz : (⟨#[c]⟩ ++ sb : ByteArray).size = sb.size + 1 := by rw [ByteArray.size_append]; show 1 + sb.size = _; omega
    have hsz2 : (⟨#[45]⟩ ++ (⟨#[c]⟩ ++ sb) : ByteArray).size = sb.size + 2 := by rw [ByteArray.size_append, hsz]; show 1 + (sb.size + 1) = _; omega
    by_cases hr0 : r = 0
    · have d0 : 0 ≤ d := by have := HD.out; omega
      have K2 := K1 (by have := HD.out; omega)
      clear K K1
      have hp : p ≠ 0 := by have := HQ.out; omega
      have p0 : (m2 == 0) = false := by have := HM2.out; simp; omega
      have HE := Lib.hid (HM.out HQ.out hp)
      go_wp2
      go_roundw
      case rel => exact ⟨k + 1, p, m2, ⟨#[c]⟩ ++ sb, rfl, rfl, by go_num, HM2, by have := HQ.out; omega, HP.out, by omega, hp, hb.alloc hb.size _, HE⟩
      case measure => simp [intOf]; omega
    · have d0 : d < 0 := by have := HD.out; omega
      clear K1
      have dn : -d = (r : Int) := by have := HD.out; omega
      by_cases hp : p = 0
      · have m0 : m2 = 0 := by have := HM2.out; omega
        have HE := Lib.hid (HL.out (by have := HQ.out; omega))
        subst hp
        subst m0
        go_wp2
        go_ret
        exact ⟨ret_s (ba_ext (by rw [itoaB_list, itoa_neg h1, HU.out, ← HE.out]; rfl)), hb.alloc hb.size _⟩
      · have p0 : (m2 == 0) = false := by have := HM2.out; simp; omega
        have HE := Lib.hid (HM.out HQ.out hp)
        go_wp2
        go_roundw
        case rel => exact ⟨k + 1, p, m2, ⟨#[c]⟩ ++ sb, rfl, rfl, by go_num, HM2, by have := HQ.out; omega, HP.out, by omega, hp, hb.alloc hb.size _, HE⟩
        case measure => simp [intOf]; omega

theorem refprint_any (n : Int) (w : World) (h0 : -9223372036854775808 ≤ n) (h1 : n ≤ 9223372036854775807) :
    Calls Tryd.prog 46 #[.int .i64 n] w fun e w' => e = .returned (.string (itoaB n)) ∧ Below w.heap.size w w' := by
  rcases Int.lt_or_le n 0 with h | h
  · exact refprint_neg n w h0 h
  · obtain ⟨u, rfl⟩ : ∃ u : Nat, n = u := ⟨n.toNat, by omega⟩
    exact refprint_pos u w (by omega)

end Go.Proofs.YtdepglceffpfhaaDoor
