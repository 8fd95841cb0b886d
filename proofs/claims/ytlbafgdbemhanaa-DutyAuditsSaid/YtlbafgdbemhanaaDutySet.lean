/- What Set of layer 16 returns, for any findings, and its check. Conditions: the findings and the records can be read; at most a million. -/
import Derived.Test.YtlbafgdbemhanaaRows
import Derived.Test.YtlbafgdbemhanaaBase
import Derived.Test.YtlbafgdbemhanaaZ2
import Derived.Test.YtlbafgdbemhanaaBookLim
import Derived.Test.YtlbafgdbemhanaaZ1
import Derived.Test.YtlbafgdbemhanaaRecCheck
import Derived.Test.YtlbafgdbemhanaaZ3
import Derived.WalkKit
import Derived.WalkSpells
import Derived.WalkSmall
import Derived.Below
import Derived.Outline
import Derived.OwnWalk
import Derived.Lib.Hide
namespace Go.Proofs.Ytlbafgdbemhanaa
open Go.RowKit

theorem or_nat16 (a b : Nat) (ha : a < 65536) (hb : b < 65536) : bits .or .i64 (a : Int) (b : Int) = ((a ||| b : Nat) : Int) := by
  have hx : a ||| b < 2 ^ 16 := Nat.or_lt_two_pow (n := 16) (by omega) (by omega)
  show IntKind.i64.wrap ((BitVec.ofInt 64 (a : Int) ||| BitVec.ofInt 64 (b : Int)).toNat : Int) = _
  rw [BitVec.toNat_or, ofInt_n64 a (by omega), ofInt_n64 b (by omega)]
  generalize a ||| b = c at hx
  have : IntKind.i64.wrap (c : Int) = (c : Int) := by
    simp [IntKind.wrap, IntKind.bits, IntKind.signed]
    omega
  exact this
theorem pow_lt16 {k : Nat} (hk : k < 16) : 2 ^ k < 65536 := Nat.pow_lt_pow_right (m := k) (n := 16) (by omega) hk
theorem shl_one {k : Nat} (hk : k < 16) : IntKind.i64.wrap (2 ^ k) = ((2 ^ k : Nat) : Int) := by
  have h := pow_lt16 hk
  have e : (2 : Int) ^ k = ((2 ^ k : Nat) : Int) := by rw [Int.natCast_pow]; rfl
  rw [e]
  generalize 2 ^ k = c at h
  simp [IntKind.wrap, IntKind.bits, IntKind.signed]
  omega

set_option maxRecDepth 20000 in
set_option maxHeartbeats 1000000 in
theorem set16_any (A : Option Addr) (c n : Nat) (l : List Rc) (w : World) (hn : l.length = n) (hr : RdF w A l) (hl : n ≤ 1000000) :
    Calls Try.prog 14 #[.slice A n c] w fun e w' => e = .returned (.int .i64 (setL l : Nat)) ∧ Below w.heap.size w w' := by
  have HR := Lib.hid hr
  have HN := Lib.hid hn
  clear hn hr
  go_enter Try.func14, Try.ntmps14
  go_wp2
  go_loopw [3, 8] (fun v i wr => ∃ k s : Nat, k ≤ n ∧ i = .int .i64 k ∧ v = .int .i64 (s : Nat) ∧ Hid (setL (l.take k) = s) ∧ s < 65536 ∧ Hid (Below w.heap.size w wr)) (fun _ i _ => n - (intOf i).toNat)
  case atStart => exact ⟨0, 0, Nat.zero_le _, rfl, rfl, Lib.hid rfl, by decide, Lib.hid (Below.refl _ _)⟩
  case round =>
    obtain ⟨k, s, hk, rfl, rfl, HS, hs, hb⟩ := hrel
    obtain ⟨w3, rfl⟩ : ∃ w3 : World, w3 = wr := ⟨_, rfl⟩
    by_cases hlt : k < n
    · have hlt' : k < l.length := by rw [HN.out]; exact hlt
      obtain ⟨b, off, x, y, z, rfl, hbb, hc0, hc1, hc2, hq⟩ := HR.out.at_ hlt'
      rw [← hb.out.cell (p := ⟨b, _, none⟩) hbb] at hc0 hc1 hc2
      have hbr : b < w3.heap.size := by have := hb.out.size; omega
      have ST := setL_take hlt' hq.out
      rw [HS.out] at ST
      have HB := Lib.hid (hb.out.alloc hb.out.size (.cells #[.int .i64 x, .int .i64 y, .int .i64 z] 40))
      by_cases hc : isC x
      · rw [if_pos hc] at ST
        obtain ⟨q, hq16, rfl⟩ := isC_of hc
        rw [Int.toNat_natCast] at ST
        have hp := pow_lt16 hq16
        have e1 := shl_one hq16
        have e2 := or_nat16 s (2 ^ q) hs hp
        have hs2 : s ||| 2 ^ q < 65536 := Nat.or_lt_two_pow (n := 16) (by omega) (by omega)
        have g1 : decide ((0 : Int) ≤ (q : Int)) = true := decide_eq_true (by omega)
        have g2 : decide ((q : Int) < 16) = true := decide_eq_true (by omega)
        have g3 : (0 : Int) ≤ (q : Int) := by omega
        have g4 : (q : Int) < 16 := by omega
        have HST := Lib.hid ST
        clear hc ST hp
        go_wp2
        go_roundw
        case rel => exact ⟨k + 1, s ||| 2 ^ q, by omega, by go_num, by simp_all, Lib.hid HST.out, hs2, HB⟩
        case measure => simp [intOf]; omega
      · rw [if_neg hc] at ST
        have HST := Lib.hid ST
        clear ST
        by_cases h0 : 0 ≤ x
        · have h1 : ¬ x < 16 := fun h => hc ⟨h0, h⟩
          clear hc
          go_wp2
          go_roundw
          case rel => exact ⟨k + 1, s, by omega, by go_num, rfl, Lib.hid HST.out, hs, HB⟩
          case measure => simp [intOf]; omega
        · clear hc
          go_wp2
          go_roundw
          case rel => exact ⟨k + 1, s, by omega, by go_num, rfl, Lib.hid HST.out, hs, HB⟩
          case measure => simp [intOf]; omega
    · obtain rfl : k = n := by omega
      have e : setL l = s := by
        have := HS.out
        rwa [List.take_of_length_le (Nat.le_of_eq HN.out)] at this
      go_wp2
      go_ret
      exact ⟨by rw [e]; rfl, hb.out⟩

open Classical in
/-- What is wrong with the book, or with the timeline. -/
noncomputable def dcheckV (x : Nat → Int) (l : List Rc) : Int := if May x then (if (checkV l).2 = 0 then (if beg l = 0 then 0 else 5) else (checkV l).2) else 14

theorem beg_at16 {l : List Rc} {y : Int} (h : 0 < l.length) (hy : (l.getD 0 rz).2.1 = y) : beg l = y := by
  cases l with
  | nil => cases h
  | cons r l => exact hy

section
variable (x : Nat → Int) (A : Option Addr) (c : Nat) (l : List Rc) (w : World) (h : RdR w A l) (hl : l.length ≤ 1000000)
include h hl

set_option maxRecDepth 100000 in
set_option maxHeartbeats 1000000 in
theorem dcheck_any : Calls Try.prog 22 #[.agg (bk x), .slice A l.length c] w fun e w' => e = .returned (.int .i64 (dcheckV x l)) ∧ Below w.heap.size w w' := by
  have C1 : ∀ W, Calls Try.prog 33 #[.agg (bk x)] W _ := fun W => check7_any x W
  have RB : RdI (w.alloc (.cells (bk x) 23)) w.heap.size 0 x := RdI.new x 23 rfl
  have hB0 : Below w.heap.size w (w.alloc (.cells (bk x) 23)) := b_al (Below.refl _ _) (Nat.le_refl _) _
  unfold dcheckV
  by_cases hx : May x
  case neg =>
    simp only [if_neg hx] at C1 ⊢
    clear hx
    go_enter Try.func22, Try.ntmps22
    go_wp2_with (first | refine wpList_load_bk (by rfl) 23 _ rfl _ _ rfl x _ (by assumption) Try.underlying23 rfl (by kernel_rfl) ?_ | (go_at_call 33; (with_reducible refine (C1 _).mono ?_); rintro e w1 ⟨rfl, hb1⟩))
    go_ret
    exact ⟨rfl, b_cl hB0 (Nat.le_refl _) hb1⟩
  simp only [if_pos hx] at C1 ⊢
  clear hx
  have C2 := fun W h => rcheck_any A c l W h (by omega)
  generalize ((checkV l).1 : Int) = pl at C2
  by_cases he : (checkV l).2 = 0
  case neg =>
    rw [if_neg he]
    generalize (checkV l).2 = er at C2 he ⊢
    have ne : (er != 0) = true := by simpa using he
    have ne2 : (er == 0) = false := by simpa using he
    clear he
    go_enter Try.func22, Try.ntmps22
    go_wp2_with (first | refine wpList_load_bk (by rfl) 23 _ rfl _ _ rfl x _ (by assumption) Try.underlying23 rfl (by kernel_rfl) ?_ | (go_at_call 33; (with_reducible refine (C1 _).mono ?_); rintro e w1 ⟨rfl, hb1⟩; have B1 := b_cl hB0 (Nat.le_refl _) hb1) | (go_at_call 34; (with_reducible refine (C2 _ (h.below B1)).mono ?_); rintro e w2 ⟨rfl, hb2⟩))
    go_ret
    exact ⟨rfl, b_cl B1 (Nat.le_refl _) hb2⟩
  rw [if_pos he]
  rw [he] at C2
  clear he
  by_cases h0 : l.length = 0
  case pos =>
    obtain rfl := List.eq_nil_of_length_eq_zero h0
    rw [if_pos (show beg [] = 0 from rfl)]
    clear h0
    simp only [List.length_nil] at C2 ⊢
    go_enter Try.func22, Try.ntmps22
    go_wp2_with (first | refine wpList_load_bk (by rfl) 23 _ rfl _ _ rfl x _ (by assumption) Try.underlying23 rfl (by kernel_rfl) ?_ | (go_at_call 33; (with_reducible refine (C1 _).mono ?_); rintro e w1 ⟨rfl, hb1⟩; have B1 := b_cl hB0 (Nat.le_refl _) hb1) | (go_at_call 34; (with_reducible refine (C2 _ (h.below B1)).mono ?_); rintro e w2 ⟨rfl, hb2⟩))
    go_ret
    exact ⟨rfl, b_cl B1 (Nat.le_refl _) hb2⟩
  have h0' : 0 < l.length := by omega
  have g0 : decide ((0 : Int) < (l.length : Int)) = true := decide_eq_true (by omega)
  have hlt0 : (0 : Int) < (l.length : Int) := by omega
  obtain ⟨b, off, q1, q2, q3, rfl, hbb, hc0, hc1, hc2, hs⟩ := h.at_ h0'
  simp only [Nat.zero_mul, Nat.add_zero] at hc0 hc1 hc2
  have hq : beg l = q2 := beg_at16 h0' (y := q2) (by rw [hs.out])
  rw [hq]
  obtain ⟨r, hr⟩ : ∃ r : Int, (if q2 = 0 then (0 : Int) else 5) = r := ⟨_, rfl⟩
  rw [hr]
  have hr2 : (q2 != 0) = (r == 5) := by
    rw [← hr]
    by_cases hz : q2 = 0
    · simp [hz]
    · simp [hz]
  have hr3 : r = 0 ∨ r = 5 := by rw [← hr]; split <;> simp
  clear hr hq hs hc0 hc2 h0 h0'
  obtain ⟨n, hn⟩ : ∃ n, l.length = n := ⟨_, rfl⟩
  rw [hn] at hlt0 g0 C2 ⊢
  clear hn
  rcases hr3 with rfl | rfl
  · have ne : (q2 != 0) = false := by rw [hr2]; rfl
    have ne2 : (q2 == 0) = true := by simpa using ne
    clear hr2
    go_enter Try.func22, Try.ntmps22
    go_wp2_with (first | refine wpList_load_bk (by rfl) 23 _ rfl _ _ rfl x _ (by assumption) Try.underlying23 rfl (by kernel_rfl) ?_ | (go_at_call 33; (with_reducible refine (C1 _).mono ?_); rintro e w1 ⟨rfl, hb1⟩; have B1 := b_cl hB0 (Nat.le_refl _) hb1) | (go_at_call 34; (with_reducible refine (C2 _ (h.below B1)).mono ?_); rintro e w2 ⟨rfl, hb2⟩; have B2 := b_cl B1 (Nat.le_refl _) hb2; have hc1 := (B2.cell (p := ⟨b, off + 1, none⟩) hbb).trans hc1))
    go_ret
    exact ⟨rfl, B2⟩
  · have ne : (q2 != 0) = true := by rw [hr2]; rfl
    have ne2 : (q2 == 0) = false := by simpa using ne
    clear hr2
    go_enter Try.func22, Try.ntmps22
    go_wp2_with (first | refine wpList_load_bk (by rfl) 23 _ rfl _ _ rfl x _ (by assumption) Try.underlying23 rfl (by kernel_rfl) ?_ | (go_at_call 33; (with_reducible refine (C1 _).mono ?_); rintro e w1 ⟨rfl, hb1⟩; have B1 := b_cl hB0 (Nat.le_refl _) hb1) | (go_at_call 34; (with_reducible refine (C2 _ (h.below B1)).mono ?_); rintro e w2 ⟨rfl, hb2⟩; have B2 := b_cl B1 (Nat.le_refl _) hb2; have hc1 := (B2.cell (p := ⟨b, off + 1, none⟩) hbb).trans hc1))
    go_ret
    exact ⟨rfl, B2⟩
end

end Go.Proofs.Ytlbafgdbemhanaa
