/- What the document's May returns, for any book. Conditions: none. -/
import Derived.Test.YtolbihfnogbjaaaRows
import Derived.Test.YtolbihfnogbjaaaBase
import Derived.Test.YtolbihfnogbjaaaZ2
import Derived.Test.YtolbihfnogbjaaaBookNum
import Derived.Test.YtolbihfnogbjaaaBookOrd
import Derived.Test.YtolbihfnogbjaaaBookLim
import Derived.WalkKit
import Derived.WalkSpells
import Derived.WalkSmall
import Derived.Below
import Derived.Lib.Hide
import Derived.Outline
import Derived.Great.BuildSlice
import Derived.BigQuiet
import Derived.Deep.QuietTactic
namespace Go.Proofs.Ytolbihfnogbjaaa
open Go.RowKit

set_option maxRecDepth 20000 in
set_option maxHeartbeats 4000000 in
open Classical in
theorem refmay_any (x : Nat → Int) (w : World) :
    Calls Try.prog 20 #[.agg (bk x)] w fun e w' => e = .returned (.bool (if May x then true else false)) ∧ Below w.heap.size w w' := by
  obtain ⟨v, hv⟩ : ∃ v, (if May x then true else false) = v := ⟨_, rfl⟩
  rw [hv]
  have HV := Lib.hid hv
  clear hv
  go_enter Try.func20, Try.ntmps20
  go_wp2_with (first
    | refine wpList_load_bk (by rfl) 23 _ rfl _ _ rfl x _ (RdI.new x _ (by first | rfl | (simp; done))) Try.underlying23 rfl (by kernel_rfl) ?_
    | (go_at_call 31; (with_reducible refine (refnum_any x _).mono ?_); rintro e w1 ⟨g1, rfl, hg1, hr1, hb1⟩))
  have hB : Below w.heap.size w w1 := by
    (repeat (first | exact Below.refl _ _ | (refine b_st ?_ (by first | (simp; done) | (simp; omega))) | (refine b_al ?_ (Nat.le_refl _) _) | refine b_dn ?_ | refine b_dr ?_ | (refine b_cl ?_ (Nat.le_refl _) (by assumption))))
  have hq := ((RdI.new x 23 rfl).below hb1).2
  clear hb1
  go_loop [4] (fun i => ∃ k : Nat, k ≤ 19 ∧ i = .int .i64 k ∧ Hid (∀ j, j < k → lim j (x j))) (fun i => 19 - (intOf i).toNat)
  case atStart => exact ⟨0, Nat.zero_le _, rfl, Lib.hid (fun j hj => by omega)⟩
  case round =>
    obtain ⟨k, hk, rfl, H⟩ := hrel
    by_cases hlt : k < 19
    case neg =>
      have hk19 : k = 19 := by omega
      subst hk19
      clear hlt hk
      have q0 := hq 0 (by omega); have q1 := hq 1 (by omega); have q2 := hq 2 (by omega); have q3 := hq 3 (by omega); have q4 := hq 4 (by omega); have q5 := hq 5 (by omega); have q6 := hq 6 (by omega); have q7 := hq 7 (by omega); have q8 := hq 8 (by omega); have q9 := hq 9 (by omega); have q10 := hq 10 (by omega); have q11 := hq 11 (by omega); have q12 := hq 12 (by omega); have q13 := hq 13 (by omega); have q14 := hq 14 (by omega); have q15 := hq 15 (by omega); have q16 := hq 16 (by omega); have q17 := hq 17 (by omega); have q18 := hq 18 (by omega)
      clear hq hr1 hg1
      simp only [Nat.zero_add] at q0 q1 q2 q3 q4 q5 q6 q7 q8 q9 q10 q11 q12 q13 q14 q15 q16 q17 q18
      by_cases c0 : x 2 ≤ x 1
      case neg =>
        have hv : v = false := by rw [← HV.out]; exact if_neg (fun h => by have := h.2; unfold Ord at this; omega)
        clear HV H
        have n0 : x 1 < x 2 := by omega
        have d0 : decide (x 2 ≤ x 1) = false := decide_eq_false c0
        have e0 : decide (x 1 < x 2) = true := decide_eq_true n0
        clear c0
        subst hv
        go_wp2
        go_ret
        exact ⟨rfl, hB⟩
      by_cases c1 : x 3 ≤ x 1
      case neg =>
        have hv : v = false := by rw [← HV.out]; exact if_neg (fun h => by have := h.2; unfold Ord at this; omega)
        clear HV H
        have n1 : x 1 < x 3 := by omega
        have d1 : decide (x 3 ≤ x 1) = false := decide_eq_false c1
        have e1 : decide (x 1 < x 3) = true := decide_eq_true n1
        have p0 : decide (x 1 < x 2) = false := decide_eq_false (by omega)
        clear c1
        subst hv
        go_wp2
        go_ret
        exact ⟨rfl, hB⟩
      by_cases c2 : x 1 ≤ x 10
      case neg =>
        have hv : v = false := by rw [← HV.out]; exact if_neg (fun h => by have := h.2; unfold Ord at this; omega)
        clear HV H
        have n2 : x 10 < x 1 := by omega
        have d2 : decide (x 1 ≤ x 10) = false := decide_eq_false c2
        have e2 : decide (x 10 < x 1) = true := decide_eq_true n2
        have p0 : decide (x 1 < x 2) = false := decide_eq_false (by omega)
        have p1 : decide (x 1 < x 3) = false := decide_eq_false (by omega)
        clear c2
        subst hv
        go_wp2
        go_ret
        exact ⟨rfl, hB⟩
      by_cases c3 : x 10 ≤ x 8
      case neg =>
        have hv : v = false := by rw [← HV.out]; exact if_neg (fun h => by have := h.2; unfold Ord at this; omega)
        clear HV H
        have n3 : x 8 < x 10 := by omega
        have d3 : decide (x 10 ≤ x 8) = false := decide_eq_false c3
        have e3 : decide (x 8 < x 10) = true := decide_eq_true n3
        have p0 : decide (x 1 < x 2) = false := decide_eq_false (by omega)
        have p1 : decide (x 1 < x 3) = false := decide_eq_false (by omega)
        have p2 : decide (x 10 < x 1) = false := decide_eq_false (by omega)
        clear c3
        subst hv
        go_wp2
        go_ret
        exact ⟨rfl, hB⟩
      by_cases c4 : x 8 ≤ x 7
      case neg =>
        have hv : v = false := by rw [← HV.out]; exact if_neg (fun h => by have := h.2; unfold Ord at this; omega)
        clear HV H
        have n4 : x 7 < x 8 := by omega
        have d4 : decide (x 8 ≤ x 7) = false := decide_eq_false c4
        have e4 : decide (x 7 < x 8) = true := decide_eq_true n4
        have p0 : decide (x 1 < x 2) = false := decide_eq_false (by omega)
        have p1 : decide (x 1 < x 3) = false := decide_eq_false (by omega)
        have p2 : decide (x 10 < x 1) = false := decide_eq_false (by omega)
        have p3 : decide (x 8 < x 10) = false := decide_eq_false (by omega)
        clear c4
        subst hv
        go_wp2
        go_ret
        exact ⟨rfl, hB⟩
      by_cases c5 : x 7 ≤ x 13
      case neg =>
        have hv : v = false := by rw [← HV.out]; exact if_neg (fun h => by have := h.2; unfold Ord at this; omega)
        clear HV H
        have n5 : x 13 < x 7 := by omega
        have d5 : decide (x 7 ≤ x 13) = false := decide_eq_false c5
        have e5 : decide (x 13 < x 7) = true := decide_eq_true n5
        have p0 : decide (x 1 < x 2) = false := decide_eq_false (by omega)
        have p1 : decide (x 1 < x 3) = false := decide_eq_false (by omega)
        have p2 : decide (x 10 < x 1) = false := decide_eq_false (by omega)
        have p3 : decide (x 8 < x 10) = false := decide_eq_false (by omega)
        have p4 : decide (x 7 < x 8) = false := decide_eq_false (by omega)
        clear c5
        subst hv
        go_wp2
        go_ret
        exact ⟨rfl, hB⟩
      by_cases c6 : x 13 ≤ x 12
      case neg =>
        have hv : v = false := by rw [← HV.out]; exact if_neg (fun h => by have := h.2; unfold Ord at this; omega)
        clear HV H
        have n6 : x 12 < x 13 := by omega
        have d6 : decide (x 13 ≤ x 12) = false := decide_eq_false c6
        have e6 : decide (x 12 < x 13) = true := decide_eq_true n6
        have p0 : decide (x 1 < x 2) = false := decide_eq_false (by omega)
        have p1 : decide (x 1 < x 3) = false := decide_eq_false (by omega)
        have p2 : decide (x 10 < x 1) = false := decide_eq_false (by omega)
        have p3 : decide (x 8 < x 10) = false := decide_eq_false (by omega)
        have p4 : decide (x 7 < x 8) = false := decide_eq_false (by omega)
        have p5 : decide (x 13 < x 7) = false := decide_eq_false (by omega)
        clear c6
        subst hv
        go_wp2
        go_ret
        exact ⟨rfl, hB⟩
      by_cases c7 : x 4 ≤ x 5
      case neg =>
        have hv : v = false := by rw [← HV.out]; exact if_neg (fun h => by have := h.2; unfold Ord at this; omega)
        clear HV H
        have n7 : x 5 < x 4 := by omega
        have d7 : decide (x 4 ≤ x 5) = false := decide_eq_false c7
        have e7 : decide (x 5 < x 4) = true := decide_eq_true n7
        have p0 : decide (x 1 < x 2) = false := decide_eq_false (by omega)
        have p1 : decide (x 1 < x 3) = false := decide_eq_false (by omega)
        have p2 : decide (x 10 < x 1) = false := decide_eq_false (by omega)
        have p3 : decide (x 8 < x 10) = false := decide_eq_false (by omega)
        have p4 : decide (x 7 < x 8) = false := decide_eq_false (by omega)
        have p5 : decide (x 13 < x 7) = false := decide_eq_false (by omega)
        have p6 : decide (x 12 < x 13) = false := decide_eq_false (by omega)
        clear c7
        subst hv
        go_wp2
        go_ret
        exact ⟨rfl, hB⟩
      by_cases c8 : x 8 < x 11
      case neg =>
        have hv : v = false := by rw [← HV.out]; exact if_neg (fun h => by have := h.2; unfold Ord at this; omega)
        clear HV H
        have n8 : x 11 ≤ x 8 := by omega
        have d8 : decide (x 8 < x 11) = false := decide_eq_false c8
        have e8 : decide (x 11 ≤ x 8) = true := decide_eq_true n8
        have p0 : decide (x 1 < x 2) = false := decide_eq_false (by omega)
        have p1 : decide (x 1 < x 3) = false := decide_eq_false (by omega)
        have p2 : decide (x 10 < x 1) = false := decide_eq_false (by omega)
        have p3 : decide (x 8 < x 10) = false := decide_eq_false (by omega)
        have p4 : decide (x 7 < x 8) = false := decide_eq_false (by omega)
        have p5 : decide (x 13 < x 7) = false := decide_eq_false (by omega)
        have p6 : decide (x 12 < x 13) = false := decide_eq_false (by omega)
        have p7 : decide (x 5 < x 4) = false := decide_eq_false (by omega)
        clear c8
        subst hv
        go_wp2
        go_ret
        exact ⟨rfl, hB⟩
      have hv : v = true := by rw [← HV.out]; exact if_pos ⟨H.out, by unfold Ord; omega⟩
      clear HV H
      have p0 : decide (x 1 < x 2) = false := decide_eq_false (by omega)
      have p1 : decide (x 1 < x 3) = false := decide_eq_false (by omega)
      have p2 : decide (x 10 < x 1) = false := decide_eq_false (by omega)
      have p3 : decide (x 8 < x 10) = false := decide_eq_false (by omega)
      have p4 : decide (x 7 < x 8) = false := decide_eq_false (by omega)
      have p5 : decide (x 13 < x 7) = false := decide_eq_false (by omega)
      have p6 : decide (x 12 < x 13) = false := decide_eq_false (by omega)
      have p7 : decide (x 5 < x 4) = false := decide_eq_false (by omega)
      have p8 : decide (x 11 ≤ x 8) = false := decide_eq_false (by omega)
      subst hv
      go_wp2
      go_ret
      exact ⟨rfl, hB⟩
    clear hq
    have hc := hr1.2 k hlt
    rw [Nat.zero_add] at hc
    obtain ⟨n, hn⟩ : ∃ n, x k = n := ⟨_, rfl⟩
    rw [hn] at hc
    have hn := Lib.hid hn
    by_cases k0 : k = 6
    case pos =>
      have e6 : ((k : Int) == 6) = true := by simp; omega
      have L : lim k n ↔ 0 ≤ n ∧ n ≤ 1000 := (lim_count (by omega))
      clear k0
      by_cases lo : n < 0
      case pos =>
        have dl : decide (n < 0) = true := decide_eq_true lo
        have LN : Hid (¬ lim k n) := Lib.hid (fun h => by have := L.1 h; omega)
        clear L
        go_wp2
        go_ret
        refine ⟨?_, hB⟩
        rw [← HV.out, if_neg (fun h => LN.out (by have := h.1 k hlt; rwa [hn.out] at this))]; rfl
      have lo' : 0 ≤ n := by omega
      have dl : decide (n < 0) = false := decide_eq_false lo
      clear lo
      by_cases hi : 1000 < n
      case pos =>
        have dh : decide (1000 < n) = true := decide_eq_true hi
        have LN : Hid (¬ lim k n) := Lib.hid (fun h => by have := L.1 h; omega)
        clear L
        go_wp2
        go_ret
        refine ⟨?_, hB⟩
        rw [← HV.out, if_neg (fun h => LN.out (by have := h.1 k hlt; rwa [hn.out] at this))]; rfl
      have hi' : n ≤ 1000 := by omega
      have dh : decide (1000 < n) = false := decide_eq_false hi
      have LY : Hid (lim k n) := Lib.hid (L.2 ⟨lo', hi'⟩)
      clear L hi
      go_wp2
      go_round
      case rel => exact ⟨k + 1, by omega, by go_num, Lib.hid (fun j hj => by
          by_cases e : j = k
          · subst e; rw [hn.out]; exact LY.out
          · exact H.out j (by omega))⟩
      case measure => simp [intOf]; omega
    by_cases k1 : k = 9
    case pos =>
      have e6 : ((k : Int) == 6) = false := by simp; omega
      have e9 : ((k : Int) == 9) = true := by simp; omega
      have L : lim k n ↔ 0 ≤ n ∧ n ≤ 1000 := (lim_count (by omega))
      clear k1
      by_cases lo : n < 0
      case pos =>
        have dl : decide (n < 0) = true := decide_eq_true lo
        have LN : Hid (¬ lim k n) := Lib.hid (fun h => by have := L.1 h; omega)
        clear L
        go_wp2
        go_ret
        refine ⟨?_, hB⟩
        rw [← HV.out, if_neg (fun h => LN.out (by have := h.1 k hlt; rwa [hn.out] at this))]; rfl
      have lo' : 0 ≤ n := by omega
      have dl : decide (n < 0) = false := decide_eq_false lo
      clear lo
      by_cases hi : 1000 < n
      case pos =>
        have dh : decide (1000 < n) = true := decide_eq_true hi
        have LN : Hid (¬ lim k n) := Lib.hid (fun h => by have := L.1 h; omega)
        clear L
        go_wp2
        go_ret
        refine ⟨?_, hB⟩
        rw [← HV.out, if_neg (fun h => LN.out (by have := h.1 k hlt; rwa [hn.out] at this))]; rfl
      have hi' : n ≤ 1000 := by omega
      have dh : decide (1000 < n) = false := decide_eq_false hi
      have LY : Hid (lim k n) := Lib.hid (L.2 ⟨lo', hi'⟩)
      clear L hi
      go_wp2
      go_round
      case rel => exact ⟨k + 1, by omega, by go_num, Lib.hid (fun j hj => by
          by_cases e : j = k
          · subst e; rw [hn.out]; exact LY.out
          · exact H.out j (by omega))⟩
      case measure => simp [intOf]; omega
    have e6 : ((k : Int) == 6) = false := by simp; omega
    have e9 : ((k : Int) == 9) = false := by simp; omega
    have L : lim k n ↔ 1 ≤ n ∧ n ≤ 40320 := (lim_time (by omega))
    by_cases lo : n < 1
    case pos =>
      have dl : decide (n < 1) = true := decide_eq_true lo
      have LN : Hid (¬ lim k n) := Lib.hid (fun h => by have := L.1 h; omega)
      clear L
      go_wp2
      go_ret
      refine ⟨?_, hB⟩
      rw [← HV.out, if_neg (fun h => LN.out (by have := h.1 k hlt; rwa [hn.out] at this))]; rfl
    have lo' : 1 ≤ n := by omega
    have dl : decide (n < 1) = false := decide_eq_false lo
    clear lo
    by_cases hi : 40320 < n
    case pos =>
      have dh : decide (40320 < n) = true := decide_eq_true hi
      have LN : Hid (¬ lim k n) := Lib.hid (fun h => by have := L.1 h; omega)
      clear L
      go_wp2
      go_ret
      refine ⟨?_, hB⟩
      rw [← HV.out, if_neg (fun h => LN.out (by have := h.1 k hlt; rwa [hn.out] at this))]; rfl
    have hi' : n ≤ 40320 := by omega
    have dh : decide (40320 < n) = false := decide_eq_false hi
    have LY : Hid (lim k n) := Lib.hid (L.2 ⟨lo', hi'⟩)
    clear L hi
    go_wp2
    go_round
    case rel => exact ⟨k + 1, by omega, by go_num, Lib.hid (fun j hj => by
        by_cases e : j = k
        · subst e; rw [hn.out]; exact LY.out
        · exact H.out j (by omega))⟩
    case measure => simp [intOf]; omega

end Go.Proofs.Ytolbihfnogbjaaa
