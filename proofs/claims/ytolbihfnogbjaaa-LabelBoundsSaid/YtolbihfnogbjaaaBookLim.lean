/- What within and Check of layer 7 return, for any book. Conditions: none. -/
import Derived.Test.YtolbihfnogbjaaaRows
import Derived.Test.YtolbihfnogbjaaaBase
import Derived.Test.YtolbihfnogbjaaaZ2
import Derived.Test.YtolbihfnogbjaaaBookNum
import Derived.Test.YtolbihfnogbjaaaBookOrd
import Derived.WalkKit
import Derived.WalkSpells
import Derived.WalkSmall
import Derived.Below
import Derived.Lib.Hide
import Derived.Outline
import Derived.Great.BuildSlice
import Derived.BigQuiet
import Derived.Deep.QuietTactic
namespace Go.Proofs.Ytolbihfnogbjaaa
open Go.RowKit

set_option maxRecDepth 20000 in
set_option maxHeartbeats 1600000 in
open Classical in
theorem within_any (x : Nat → Int) (w : World) :
    Calls Try.prog 33 #[.agg (bk x)] w fun e w' => e = .returned (.bool (if ∀ i, i < 19 → lim i (x i) then true else false)) ∧ Below w.heap.size w w' := by
  obtain ⟨v, hv⟩ : ∃ v, (if ∀ i, i < 19 → lim i (x i) then true else false) = v := ⟨_, rfl⟩
  rw [hv]
  have HV := Lib.hid hv
  clear hv
  go_enter Try.func33, Try.ntmps33
  go_wp2_with (refine wpList_load_bk (by rfl) 87 _ rfl _ _ rfl x _ (RdI.new x _ (by first | rfl | (simp; done))) Try.underlying87 rfl (by kernel_rfl) ?_)
  go_loop [8] (fun i => ∃ k : Nat, k ≤ 19 ∧ i = .int .i64 k ∧ Hid (∀ j, j < k → lim j (x j))) (fun i => 19 - (intOf i).toNat)
  case atStart => exact ⟨0, Nat.zero_le _, rfl, Lib.hid (fun j hj => by omega)⟩
  case round =>
    obtain ⟨k, hk, rfl, H⟩ := hrel
    by_cases hlt : k < 19
    case neg =>
      have hk19 : k = 19 := by omega
      subst hk19
      go_wp2
      go_ret
      refine ⟨?_, (Below.refl _ _).alloc (Nat.le_refl _) _⟩
      rw [← HV.out, if_pos H.out]; rfl
    have hi0 := fun W => index_any x W k hlt
    obtain ⟨n, hn⟩ : ∃ n, x k = n := ⟨_, rfl⟩
    rw [hn] at hi0
    have hn := Lib.hid hn
    by_cases k0 : k = 6
    case pos =>
      have e6 : ((k : Int) == 6) = true := by simp; omega
      have L : lim k n ↔ 0 ≤ n ∧ n ≤ 1000 := (lim_count (by omega))
      clear k0
      by_cases lo : n < 0
      case pos =>
        have dl : decide (n < 0) = true := decide_eq_true lo
        have LN : Hid (¬ lim k n) := Lib.hid (fun h => by have := L.1 h; omega)
        clear L
        go_wp2
        go_ret
        refine ⟨?_, (Below.refl _ _).alloc (Nat.le_refl _) _⟩
        rw [← HV.out, if_neg (fun h => LN.out (by have := h k hlt; rwa [hn.out] at this))]; rfl
      have lo' : 0 ≤ n := by omega
      have dl : decide (n < 0) = false := decide_eq_false lo
      clear lo
      by_cases hi : 1000 < n
      case pos =>
        have dh : decide (1000 < n) = true := decide_eq_true hi
        have LN : Hid (¬ lim k n) := Lib.hid (fun h => by have := L.1 h; omega)
        clear L
        go_wp2
        go_ret
        refine ⟨?_, (Below.refl _ _).alloc (Nat.le_refl _) _⟩
        rw [← HV.out, if_neg (fun h => LN.out (by have := h k hlt; rwa [hn.out] at this))]; rfl
      have hi' : n ≤ 1000 := by omega
      have dh : decide (1000 < n) = false := decide_eq_false hi
      have LY : Hid (lim k n) := Lib.hid (L.2 ⟨lo', hi'⟩)
      clear L hi
      go_wp2
      go_round
      case rel => exact ⟨k + 1, by omega, by go_num, Lib.hid (fun j hj => by
          by_cases e : j = k
          · subst e; rw [hn.out]; exact LY.out
          · exact H.out j (by omega))⟩
      case measure => simp [intOf]; omega
    by_cases k1 : k = 9
    case pos =>
      have e6 : ((k : Int) == 6) = false := by simp; omega
      have e9 : ((k : Int) == 9) = true := by simp; omega
      have L : lim k n ↔ 0 ≤ n ∧ n ≤ 1000 := (lim_count (by omega))
      clear k1
      by_cases lo : n < 0
      case pos =>
        have dl : decide (n < 0) = true := decide_eq_true lo
        have LN : Hid (¬ lim k n) := Lib.hid (fun h => by have := L.1 h; omega)
        clear L
        go_wp2
        go_ret
        refine ⟨?_, (Below.refl _ _).alloc (Nat.le_refl _) _⟩
        rw [← HV.out, if_neg (fun h => LN.out (by have := h k hlt; rwa [hn.out] at this))]; rfl
      have lo' : 0 ≤ n := by omega
      have dl : decide (n < 0) = false := decide_eq_false lo
      clear lo
      by_cases hi : 1000 < n
      case pos =>
        have dh : decide (1000 < n) = true := decide_eq_true hi
        have LN : Hid (¬ lim k n) := Lib.hid (fun h => by have := L.1 h; omega)
        clear L
        go_wp2
        go_ret
        refine ⟨?_, (Below.refl _ _).alloc (Nat.le_refl _) _⟩
        rw [← HV.out, if_neg (fun h => LN.out (by have := h k hlt; rwa [hn.out] at this))]; rfl
      have hi' : n ≤ 1000 := by omega
      have dh : decide (1000 < n) = false := decide_eq_false hi
      have LY : Hid (lim k n) := Lib.hid (L.2 ⟨lo', hi'⟩)
      clear L hi
      go_wp2
      go_round
      case rel => exact ⟨k + 1, by omega, by go_num, Lib.hid (fun j hj => by
          by_cases e : j = k
          · subst e; rw [hn.out]; exact LY.out
          · exact H.out j (by omega))⟩
      case measure => simp [intOf]; omega
    have e6 : ((k : Int) == 6) = false := by simp; omega
    have e9 : ((k : Int) == 9) = false := by simp; omega
    have L : lim k n ↔ 1 ≤ n ∧ n ≤ 40320 := (lim_time (by omega))
    by_cases lo : n < 1
    case pos =>
      have dl : decide (n < 1) = true := decide_eq_true lo
      have LN : Hid (¬ lim k n) := Lib.hid (fun h => by have := L.1 h; omega)
      clear L
      go_wp2
      go_ret
      refine ⟨?_, (Below.refl _ _).alloc (Nat.le_refl _) _⟩
      rw [← HV.out, if_neg (fun h => LN.out (by have := h k hlt; rwa [hn.out] at this))]; rfl
    have lo' : 1 ≤ n := by omega
    have dl : decide (n < 1) = false := decide_eq_false lo
    clear lo
    by_cases hi : 40320 < n
    case pos =>
      have dh : decide (40320 < n) = true := decide_eq_true hi
      have LN : Hid (¬ lim k n) := Lib.hid (fun h => by have := L.1 h; omega)
      clear L
      go_wp2
      go_ret
      refine ⟨?_, (Below.refl _ _).alloc (Nat.le_refl _) _⟩
      rw [← HV.out, if_neg (fun h => LN.out (by have := h k hlt; rwa [hn.out] at this))]; rfl
    have hi' : n ≤ 40320 := by omega
    have dh : decide (40320 < n) = false := decide_eq_false hi
    have LY : Hid (lim k n) := Lib.hid (L.2 ⟨lo', hi'⟩)
    clear L hi
    go_wp2
    go_round
    case rel => exact ⟨k + 1, by omega, by go_num, Lib.hid (fun j hj => by
        by_cases e : j = k
        · subst e; rw [hn.out]; exact LY.out
        · exact H.out j (by omega))⟩
    case measure => simp [intOf]; omega

set_option maxRecDepth 20000 in
open Classical in
theorem check7_any (x : Nat → Int) (w : World) :
    Calls Try.prog 23 #[.agg (bk x)] w fun e w' => e = .returned (.int .i64 (if May x then 0 else 14)) ∧ Below w.heap.size w w' := by
  have C1 := fun W => within_any x W
  have C2 := fun W => ordered_any x W
  unfold May
  by_cases hw : ∀ i, i < 19 → lim i (x i)
  case neg =>
    rw [if_neg hw] at C1
    rw [if_neg (fun h => hw h.1)]
    clear hw
    go_enter Try.func23, Try.ntmps23
    go_wp2_with (first
      | refine wpList_load_bk (by rfl) 23 _ rfl _ _ rfl x _ (RdI.new x _ (by first | rfl | (simp; done))) Try.underlying23 rfl (by kernel_rfl) ?_
      | refine wpList_load_bk (by rfl) 23 _ rfl _ _ rfl x _ (hr2) Try.underlying23 rfl (by kernel_rfl) ?_
      | (go_at_call 34; (with_reducible refine (laid_any x _).mono ?_); rintro e w1 ⟨rfl, hb1⟩; have hr1 := (RdI.new x 23 rfl).below hb1; have hz1 := hb1.size; (try simp at hz1))
      | (go_at_call 33; (with_reducible refine (C1 _).mono ?_); rintro e w2 ⟨rfl, hb2⟩; have hr2 := hr1.below hb2; have hz2 := hb2.size; (try simp at hz2))
      | (go_at_call 35; (with_reducible refine (C2 _).mono ?_); rintro e w3 ⟨rfl, hb3⟩; have hz3 := hb3.size; (try simp at hz3)))
    go_ret
    refine ⟨rfl, ?_⟩
    (repeat (first | exact Below.refl _ _ | (refine b_st ?_ (by first | (simp; done) | (simp; omega))) | (refine b_al ?_ (Nat.le_refl _) _) | refine b_dn ?_ | refine b_dr ?_ | (refine b_cl ?_ (Nat.le_refl _) (by assumption))))
  by_cases ho : Ord x
  case neg =>
    rw [if_pos hw] at C1
    rw [if_neg ho] at C2
    rw [if_neg (fun h => ho h.2)]
    clear hw ho
    go_enter Try.func23, Try.ntmps23
    go_wp2_with (first
      | refine wpList_load_bk (by rfl) 23 _ rfl _ _ rfl x _ (RdI.new x _ (by first | rfl | (simp; done))) Try.underlying23 rfl (by kernel_rfl) ?_
      | refine wpList_load_bk (by rfl) 23 _ rfl _ _ rfl x _ (hr2) Try.underlying23 rfl (by kernel_rfl) ?_
      | (go_at_call 34; (with_reducible refine (laid_any x _).mono ?_); rintro e w1 ⟨rfl, hb1⟩; have hr1 := (RdI.new x 23 rfl).below hb1; have hz1 := hb1.size; (try simp at hz1))
      | (go_at_call 33; (with_reducible refine (C1 _).mono ?_); rintro e w2 ⟨rfl, hb2⟩; have hr2 := hr1.below hb2; have hz2 := hb2.size; (try simp at hz2))
      | (go_at_call 35; (with_reducible refine (C2 _).mono ?_); rintro e w3 ⟨rfl, hb3⟩; have hz3 := hb3.size; (try simp at hz3)))
    go_ret
    refine ⟨rfl, ?_⟩
    (repeat (first | exact Below.refl _ _ | (refine b_st ?_ (by first | (simp; done) | (simp; omega))) | (refine b_al ?_ (Nat.le_refl _) _) | refine b_dn ?_ | refine b_dr ?_ | (refine b_cl ?_ (Nat.le_refl _) (by assumption))))
  rw [if_pos hw] at C1
  rw [if_pos ho] at C2
  rw [if_pos ⟨hw, ho⟩]
  clear hw ho
  go_enter Try.func23, Try.ntmps23
  go_wp2_with (first
    | refine wpList_load_bk (by rfl) 23 _ rfl _ _ rfl x _ (RdI.new x _ (by first | rfl | (simp; done))) Try.underlying23 rfl (by kernel_rfl) ?_
    | refine wpList_load_bk (by rfl) 23 _ rfl _ _ rfl x _ (hr2) Try.underlying23 rfl (by kernel_rfl) ?_
    | (go_at_call 34; (with_reducible refine (laid_any x _).mono ?_); rintro e w1 ⟨rfl, hb1⟩; have hr1 := (RdI.new x 23 rfl).below hb1; have hz1 := hb1.size; (try simp at hz1))
    | (go_at_call 33; (with_reducible refine (C1 _).mono ?_); rintro e w2 ⟨rfl, hb2⟩; have hr2 := hr1.below hb2; have hz2 := hb2.size; (try simp at hz2))
    | (go_at_call 35; (with_reducible refine (C2 _).mono ?_); rintro e w3 ⟨rfl, hb3⟩; have hz3 := hb3.size; (try simp at hz3)))
  go_ret
  refine ⟨rfl, ?_⟩
  (repeat (first | exact Below.refl _ _ | (refine b_st ?_ (by first | (simp; done) | (simp; omega))) | (refine b_al ?_ (Nat.le_refl _) _) | refine b_dn ?_ | refine b_dr ?_ | (refine b_cl ?_ (Nat.le_refl _) (by assumption))))
end Go.Proofs.Ytolbihfnogbjaaa
