/- The chapter's examples hold, and words that are the same are told as such. Conditions: the program's listed variables are laid. -/
import Derived.Test.YtohdcmahfnoofaaDoorWordSpanR
import Derived.Test.YtohdcmahfnoofaaDoorWordSplitR
namespace Go.Proofs.YtohdcmahfnoofaaDoor
open Go.RowKit

theorem ex_num1 : numOk ⟨#[54, 48]⟩ ∧ numV ⟨#[54, 48]⟩ = 60 := ⟨⟨by decide, by unfold digL; decide, .inr (by decide)⟩, by decide⟩
theorem ex_num2 : numOk ⟨#[57, 48]⟩ ∧ numV ⟨#[57, 48]⟩ = 90 := ⟨⟨by decide, by unfold digL; decide, .inr (by decide)⟩, by decide⟩

theorem ex_span : spanV ⟨#[54, 48, 45, 57, 48]⟩ = (60, 90, 0) := by
  rw [span_at (p := 2) (by decide) (by decide) (by intro j hj; match j, hj with
    | 0, _ => decide
    | 1, _ => decide)]
  rw [show (⟨#[54, 48, 45, 57, 48]⟩ : ByteArray).extract 0 2 = ⟨#[54, 48]⟩ by decide, show (⟨#[54, 48, 45, 57, 48]⟩ : ByteArray).extract (2 + 1) (ByteArray.size ⟨#[54, 48, 45, 57, 48]⟩) = ⟨#[57, 48]⟩ by decide]
  have h := pair_good ex_num1.1 ex_num2.1 (by rw [ex_num1.2]; decide) (by rw [ex_num2.2]; decide) (by rw [ex_num1.2, ex_num2.2]; decide)
  rw [h, ex_num1.2, ex_num2.2]
  rfl

theorem ex_split : splitV ⟨#[97, 32, 32, 98]⟩ = ([], 2, 7) := split_bad (by decide) (by decide) (by intro j hj; match j, hj with
  | 0, _ => decide
  | 1, _ => decide)

set_option maxHeartbeats 1000000 in
theorem alive6_any (w : World) (hl : Laid6 w) :
    Calls Tryd.prog 6 #[] w fun e w' => e = .returned (.bool true) ∧ Below w.heap.size w w' := by
  have C1 := fun W (h : Laid6 W) => span_any ⟨#[54, 48, 45, 57, 48]⟩ W h (by decide)
  rw [ex_span] at C1
  have C2 := fun W => split_any ⟨#[97, 32, 32, 98]⟩ W (by decide)
  rw [ex_split] at C2
  go_enter Tryd.func6, Tryd.ntmps6
  go_wp2_with (first
    | (go_at_call 14; (with_reducible refine (C1 _ hl).mono ?_); rintro e w1 ⟨rfl, hb1⟩)
    | (go_at_call 9; (with_reducible refine (C2 _).mono ?_); rintro e w2 ⟨v2, rfl, ho2, hb2⟩; obtain ⟨hc2, hf2⟩ := bcell hb2; have hz2 := hb2.size; (try simp at hz2); have hlt2 : w1.heap.size < w2.heap.size := (by omega)))
  go_ret
  refine ⟨rfl, ?_⟩
  (repeat (first | assumption | exact Below.refl _ _ | (refine b_st ?_ (by first | (simp; done) | (simp; omega))) | (refine b_al ?_ (Nat.le_refl _) _) | refine b_dn ?_ | refine b_dr ?_ | (refine b_cl ?_ (Nat.le_refl _) (by assumption))))

set_option maxHeartbeats 1000000 in
theorem same_any (A B : Option Addr) (c d n : Nat) (l : List Wd) (w : World) (hn : l.length = n) (hs : n ≤ 4611686018427387904) (ha : RdW w A l) (hb : RdW w B l) :
    Calls Tryd.prog 11 #[.slice A n c, .slice B n d] w fun e w' => e = .returned (.bool true) ∧ Below w.heap.size w w' := by
  have HNL := Lib.hid hn
  have HA := Lib.hid ha
  have HB := Lib.hid hb
  clear hn ha hb
  go_enter Tryd.func11, Tryd.ntmps11
  go_wp2
  go_loopw [13] (fun i wr => ∃ k : Nat, k ≤ n ∧ i = .int .i64 k ∧ ∃ m, wr = w.drewN m) (fun i _ => n - (intOf i).toNat)
  case atStart => exact ⟨0, Nat.zero_le _, rfl, 0, rfl⟩
  case round =>
    obtain ⟨k, hk, rfl, m, rfl⟩ := hrel
    by_cases hlt : k < n
    · obtain ⟨b1, o1, x, t, rfl, hb1, q1, q2, hs1⟩ := HA.out.at_ (k := k) (by rw [HNL.out]; exact hlt)
      obtain ⟨b2, o2, x2, t2, rfl, hb2, q3, q4, hs2⟩ := HB.out.at_ (k := k) (by rw [HNL.out]; exact hlt)
      have he := hs1.out.symm.trans hs2.out
      simp only [Prod.mk.injEq] at he
      obtain ⟨rfl, rfl⟩ := he
      go_wp2
      go_quiet (fail)
      go_wp2
      go_roundw
      case rel => exact ⟨k + 1, by omega, by go_num, _, rfl⟩
      case measure => simp [intOf]; omega
    · go_wp2
      go_ret
      exact ⟨rfl, b_dn (Below.refl _ _)⟩

end Go.Proofs.YtohdcmahfnoofaaDoor
