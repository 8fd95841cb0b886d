/- What Both, Hull and Meets of layer 2 return, for any two spans. Conditions: none. -/
import Derived.Test.YtdifgbnapcnmlaaRows
import Derived.Test.YtdifgbnapcnmlaaBase
import Derived.Test.YtdifgbnapcnmlaaIvalLeaf
import Derived.WalkKit
import Derived.WalkSpells
import Derived.WalkSmall
import Derived.Below
import Derived.Lib.Hide
import Derived.Outline
import Derived.Deep.RegionWith
namespace Go.Proofs.Ytdifgbnapcnmlaa
open Go.RowKit

/-- The greater and the lesser of two. -/
def up2 (a b : Int) : Int := if b ≤ a then a else b
def lo2 (a b : Int) : Int := if a ≤ b then a else b

theorem up2_l {a b : Int} (h : b ≤ a) : up2 a b = a := if_pos h
theorem up2_r {a b : Int} (h : ¬ b ≤ a) : up2 a b = b := if_neg h
theorem lo2_l {a b : Int} (h : a ≤ b) : lo2 a b = a := if_pos h
theorem lo2_r {a b : Int} (h : ¬ a ≤ b) : lo2 a b = b := if_neg h

theorem both_yes (a0 a1 b0 b1 : Int) (w : World) (h : up2 a0 b0 < lo2 a1 b1) :
    Calls Try.prog 28 #[.agg #[.int .i64 a0, .int .i64 a1], .agg #[.int .i64 b0, .int .i64 b1]] w fun e w' => e = .returned (.tuple #[.agg #[.int .i64 (up2 a0 b0), .int .i64 (lo2 a1 b1)], .bool true]) ∧ Below w.heap.size w w' := by
  by_cases c1 : b0 ≤ a0
  · by_cases c2 : a1 ≤ b1
    · rw [up2_l c1, lo2_l c2] at *
      go_enter Try.func28, Try.ntmps28
      go_wp2_with (go_at_call 20; refine (right_yes _ _ _ (by omega)).mono ?_; rintro e w1 ⟨rfl, hb1⟩; obtain ⟨hc1, hf1⟩ := bcell hb1; have hz1 := hb1.size; (try simp at hz1))
      refine bodyPost_ret (v := .tuple #[.agg #[.int .i64 a0, .int .i64 a1], .bool true]) (by simp [results, Try.results28, go_sem, *]) rfl ⟨rfl, ?_⟩
      (repeat (first | exact Below.refl _ _ | (refine b_st ?_ (by first | (simp; done) | (simp; omega))) | (refine b_al ?_ (Nat.le_refl _) _) | refine b_dn ?_ | refine b_dr ?_ | (refine b_cl ?_ (Nat.le_refl _) (by assumption))))
    · rw [up2_l c1, lo2_r c2] at *
      go_enter Try.func28, Try.ntmps28
      go_wp2_with (go_at_call 20; refine (right_yes _ _ _ (by omega)).mono ?_; rintro e w1 ⟨rfl, hb1⟩; obtain ⟨hc1, hf1⟩ := bcell hb1; have hz1 := hb1.size; (try simp at hz1))
      refine bodyPost_ret (v := .tuple #[.agg #[.int .i64 a0, .int .i64 b1], .bool true]) (by simp [results, Try.results28, go_sem, *]) rfl ⟨rfl, ?_⟩
      (repeat (first | exact Below.refl _ _ | (refine b_st ?_ (by first | (simp; done) | (simp; omega))) | (refine b_al ?_ (Nat.le_refl _) _) | refine b_dn ?_ | refine b_dr ?_ | (refine b_cl ?_ (Nat.le_refl _) (by assumption))))
  · by_cases c2 : a1 ≤ b1
    · rw [up2_r c1, lo2_l c2] at *
      go_enter Try.func28, Try.ntmps28
      go_wp2_with (go_at_call 20; refine (right_yes _ _ _ (by omega)).mono ?_; rintro e w1 ⟨rfl, hb1⟩; obtain ⟨hc1, hf1⟩ := bcell hb1; have hz1 := hb1.size; (try simp at hz1))
      refine bodyPost_ret (v := .tuple #[.agg #[.int .i64 b0, .int .i64 a1], .bool true]) (by simp [results, Try.results28, go_sem, *]) rfl ⟨rfl, ?_⟩
      (repeat (first | exact Below.refl _ _ | (refine b_st ?_ (by first | (simp; done) | (simp; omega))) | (refine b_al ?_ (Nat.le_refl _) _) | refine b_dn ?_ | refine b_dr ?_ | (refine b_cl ?_ (Nat.le_refl _) (by assumption))))
    · rw [up2_r c1, lo2_r c2] at *
      go_enter Try.func28, Try.ntmps28
      go_wp2_with (go_at_call 20; refine (right_yes _ _ _ (by omega)).mono ?_; rintro e w1 ⟨rfl, hb1⟩; obtain ⟨hc1, hf1⟩ := bcell hb1; have hz1 := hb1.size; (try simp at hz1))
      refine bodyPost_ret (v := .tuple #[.agg #[.int .i64 b0, .int .i64 b1], .bool true]) (by simp [results, Try.results28, go_sem, *]) rfl ⟨rfl, ?_⟩
      (repeat (first | exact Below.refl _ _ | (refine b_st ?_ (by first | (simp; done) | (simp; omega))) | (refine b_al ?_ (Nat.le_refl _) _) | refine b_dn ?_ | refine b_dr ?_ | (refine b_cl ?_ (Nat.le_refl _) (by assumption))))

theorem both_no (a0 a1 b0 b1 : Int) (w : World) (h : ¬ up2 a0 b0 < lo2 a1 b1) :
    Calls Try.prog 28 #[.agg #[.int .i64 a0, .int .i64 a1], .agg #[.int .i64 b0, .int .i64 b1]] w fun e w' => e = .returned (.tuple #[.agg #[.int .i64 0, .int .i64 0], .bool false]) ∧ Below w.heap.size w w' := by
  by_cases c1 : b0 ≤ a0
  · by_cases c2 : a1 ≤ b1
    · rw [up2_l c1, lo2_l c2] at *
      go_enter Try.func28, Try.ntmps28
      go_wp2_with (go_at_call 20; refine (right_no _ _ _ (by omega)).mono ?_; rintro e w1 ⟨rfl, hb1⟩; obtain ⟨hc1, hf1⟩ := bcell hb1; have hz1 := hb1.size; (try simp at hz1))
      refine bodyPost_ret (v := .tuple #[.agg #[.int .i64 0, .int .i64 0], .bool false]) (by simp [results, Try.results28, go_sem, *]) rfl ⟨rfl, ?_⟩
      (repeat (first | exact Below.refl _ _ | (refine b_st ?_ (by first | (simp; done) | (simp; omega))) | (refine b_al ?_ (Nat.le_refl _) _) | refine b_dn ?_ | refine b_dr ?_ | (refine b_cl ?_ (Nat.le_refl _) (by assumption))))
    · rw [up2_l c1, lo2_r c2] at *
      go_enter Try.func28, Try.ntmps28
      go_wp2_with (go_at_call 20; refine (right_no _ _ _ (by omega)).mono ?_; rintro e w1 ⟨rfl, hb1⟩; obtain ⟨hc1, hf1⟩ := bcell hb1; have hz1 := hb1.size; (try simp at hz1))
      refine bodyPost_ret (v := .tuple #[.agg #[.int .i64 0, .int .i64 0], .bool false]) (by simp [results, Try.results28, go_sem, *]) rfl ⟨rfl, ?_⟩
      (repeat (first | exact Below.refl _ _ | (refine b_st ?_ (by first | (simp; done) | (simp; omega))) | (refine b_al ?_ (Nat.le_refl _) _) | refine b_dn ?_ | refine b_dr ?_ | (refine b_cl ?_ (Nat.le_refl _) (by assumption))))
  · by_cases c2 : a1 ≤ b1
    · rw [up2_r c1, lo2_l c2] at *
      go_enter Try.func28, Try.ntmps28
      go_wp2_with (go_at_call 20; refine (right_no _ _ _ (by omega)).mono ?_; rintro e w1 ⟨rfl, hb1⟩; obtain ⟨hc1, hf1⟩ := bcell hb1; have hz1 := hb1.size; (try simp at hz1))
      refine bodyPost_ret (v := .tuple #[.agg #[.int .i64 0, .int .i64 0], .bool false]) (by simp [results, Try.results28, go_sem, *]) rfl ⟨rfl, ?_⟩
      (repeat (first | exact Below.refl _ _ | (refine b_st ?_ (by first | (simp; done) | (simp; omega))) | (refine b_al ?_ (Nat.le_refl _) _) | refine b_dn ?_ | refine b_dr ?_ | (refine b_cl ?_ (Nat.le_refl _) (by assumption))))
    · rw [up2_r c1, lo2_r c2] at *
      go_enter Try.func28, Try.ntmps28
      go_wp2_with (go_at_call 20; refine (right_no _ _ _ (by omega)).mono ?_; rintro e w1 ⟨rfl, hb1⟩; obtain ⟨hc1, hf1⟩ := bcell hb1; have hz1 := hb1.size; (try simp at hz1))
      refine bodyPost_ret (v := .tuple #[.agg #[.int .i64 0, .int .i64 0], .bool false]) (by simp [results, Try.results28, go_sem, *]) rfl ⟨rfl, ?_⟩
      (repeat (first | exact Below.refl _ _ | (refine b_st ?_ (by first | (simp; done) | (simp; omega))) | (refine b_al ?_ (Nat.le_refl _) _) | refine b_dn ?_ | refine b_dr ?_ | (refine b_cl ?_ (Nat.le_refl _) (by assumption))))

/-- What Both and Hull tell. -/
def bothv (a0 a1 b0 b1 : Int) : Int × Int × Bool := if up2 a0 b0 < lo2 a1 b1 then (up2 a0 b0, lo2 a1 b1, true) else (0, 0, false)
def hullv (a0 a1 b0 b1 : Int) : Int × Int × Bool := if a0 < a1 ∧ b0 < b1 then (lo2 a0 b0, up2 a1 b1, true) else (0, 0, false)

theorem both_any (a0 a1 b0 b1 : Int) (w : World) :
    Calls Try.prog 28 #[.agg #[.int .i64 a0, .int .i64 a1], .agg #[.int .i64 b0, .int .i64 b1]] w fun e w' => e = .returned (.tuple #[.agg #[.int .i64 ((bothv a0 a1 b0 b1).1), .int .i64 ((bothv a0 a1 b0 b1).2.1)], .bool (bothv a0 a1 b0 b1).2.2]) ∧ Below w.heap.size w w' := by
  unfold bothv
  by_cases h : up2 a0 b0 < lo2 a1 b1
  · rw [if_pos h]; exact both_yes a0 a1 b0 b1 w h
  · rw [if_neg h]; exact both_no a0 a1 b0 b1 w h

end Go.Proofs.Ytdifgbnapcnmlaa
