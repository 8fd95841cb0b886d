/- What Both, Hull and Meets of layer 2 return, for any two spans. Conditions: none. -/
import Derived.Test.YteijjkdfffmikaaRows
import Derived.Test.YteijjkdfffmikaaBase
import Derived.Test.YteijjkdfffmikaaIvalLeaf
import Derived.WalkKit
import Derived.WalkSpells
import Derived.WalkSmall
import Derived.Below
import Derived.Lib.Hide
import Derived.Outline
import Derived.Deep.RegionWith
namespace Go.Proofs.Yteijjkdfffmikaa
open Go.RowKit

/-- The greater and the lesser of two. -/
def up2 (a b : Int) : Int := if b ≤ a then a else b
def lo2 (a b : Int) : Int := if a ≤ b then a else b

theorem up2_l {a b : Int} (h : b ≤ a) : up2 a b = a := if_pos h
theorem up2_r {a b : Int} (h : ¬ b ≤ a) : up2 a b = b := if_neg h
theorem lo2_l {a b : Int} (h : a ≤ b) : lo2 a b = a := if_pos h
theorem lo2_r {a b : Int} (h : ¬ a ≤ b) : lo2 a b = b := if_neg h

theorem both_yes (a0 a1 b0 b1 : Int) (w : World) (h : up2 a0 b0 < lo2 a1 b1) :
    Calls Try.prog 6 #[.agg #[.int .i64 a0, .int .i64 a1], .agg #[.int .i64 b0, .int .i64 b1]] w fun e w' => e = .returned (.tuple #[.agg #[.int .i64 (up2 a0 b0), .int .i64 (lo2 a1 b1)], .bool true]) ∧ Below w.heap.size w w' := by
  by_cases c1 : b0 ≤ a0
  · by_cases c2 : a1 ≤ b1
    · rw [up2_l c1, lo2_l c2] at *
      go_enter Try.func6, Try.ntmps6
      go_wp2_with (go_at_call 11; refine (right_yes _ _ _ (by omega)).mono ?_; rintro e w1 ⟨rfl, hb1⟩; obtain ⟨hc1, hf1⟩ := bcell hb1; have hz1 := hb1.size; (try simp at hz1))
      refine bodyPost_ret (v := .tuple #[.agg #[.int .i64 a0, .int .i64 a1], .bool true]) (by simp [results, Try.results6, go_sem, *]) rfl ⟨rfl, ?_⟩
      (repeat (first | exact Below.refl _ _ | (refine b_st ?_ (by first | (simp; done) | (simp; omega))) | (refine b_al ?_ (Nat.le_refl _) _) | refine b_dn ?_ | refine b_dr ?_ | (refine b_cl ?_ (Nat.le_refl _) (by assumption))))
    · rw [up2_l c1, lo2_r c2] at *
      go_enter Try.func6, Try.ntmps6
      go_wp2_with (go_at_call 11; refine (right_yes _ _ _ (by omega)).mono ?_; rintro e w1 ⟨rfl, hb1⟩; obtain ⟨hc1, hf1⟩ := bcell hb1; have hz1 := hb1.size; (try simp at hz1))
      refine bodyPost_ret (v := .tuple #[.agg #[.int .i64 a0, .int .i64 b1], .bool true]) (by simp [results, Try.results6, go_sem, *]) rfl ⟨rfl, ?_⟩
      (repeat (first | exact Below.refl _ _ | (refine b_st ?_ (by first | (simp; done) | (simp; omega))) | (refine b_al ?_ (Nat.le_refl _) _) | refine b_dn ?_ | refine b_dr ?_ | (refine b_cl ?_ (Nat.le_refl _) (by assumption))))
  · by_cases c2 : a1 ≤ b1
    · rw [up2_r c1, lo2_l c2] at *
      go_enter Try.func6, Try.ntmps6
      go_wp2_with (go_at_call 11; refine (right_yes _ _ _ (by omega)).mono ?_; rintro e w1 ⟨rfl, hb1⟩; obtain ⟨hc1, hf1⟩ := bcell hb1; have hz1 := hb1.size; (try simp at hz1))
      refine bodyPost_ret (v := .tuple #[.agg #[.int .i64 b0, .int .i64 a1], .bool true]) (by simp [results, Try.results6, go_sem, *]) rfl ⟨rfl, ?_⟩
      (repeat (first | exact Below.refl _ _ | (refine b_st ?_ (by first | (simp; done) | (simp; omega))) | (refine b_al ?_ (Nat.le_refl _) _) | refine b_dn ?_ | refine b_dr ?_ | (refine b_cl ?_ (Nat.le_refl _) (by assumption))))
    · rw [up2_r c1, lo2_r c2] at *
      go_enter Try.func6, Try.ntmps6
      go_wp2_with (go_at_call 11; refine (right_yes _ _ _ (by omega)).mono ?_; rintro e w1 ⟨rfl, hb1⟩; obtain ⟨hc1, hf1⟩ := bcell hb1; have hz1 := hb1.size; (try simp at hz1))
      refine bodyPost_ret (v := .tuple #[.agg #[.int .i64 b0, .int .i64 b1], .bool true]) (by simp [results, Try.results6, go_sem, *]) rfl ⟨rfl, ?_⟩
      (repeat (first | exact Below.refl _ _ | (refine b_st ?_ (by first | (simp; done) | (simp; omega))) | (refine b_al ?_ (Nat.le_refl _) _) | refine b_dn ?_ | refine b_dr ?_ | (refine b_cl ?_ (Nat.le_refl _) (by assumption))))

theorem both_no (a0 a1 b0 b1 : Int) (w : World) (h : ¬ up2 a0 b0 < lo2 a1 b1) :
    Calls Try.prog 6 #[.agg #[.int .i64 a0, .int .i64 a1], .agg #[.int .i64 b0, .int .i64 b1]] w fun e w' => e = .returned (.tuple #[.agg #[.int .i64 0, .int .i64 0], .bool false]) ∧ Below w.heap.size w w' := by
  by_cases c1 : b0 ≤ a0
  · by_cases c2 : a1 ≤ b1
    · rw [up2_l c1, lo2_l c2] at *
      go_enter Try.func6, Try.ntmps6
      go_wp2_with (go_at_call 11; refine (right_no _ _ _ (by omega)).mono ?_; rintro e w1 ⟨rfl, hb1⟩; obtain ⟨hc1, hf1⟩ := bcell hb1; have hz1 := hb1.size; (try simp at hz1))
      refine bodyPost_ret (v := .tuple #[.agg #[.int .i64 0, .int .i64 0], .bool false]) (by simp [results, Try.results6, go_sem, *]) rfl ⟨rfl, ?_⟩
      (repeat (first | exact Below.refl _ _ | (refine b_st ?_ (by first | (simp; done) | (simp; omega))) | (refine b_al ?_ (Nat.le_refl _) _) | refine b_dn ?_ | refine b_dr ?_ | (refine b_cl ?_ (Nat.le_refl _) (by assumption))))
    · rw [up2_l c1, lo2_r c2] at *
      go_enter Try.func6, Try.ntmps6
      go_wp2_with (go_at_call 11; refine (right_no _ _ _ (by omega)).mono ?_; rintro e w1 ⟨rfl, hb1⟩; obtain ⟨hc1, hf1⟩ := bcell hb1; have hz1 := hb1.size; (try simp at hz1))
      refine bodyPost_ret (v := .tuple #[.agg #[.int .i64 0, .int .i64 0], .bool false]) (by simp [results, Try.results6, go_sem, *]) rfl ⟨rfl, ?_⟩
      (repeat (first | exact Below.refl _ _ | (refine b_st ?_ (by first | (simp; done) | (simp; omega))) | (refine b_al ?_ (Nat.le_refl _) _) | refine b_dn ?_ | refine b_dr ?_ | (refine b_cl ?_ (Nat.le_refl _) (by assumption))))
  · by_cases c2 : a1 ≤ b1
    · rw [up2_r c1, lo2_l c2] at *
      go_enter Try.func6, Try.ntmps6
      go_wp2_with (go_at_call 11; refine (right_no _ _ _ (by omega)).mono ?_; rintro e w1 ⟨rfl, hb1⟩; obtain ⟨hc1, hf1⟩ := bcell hb1; have hz1 := hb1.size; (try simp at hz1))
      refine bodyPost_ret (v := .tuple #[.agg #[.int .i64 0, .int .i64 0], .bool false]) (by simp [results, Try.results6, go_sem, *]) rfl ⟨rfl, ?_⟩
      (repeat (first | exact Below.refl _ _ | (refine b_st ?_ (by first | (simp; done) | (simp; omega))) | (refine b_al ?_ (Nat.le_refl _) _) | refine b_dn ?_ | refine b_dr ?_ | (refine b_cl ?_ (Nat.le_refl _) (by assumption))))
    · rw [up2_r c1, lo2_r c2] at *
      go_enter Try.func6, Try.ntmps6
      go_wp2_with (go_at_call 11; refine (right_no _ _ _ (by omega)).mono ?_; rintro e w1 ⟨rfl, hb1⟩; obtain ⟨hc1, hf1⟩ := bcell hb1; have hz1 := hb1.size; (try simp at hz1))
      refine bodyPost_ret (v := .tuple #[.agg #[.int .i64 0, .int .i64 0], .bool false]) (by simp [results, Try.results6, go_sem, *]) rfl ⟨rfl, ?_⟩
      (repeat (first | exact Below.refl _ _ | (refine b_st ?_ (by first | (simp; done) | (simp; omega))) | (refine b_al ?_ (Nat.le_refl _) _) | refine b_dn ?_ | refine b_dr ?_ | (refine b_cl ?_ (Nat.le_refl _) (by assumption))))

theorem refboth_yes (a0 a1 b0 b1 : Int) (w : World) (h : up2 a0 b0 < lo2 a1 b1) :
    Calls Try.prog 7 #[.agg #[.int .i64 a0, .int .i64 a1], .agg #[.int .i64 b0, .int .i64 b1]] w fun e w' => e = .returned (.tuple #[.agg #[.int .i64 (up2 a0 b0), .int .i64 (lo2 a1 b1)], .bool true]) ∧ Below w.heap.size w w' := by
  by_cases c1 : b0 ≤ a0
  · by_cases c2 : a1 ≤ b1
    · rw [up2_l c1, lo2_l c2] at *
      go_enter Try.func7, Try.ntmps7
      go_wp2_with (go_at_call 12; refine (refright_yes _ _ _ (by omega)).mono ?_; rintro e w1 ⟨rfl, hb1⟩; obtain ⟨hc1, hf1⟩ := bcell hb1; have hz1 := hb1.size; (try simp at hz1))
      refine bodyPost_ret (v := .tuple #[.agg #[.int .i64 a0, .int .i64 a1], .bool true]) (by simp [results, Try.results7, go_sem, *]) rfl ⟨rfl, ?_⟩
      (repeat (first | exact Below.refl _ _ | (refine b_st ?_ (by first | (simp; done) | (simp; omega))) | (refine b_al ?_ (Nat.le_refl _) _) | refine b_dn ?_ | refine b_dr ?_ | (refine b_cl ?_ (Nat.le_refl _) (by assumption))))
    · rw [up2_l c1, lo2_r c2] at *
      go_enter Try.func7, Try.ntmps7
      go_wp2_with (go_at_call 12; refine (refright_yes _ _ _ (by omega)).mono ?_; rintro e w1 ⟨rfl, hb1⟩; obtain ⟨hc1, hf1⟩ := bcell hb1; have hz1 := hb1.size; (try simp at hz1))
      refine bodyPost_ret (v := .tuple #[.agg #[.int .i64 a0, .int .i64 b1], .bool true]) (by simp [results, Try.results7, go_sem, *]) rfl ⟨rfl, ?_⟩
      (repeat (first | exact Below.refl _ _ | (refine b_st ?_ (by first | (simp; done) | (simp; omega))) | (refine b_al ?_ (Nat.le_refl _) _) | refine b_dn ?_ | refine b_dr ?_ | (refine b_cl ?_ (Nat.le_refl _) (by assumption))))
  · by_cases c2 : a1 ≤ b1
    · rw [up2_r c1, lo2_l c2] at *
      go_enter Try.func7, Try.ntmps7
      go_wp2_with (go_at_call 12; refine (refright_yes _ _ _ (by omega)).mono ?_; rintro e w1 ⟨rfl, hb1⟩; obtain ⟨hc1, hf1⟩ := bcell hb1; have hz1 := hb1.size; (try simp at hz1))
      refine bodyPost_ret (v := .tuple #[.agg #[.int .i64 b0, .int .i64 a1], .bool true]) (by simp [results, Try.results7, go_sem, *]) rfl ⟨rfl, ?_⟩
      (repeat (first | exact Below.refl _ _ | (refine b_st ?_ (by first | (simp; done) | (simp; omega))) | (refine b_al ?_ (Nat.le_refl _) _) | refine b_dn ?_ | refine b_dr ?_ | (refine b_cl ?_ (Nat.le_refl _) (by assumption))))
    · rw [up2_r c1, lo2_r c2] at *
      go_enter Try.func7, Try.ntmps7
      go_wp2_with (go_at_call 12; refine (refright_yes _ _ _ (by omega)).mono ?_; rintro e w1 ⟨rfl, hb1⟩; obtain ⟨hc1, hf1⟩ := bcell hb1; have hz1 := hb1.size; (try simp at hz1))
      refine bodyPost_ret (v := .tuple #[.agg #[.int .i64 b0, .int .i64 b1], .bool true]) (by simp [results, Try.results7, go_sem, *]) rfl ⟨rfl, ?_⟩
      (repeat (first | exact Below.refl _ _ | (refine b_st ?_ (by first | (simp; done) | (simp; omega))) | (refine b_al ?_ (Nat.le_refl _) _) | refine b_dn ?_ | refine b_dr ?_ | (refine b_cl ?_ (Nat.le_refl _) (by assumption))))

theorem refboth_no (a0 a1 b0 b1 : Int) (w : World) (h : ¬ up2 a0 b0 < lo2 a1 b1) :
    Calls Try.prog 7 #[.agg #[.int .i64 a0, .int .i64 a1], .agg #[.int .i64 b0, .int .i64 b1]] w fun e w' => e = .returned (.tuple #[.agg #[.int .i64 0, .int .i64 0], .bool false]) ∧ Below w.heap.size w w' := by
  by_cases c1 : b0 ≤ a0
  · by_cases c2 : a1 ≤ b1
    · rw [up2_l c1, lo2_l c2] at *
      go_enter Try.func7, Try.ntmps7
      go_wp2_with (go_at_call 12; refine (refright_no _ _ _ (by omega)).mono ?_; rintro e w1 ⟨rfl, hb1⟩; obtain ⟨hc1, hf1⟩ := bcell hb1; have hz1 := hb1.size; (try simp at hz1))
      refine bodyPost_ret (v := .tuple #[.agg #[.int .i64 0, .int .i64 0], .bool false]) (by simp [results, Try.results7, go_sem, *]) rfl ⟨rfl, ?_⟩
      (repeat (first | exact Below.refl _ _ | (refine b_st ?_ (by first | (simp; done) | (simp; omega))) | (refine b_al ?_ (Nat.le_refl _) _) | refine b_dn ?_ | refine b_dr ?_ | (refine b_cl ?_ (Nat.le_refl _) (by assumption))))
    · rw [up2_l c1, lo2_r c2] at *
      go_enter Try.func7, Try.ntmps7
      go_wp2_with (go_at_call 12; refine (refright_no _ _ _ (by omega)).mono ?_; rintro e w1 ⟨rfl, hb1⟩; obtain ⟨hc1, hf1⟩ := bcell hb1; have hz1 := hb1.size; (try simp at hz1))
      refine bodyPost_ret (v := .tuple #[.agg #[.int .i64 0, .int .i64 0], .bool false]) (by simp [results, Try.results7, go_sem, *]) rfl ⟨rfl, ?_⟩
      (repeat (first | exact Below.refl _ _ | (refine b_st ?_ (by first | (simp; done) | (simp; omega))) | (refine b_al ?_ (Nat.le_refl _) _) | refine b_dn ?_ | refine b_dr ?_ | (refine b_cl ?_ (Nat.le_refl _) (by assumption))))
  · by_cases c2 : a1 ≤ b1
    · rw [up2_r c1, lo2_l c2] at *
      go_enter Try.func7, Try.ntmps7
      go_wp2_with (go_at_call 12; refine (refright_no _ _ _ (by omega)).mono ?_; rintro e w1 ⟨rfl, hb1⟩; obtain ⟨hc1, hf1⟩ := bcell hb1; have hz1 := hb1.size; (try simp at hz1))
      refine bodyPost_ret (v := .tuple #[.agg #[.int .i64 0, .int .i64 0], .bool false]) (by simp [results, Try.results7, go_sem, *]) rfl ⟨rfl, ?_⟩
      (repeat (first | exact Below.refl _ _ | (refine b_st ?_ (by first | (simp; done) | (simp; omega))) | (refine b_al ?_ (Nat.le_refl _) _) | refine b_dn ?_ | refine b_dr ?_ | (refine b_cl ?_ (Nat.le_refl _) (by assumption))))
    · rw [up2_r c1, lo2_r c2] at *
      go_enter Try.func7, Try.ntmps7
      go_wp2_with (go_at_call 12; refine (refright_no _ _ _ (by omega)).mono ?_; rintro e w1 ⟨rfl, hb1⟩; obtain ⟨hc1, hf1⟩ := bcell hb1; have hz1 := hb1.size; (try simp at hz1))
      refine bodyPost_ret (v := .tuple #[.agg #[.int .i64 0, .int .i64 0], .bool false]) (by simp [results, Try.results7, go_sem, *]) rfl ⟨rfl, ?_⟩
      (repeat (first | exact Below.refl _ _ | (refine b_st ?_ (by first | (simp; done) | (simp; omega))) | (refine b_al ?_ (Nat.le_refl _) _) | refine b_dn ?_ | refine b_dr ?_ | (refine b_cl ?_ (Nat.le_refl _) (by assumption))))

set_option maxHeartbeats 400000 in
theorem hull_yes (a0 a1 b0 b1 : Int) (w : World) (ha : a0 < a1) (hb : b0 < b1) :
    Calls Try.prog 8 #[.agg #[.int .i64 a0, .int .i64 a1], .agg #[.int .i64 b0, .int .i64 b1]] w fun e w' => e = .returned (.tuple #[.agg #[.int .i64 (lo2 a0 b0), .int .i64 (up2 a1 b1)], .bool true]) ∧ Below w.heap.size w w' := by
  by_cases c1 : a0 ≤ b0
  · by_cases c2 : b1 ≤ a1
    · rw [lo2_l c1, up2_l c2]
      go_enter Try.func8, Try.ntmps8
      go_wp2_with (go_at_call 11; refine (right_yes _ _ _ (by omega)).mono ?_; rintro e w1 ⟨rfl, hb1⟩; obtain ⟨hc1, hf1⟩ := bcell hb1; have hz1 := hb1.size; (try simp at hz1); have : w.heap.size < w1.heap.size := (by omega); have : w.heap.size + 1 < w1.heap.size := (by omega); have : w.heap.size + 1 + 1 < w1.heap.size := (by omega))
      refine bodyPost_ret (v := .tuple #[.agg #[.int .i64 a0, .int .i64 a1], .bool true]) (by simp [results, Try.results8, go_sem, *]) rfl ⟨rfl, ?_⟩
      (repeat (first | exact Below.refl _ _ | (refine b_st ?_ (by first | (simp; done) | (simp; omega))) | (refine b_al ?_ (Nat.le_refl _) _) | refine b_dn ?_ | refine b_dr ?_ | (refine b_cl ?_ (Nat.le_refl _) (by assumption))))
    · rw [lo2_l c1, up2_r c2]
      go_enter Try.func8, Try.ntmps8
      go_wp2_with (go_at_call 11; refine (right_yes _ _ _ (by omega)).mono ?_; rintro e w1 ⟨rfl, hb1⟩; obtain ⟨hc1, hf1⟩ := bcell hb1; have hz1 := hb1.size; (try simp at hz1); have : w.heap.size < w1.heap.size := (by omega); have : w.heap.size + 1 < w1.heap.size := (by omega); have : w.heap.size + 1 + 1 < w1.heap.size := (by omega))
      refine bodyPost_ret (v := .tuple #[.agg #[.int .i64 a0, .int .i64 b1], .bool true]) (by simp [results, Try.results8, go_sem, *]) rfl ⟨rfl, ?_⟩
      (repeat (first | exact Below.refl _ _ | (refine b_st ?_ (by first | (simp; done) | (simp; omega))) | (refine b_al ?_ (Nat.le_refl _) _) | refine b_dn ?_ | refine b_dr ?_ | (refine b_cl ?_ (Nat.le_refl _) (by assumption))))
  · by_cases c2 : b1 ≤ a1
    · rw [lo2_r c1, up2_l c2]
      go_enter Try.func8, Try.ntmps8
      go_wp2_with (go_at_call 11; refine (right_yes _ _ _ (by omega)).mono ?_; rintro e w1 ⟨rfl, hb1⟩; obtain ⟨hc1, hf1⟩ := bcell hb1; have hz1 := hb1.size; (try simp at hz1); have : w.heap.size < w1.heap.size := (by omega); have : w.heap.size + 1 < w1.heap.size := (by omega); have : w.heap.size + 1 + 1 < w1.heap.size := (by omega))
      refine bodyPost_ret (v := .tuple #[.agg #[.int .i64 b0, .int .i64 a1], .bool true]) (by simp [results, Try.results8, go_sem, *]) rfl ⟨rfl, ?_⟩
      (repeat (first | exact Below.refl _ _ | (refine b_st ?_ (by first | (simp; done) | (simp; omega))) | (refine b_al ?_ (Nat.le_refl _) _) | refine b_dn ?_ | refine b_dr ?_ | (refine b_cl ?_ (Nat.le_refl _) (by assumption))))
    · rw [lo2_r c1, up2_r c2]
      go_enter Try.func8, Try.ntmps8
      go_wp2_with (go_at_call 11; refine (right_yes _ _ _ (by omega)).mono ?_; rintro e w1 ⟨rfl, hb1⟩; obtain ⟨hc1, hf1⟩ := bcell hb1; have hz1 := hb1.size; (try simp at hz1); have : w.heap.size < w1.heap.size := (by omega); have : w.heap.size + 1 < w1.heap.size := (by omega); have : w.heap.size + 1 + 1 < w1.heap.size := (by omega))
      refine bodyPost_ret (v := .tuple #[.agg #[.int .i64 b0, .int .i64 b1], .bool true]) (by simp [results, Try.results8, go_sem, *]) rfl ⟨rfl, ?_⟩
      (repeat (first | exact Below.refl _ _ | (refine b_st ?_ (by first | (simp; done) | (simp; omega))) | (refine b_al ?_ (Nat.le_refl _) _) | refine b_dn ?_ | refine b_dr ?_ | (refine b_cl ?_ (Nat.le_refl _) (by assumption))))

set_option maxHeartbeats 400000 in
theorem hull_noa (a0 a1 b0 b1 : Int) (w : World) (ha : ¬ a0 < a1) :
    Calls Try.prog 8 #[.agg #[.int .i64 a0, .int .i64 a1], .agg #[.int .i64 b0, .int .i64 b1]] w fun e w' => e = .returned (.tuple #[.agg #[.int .i64 0, .int .i64 0], .bool false]) ∧ Below w.heap.size w w' := by
  go_enter Try.func8, Try.ntmps8
  go_wp2_with (go_at_call_of 11 (Value.agg #[.int .i64 a0, .int .i64 a1]); refine (right_no _ _ _ (by omega)).mono ?_; rintro e w1 ⟨rfl, hb1⟩; obtain ⟨hc1, hf1⟩ := bcell hb1; have hz1 := hb1.size; (try simp at hz1); have : w.heap.size < w1.heap.size := (by omega); have : w.heap.size + 1 < w1.heap.size := (by omega); have : w.heap.size + 1 + 1 < w1.heap.size := (by omega))
  refine bodyPost_ret (v := .tuple #[.agg #[.int .i64 0, .int .i64 0], .bool false]) (by simp [results, Try.results8, go_sem, *]) rfl ⟨rfl, ?_⟩
  (repeat (first | exact Below.refl _ _ | (refine b_st ?_ (by first | (simp; done) | (simp; omega))) | (refine b_al ?_ (Nat.le_refl _) _) | refine b_dn ?_ | refine b_dr ?_ | (refine b_cl ?_ (Nat.le_refl _) (by assumption))))

set_option maxHeartbeats 400000 in
theorem hull_nob (a0 a1 b0 b1 : Int) (w : World) (ha : a0 < a1) (hb : ¬ b0 < b1) :
    Calls Try.prog 8 #[.agg #[.int .i64 a0, .int .i64 a1], .agg #[.int .i64 b0, .int .i64 b1]] w fun e w' => e = .returned (.tuple #[.agg #[.int .i64 0, .int .i64 0], .bool false]) ∧ Below w.heap.size w w' := by
  go_enter Try.func8, Try.ntmps8
  go_wp2_with (first | (go_at_call_of 11 (Value.agg #[.int .i64 a0, .int .i64 a1]); refine (right_yes _ _ _ (by omega)).mono ?_; rintro e w1 ⟨rfl, hb1⟩; obtain ⟨hc1, hf1⟩ := bcell hb1; have hz1 := hb1.size; (try simp at hz1); have : w.heap.size < w1.heap.size := (by omega); have : w.heap.size + 1 < w1.heap.size := (by omega); have : w.heap.size + 1 + 1 < w1.heap.size := (by omega)) | (go_at_call_of 11 (Value.agg #[.int .i64 b0, .int .i64 b1]); refine (right_no _ _ _ (by omega)).mono ?_; rintro e w2 ⟨rfl, hb2⟩; obtain ⟨hc2, hf2⟩ := bcell hb2; have hz2 := hb2.size; (try simp at hz2); have : w.heap.size < w2.heap.size := (by omega); have : w.heap.size + 1 < w2.heap.size := (by omega); have : w.heap.size + 1 + 1 < w2.heap.size := (by omega)))
  refine bodyPost_ret (v := .tuple #[.agg #[.int .i64 0, .int .i64 0], .bool false]) (by simp [results, Try.results8, go_sem, *]) rfl ⟨rfl, ?_⟩
  (repeat (first | exact Below.refl _ _ | (refine b_st ?_ (by first | (simp; done) | (simp; omega))) | (refine b_al ?_ (Nat.le_refl _) _) | refine b_dn ?_ | refine b_dr ?_ | (refine b_cl ?_ (Nat.le_refl _) (by assumption))))

set_option maxHeartbeats 400000 in
theorem refhull_yes (a0 a1 b0 b1 : Int) (w : World) (ha : a0 < a1) (hb : b0 < b1) :
    Calls Try.prog 9 #[.agg #[.int .i64 a0, .int .i64 a1], .agg #[.int .i64 b0, .int .i64 b1]] w fun e w' => e = .returned (.tuple #[.agg #[.int .i64 (lo2 a0 b0), .int .i64 (up2 a1 b1)], .bool true]) ∧ Below w.heap.size w w' := by
  by_cases c1 : a0 ≤ b0
  · by_cases c2 : b1 ≤ a1
    · rw [lo2_l c1, up2_l c2]
      go_enter Try.func9, Try.ntmps9
      go_wp2_with (go_at_call 12; refine (refright_yes _ _ _ (by omega)).mono ?_; rintro e w1 ⟨rfl, hb1⟩; obtain ⟨hc1, hf1⟩ := bcell hb1; have hz1 := hb1.size; (try simp at hz1); have : w.heap.size < w1.heap.size := (by omega); have : w.heap.size + 1 < w1.heap.size := (by omega); have : w.heap.size + 1 + 1 < w1.heap.size := (by omega))
      refine bodyPost_ret (v := .tuple #[.agg #[.int .i64 a0, .int .i64 a1], .bool true]) (by simp [results, Try.results9, go_sem, *]) rfl ⟨rfl, ?_⟩
      (repeat (first | exact Below.refl _ _ | (refine b_st ?_ (by first | (simp; done) | (simp; omega))) | (refine b_al ?_ (Nat.le_refl _) _) | refine b_dn ?_ | refine b_dr ?_ | (refine b_cl ?_ (Nat.le_refl _) (by assumption))))
    · rw [lo2_l c1, up2_r c2]
      go_enter Try.func9, Try.ntmps9
      go_wp2_with (go_at_call 12; refine (refright_yes _ _ _ (by omega)).mono ?_; rintro e w1 ⟨rfl, hb1⟩; obtain ⟨hc1, hf1⟩ := bcell hb1; have hz1 := hb1.size; (try simp at hz1); have : w.heap.size < w1.heap.size := (by omega); have : w.heap.size + 1 < w1.heap.size := (by omega); have : w.heap.size + 1 + 1 < w1.heap.size := (by omega))
      refine bodyPost_ret (v := .tuple #[.agg #[.int .i64 a0, .int .i64 b1], .bool true]) (by simp [results, Try.results9, go_sem, *]) rfl ⟨rfl, ?_⟩
      (repeat (first | exact Below.refl _ _ | (refine b_st ?_ (by first | (simp; done) | (simp; omega))) | (refine b_al ?_ (Nat.le_refl _) _) | refine b_dn ?_ | refine b_dr ?_ | (refine b_cl ?_ (Nat.le_refl _) (by assumption))))
  · by_cases c2 : b1 ≤ a1
    · rw [lo2_r c1, up2_l c2]
      go_enter Try.func9, Try.ntmps9
      go_wp2_with (go_at_call 12; refine (refright_yes _ _ _ (by omega)).mono ?_; rintro e w1 ⟨rfl, hb1⟩; obtain ⟨hc1, hf1⟩ := bcell hb1; have hz1 := hb1.size; (try simp at hz1); have : w.heap.size < w1.heap.size := (by omega); have : w.heap.size + 1 < w1.heap.size := (by omega); have : w.heap.size + 1 + 1 < w1.heap.size := (by omega))
      refine bodyPost_ret (v := .tuple #[.agg #[.int .i64 b0, .int .i64 a1], .bool true]) (by simp [results, Try.results9, go_sem, *]) rfl ⟨rfl, ?_⟩
      (repeat (first | exact Below.refl _ _ | (refine b_st ?_ (by first | (simp; done) | (simp; omega))) | (refine b_al ?_ (Nat.le_refl _) _) | refine b_dn ?_ | refine b_dr ?_ | (refine b_cl ?_ (Nat.le_refl _) (by assumption))))
    · rw [lo2_r c1, up2_r c2]
      go_enter Try.func9, Try.ntmps9
      go_wp2_with (go_at_call 12; refine (refright_yes _ _ _ (by omega)).mono ?_; rintro e w1 ⟨rfl, hb1⟩; obtain ⟨hc1, hf1⟩ := bcell hb1; have hz1 := hb1.size; (try simp at hz1); have : w.heap.size < w1.heap.size := (by omega); have : w.heap.size + 1 < w1.heap.size := (by omega); have : w.heap.size + 1 + 1 < w1.heap.size := (by omega))
      refine bodyPost_ret (v := .tuple #[.agg #[.int .i64 b0, .int .i64 b1], .bool true]) (by simp [results, Try.results9, go_sem, *]) rfl ⟨rfl, ?_⟩
      (repeat (first | exact Below.refl _ _ | (refine b_st ?_ (by first | (simp; done) | (simp; omega))) | (refine b_al ?_ (Nat.le_refl _) _) | refine b_dn ?_ | refine b_dr ?_ | (refine b_cl ?_ (Nat.le_refl _) (by assumption))))

set_option maxHeartbeats 400000 in
theorem refhull_noa (a0 a1 b0 b1 : Int) (w : World) (ha : ¬ a0 < a1) :
    Calls Try.prog 9 #[.agg #[.int .i64 a0, .int .i64 a1], .agg #[.int .i64 b0, .int .i64 b1]] w fun e w' => e = .returned (.tuple #[.agg #[.int .i64 0, .int .i64 0], .bool false]) ∧ Below w.heap.size w w' := by
  go_enter Try.func9, Try.ntmps9
  go_wp2_with (go_at_call_of 12 (Value.agg #[.int .i64 a0, .int .i64 a1]); refine (refright_no _ _ _ (by omega)).mono ?_; rintro e w1 ⟨rfl, hb1⟩; obtain ⟨hc1, hf1⟩ := bcell hb1; have hz1 := hb1.size; (try simp at hz1); have : w.heap.size < w1.heap.size := (by omega); have : w.heap.size + 1 < w1.heap.size := (by omega); have : w.heap.size + 1 + 1 < w1.heap.size := (by omega))
  refine bodyPost_ret (v := .tuple #[.agg #[.int .i64 0, .int .i64 0], .bool false]) (by simp [results, Try.results9, go_sem, *]) rfl ⟨rfl, ?_⟩
  (repeat (first | exact Below.refl _ _ | (refine b_st ?_ (by first | (simp; done) | (simp; omega))) | (refine b_al ?_ (Nat.le_refl _) _) | refine b_dn ?_ | refine b_dr ?_ | (refine b_cl ?_ (Nat.le_refl _) (by assumption))))

set_option maxHeartbeats 400000 in
theorem refhull_nob (a0 a1 b0 b1 : Int) (w : World) (ha : a0 < a1) (hb : ¬ b0 < b1) :
    Calls Try.prog 9 #[.agg #[.int .i64 a0, .int .i64 a1], .agg #[.int .i64 b0, .int .i64 b1]] w fun e w' => e = .returned (.tuple #[.agg #[.int .i64 0, .int .i64 0], .bool false]) ∧ Below w.heap.size w w' := by
  go_enter Try.func9, Try.ntmps9
  go_wp2_with (first | (go_at_call_of 12 (Value.agg #[.int .i64 a0, .int .i64 a1]); refine (refright_yes _ _ _ (by omega)).mono ?_; rintro e w1 ⟨rfl, hb1⟩; obtain ⟨hc1, hf1⟩ := bcell hb1; have hz1 := hb1.size; (try simp at hz1); have : w.heap.size < w1.heap.size := (by omega); have : w.heap.size + 1 < w1.heap.size := (by omega); have : w.heap.size + 1 + 1 < w1.heap.size := (by omega)) | (go_at_call_of 12 (Value.agg #[.int .i64 b0, .int .i64 b1]); refine (refright_no _ _ _ (by omega)).mono ?_; rintro e w2 ⟨rfl, hb2⟩; obtain ⟨hc2, hf2⟩ := bcell hb2; have hz2 := hb2.size; (try simp at hz2); have : w.heap.size < w2.heap.size := (by omega); have : w.heap.size + 1 < w2.heap.size := (by omega); have : w.heap.size + 1 + 1 < w2.heap.size := (by omega)))
  refine bodyPost_ret (v := .tuple #[.agg #[.int .i64 0, .int .i64 0], .bool false]) (by simp [results, Try.results9, go_sem, *]) rfl ⟨rfl, ?_⟩
  (repeat (first | exact Below.refl _ _ | (refine b_st ?_ (by first | (simp; done) | (simp; omega))) | (refine b_al ?_ (Nat.le_refl _) _) | refine b_dn ?_ | refine b_dr ?_ | (refine b_cl ?_ (Nat.le_refl _) (by assumption))))

/-- What Both and Hull tell. -/
def bothv (a0 a1 b0 b1 : Int) : Int × Int × Bool := if up2 a0 b0 < lo2 a1 b1 then (up2 a0 b0, lo2 a1 b1, true) else (0, 0, false)
def hullv (a0 a1 b0 b1 : Int) : Int × Int × Bool := if a0 < a1 ∧ b0 < b1 then (lo2 a0 b0, up2 a1 b1, true) else (0, 0, false)

theorem both_any (a0 a1 b0 b1 : Int) (w : World) :
    Calls Try.prog 6 #[.agg #[.int .i64 a0, .int .i64 a1], .agg #[.int .i64 b0, .int .i64 b1]] w fun e w' => e = .returned (.tuple #[.agg #[.int .i64 ((bothv a0 a1 b0 b1).1), .int .i64 ((bothv a0 a1 b0 b1).2.1)], .bool (bothv a0 a1 b0 b1).2.2]) ∧ Below w.heap.size w w' := by
  unfold bothv
  by_cases h : up2 a0 b0 < lo2 a1 b1
  · rw [if_pos h]; exact both_yes a0 a1 b0 b1 w h
  · rw [if_neg h]; exact both_no a0 a1 b0 b1 w h

theorem hull_any (a0 a1 b0 b1 : Int) (w : World) :
    Calls Try.prog 8 #[.agg #[.int .i64 a0, .int .i64 a1], .agg #[.int .i64 b0, .int .i64 b1]] w fun e w' => e = .returned (.tuple #[.agg #[.int .i64 ((hullv a0 a1 b0 b1).1), .int .i64 ((hullv a0 a1 b0 b1).2.1)], .bool (hullv a0 a1 b0 b1).2.2]) ∧ Below w.heap.size w w' := by
  unfold hullv
  by_cases h : a0 < a1
  · by_cases h2 : b0 < b1
    · rw [if_pos ⟨h, h2⟩]; exact hull_yes a0 a1 b0 b1 w h h2
    · rw [if_neg (fun k => h2 k.2)]; exact hull_nob a0 a1 b0 b1 w h h2
  · rw [if_neg (fun k => h k.1)]; exact hull_noa a0 a1 b0 b1 w h

theorem refboth_any (a0 a1 b0 b1 : Int) (w : World) :
    Calls Try.prog 7 #[.agg #[.int .i64 a0, .int .i64 a1], .agg #[.int .i64 b0, .int .i64 b1]] w fun e w' => e = .returned (.tuple #[.agg #[.int .i64 ((bothv a0 a1 b0 b1).1), .int .i64 ((bothv a0 a1 b0 b1).2.1)], .bool (bothv a0 a1 b0 b1).2.2]) ∧ Below w.heap.size w w' := by
  unfold bothv
  by_cases h : up2 a0 b0 < lo2 a1 b1
  · rw [if_pos h]; exact refboth_yes a0 a1 b0 b1 w h
  · rw [if_neg h]; exact refboth_no a0 a1 b0 b1 w h

theorem refhull_any (a0 a1 b0 b1 : Int) (w : World) :
    Calls Try.prog 9 #[.agg #[.int .i64 a0, .int .i64 a1], .agg #[.int .i64 b0, .int .i64 b1]] w fun e w' => e = .returned (.tuple #[.agg #[.int .i64 ((hullv a0 a1 b0 b1).1), .int .i64 ((hullv a0 a1 b0 b1).2.1)], .bool (hullv a0 a1 b0 b1).2.2]) ∧ Below w.heap.size w w' := by
  unfold hullv
  by_cases h : a0 < a1
  · by_cases h2 : b0 < b1
    · rw [if_pos ⟨h, h2⟩]; exact refhull_yes a0 a1 b0 b1 w h h2
    · rw [if_neg (fun k => h2 k.2)]; exact refhull_nob a0 a1 b0 b1 w h h2
  · rw [if_neg (fun k => h k.1)]; exact refhull_noa a0 a1 b0 b1 w h

theorem meets_any (a0 a1 b0 b1 : Int) (w : World) :
    Calls Try.prog 10 #[.agg #[.int .i64 a0, .int .i64 a1], .agg #[.int .i64 b0, .int .i64 b1]] w fun e w' => e = .returned (.bool (bothv a0 a1 b0 b1).2.2) ∧ Below w.heap.size w w' := by
  generalize hg : bothv a0 a1 b0 b1 = g
  obtain ⟨f, t, k⟩ := g
  have h : ∀ W : World, _ := fun W => both_any a0 a1 b0 b1 W
  rw [hg] at h
  have H := Lib.hid h
  clear h hg
  go_enter Try.func10, Try.ntmps10
  go_wp2_with (go_at_call 6; refine (H.out _).mono ?_; rintro e w1 ⟨rfl, hb1⟩; obtain ⟨hc1, hf1⟩ := bcell hb1; have hz1 := hb1.size; (try simp at hz1))
  go_ret
  refine ⟨rfl, ?_⟩
  (repeat (first | exact Below.refl _ _ | (refine b_st ?_ (by first | (simp; done) | (simp; omega))) | (refine b_al ?_ (Nat.le_refl _) _) | refine b_dn ?_ | refine b_dr ?_ | (refine b_cl ?_ (Nat.le_refl _) (by assumption))))

end Go.Proofs.Yteijjkdfffmikaa
