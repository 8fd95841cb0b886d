/- What the closure of Of, check, Latest, Regular of layer 12 and the document's Check return. Conditions: none beyond each lemma's own premises. -/
import Derived.Test.YtojdaigilagppaaRows
import Derived.Test.YtojdaigilagppaaBase
import Derived.Test.YtojdaigilagppaaBookRow
import Derived.Test.YtojdaigilagppaaBookLeaf
import Derived.Test.YtojdaigilagppaaBookNum
import Derived.Test.YtojdaigilagppaaBookBel
import Derived.Test.YtojdaigilagppaaBookOrd
import Derived.Test.YtojdaigilagppaaBookLim
import Derived.Test.YtojdaigilagppaaBookMayR
import Derived.Test.YtojdaigilagppaaBookLaws
import Derived.Test.YtojdaigilagppaaIvalLeaf
import Derived.Test.YtojdaigilagppaaBox
import Derived.Test.YtojdaigilagppaaSpellMath
import Derived.WalkKit
import Derived.WalkSpells
import Derived.WalkSmall
import Derived.Below
import Derived.Lib.Hide
import Derived.BigQuiet
import Derived.OwnWalk
import Derived.Outline
namespace Go.Proofs.Ytojdaigilagppaa
open Go.RowKit

/-- The closure: does the spell last n? -/
theorem lasts_any (g : Nat) (f t n : Int) (w : World) (h0 : w.cell? ⟨g, 0, none⟩ = some (.int .i64 f)) (h1 : w.cell? ⟨g, 1, none⟩ = some (.int .i64 t)) (b0 : 0 ≤ f) (b1 : f ≤ t) (b2 : t ≤ 40320) :
    Calls Try.prog 34 #[.int .i64 n, .pointer (some ⟨g, 0, none⟩)] w fun e w' => e = .returned (.bool (lastB (t - f) n)) ∧ w = w' := by
  have hd : decide (n ≤ t - f) = lastB (t - f) n := rfl
  generalize lastB (t - f) n = v at hd
  go_enter Try.func34, Try.ntmps34
  go_wp2
  go_ret
  exact ⟨rfl, rfl⟩

set_option maxRecDepth 20000 in
set_option maxHeartbeats 1600000 in
open Classical in
theorem scheck_any (x : Nat → Int) (f t dawn : Int) (w : World) :
    Calls Try.prog 33 #[.agg (bk x), .agg #[.int .i64 f, .int .i64 t], .int .i64 dawn] w fun e w' => e = .returned (.int .i64 (spellErr x f t dawn)) ∧ Below w.heap.size w w' := by
  have C1 := fun W => check7_any x W
  have RB : RdI ((w.alloc (.cells (bk x) 23)).alloc (.cells #[.int .i64 f, .int .i64 t] 57)) w.heap.size 0 x := (RdI.new x 23 rfl).alloc _
  by_cases hm : May x
  case neg =>
    rw [spellErr_no f t dawn hm]
    simp only [if_neg hm] at C1
    clear hm
    go_enter Try.func33, Try.ntmps33
    go_wp2_with (first | refine wpList_load_bk (by rfl) 23 _ rfl _ _ rfl x _ (RB) Try.underlying23 rfl (by kernel_rfl) ?_ | (go_at_call 20; (with_reducible refine (C1 _).mono ?_); rintro e w1 ⟨rfl, hb1⟩; obtain ⟨hc1, hf1⟩ := bcell hb1; have hz1 := hb1.size; (try simp at hz1); have hl1 : w.heap.size + 1 < w1.heap.size := (by omega)))
    go_ret
    refine ⟨rfl, ?_⟩
    (repeat (first | exact Below.refl _ _ | (refine b_st ?_ (by first | (simp; done) | (simp; omega))) | (refine b_al ?_ (Nat.le_refl _) _) | refine b_dn ?_ | refine b_dr ?_ | (refine b_cl ?_ (Nat.le_refl _) (by assumption))))
  rw [spellErr_yes f t dawn hm]
  simp only [if_pos hm] at C1
  clear hm
  by_cases c0 : t ≤ f
  case pos =>
    rw [show (if t ≤ f then (3 : Int) else if f < 0 ∨ 40320 < t then 4 else if dawn < 0 ∨ f < dawn then 1 else 0) = 3 by split <;> first | rfl | omega | (split <;> first | rfl | omega | (split <;> first | rfl | omega))]
    have d0 : decide (t ≤ f) = true := decide_eq_true c0
    have e0 : decide (f < t) = false := decide_eq_false (by omega)
    go_enter Try.func33, Try.ntmps33
    go_wp2_with (first | refine wpList_load_bk (by rfl) 23 _ rfl _ _ rfl x _ (RB) Try.underlying23 rfl (by kernel_rfl) ?_ | (go_at_call 20; (with_reducible refine (C1 _).mono ?_); rintro e w1 ⟨rfl, hb1⟩; obtain ⟨hc1, hf1⟩ := bcell hb1; have hz1 := hb1.size; (try simp at hz1); have hl1 : w.heap.size + 1 < w1.heap.size := (by omega)))
    go_ret
    refine ⟨rfl, ?_⟩
    (repeat (first | exact Below.refl _ _ | (refine b_st ?_ (by first | (simp; done) | (simp; omega))) | (refine b_al ?_ (Nat.le_refl _) _) | refine b_dn ?_ | refine b_dr ?_ | (refine b_cl ?_ (Nat.le_refl _) (by assumption))))
  have n0 : f < t := by omega
  have d0 : decide (t ≤ f) = false := decide_eq_false c0
  have e0 : decide (f < t) = true := decide_eq_true (by omega)
  clear c0
  by_cases c1 : f < 0
  case pos =>
    rw [show (if t ≤ f then (3 : Int) else if f < 0 ∨ 40320 < t then 4 else if dawn < 0 ∨ f < dawn then 1 else 0) = 4 by split <;> first | rfl | omega | (split <;> first | rfl | omega | (split <;> first | rfl | omega))]
    have d1 : decide (f < 0) = true := decide_eq_true c1
    skip
    go_enter Try.func33, Try.ntmps33
    go_wp2_with (first | refine wpList_load_bk (by rfl) 23 _ rfl _ _ rfl x _ (RB) Try.underlying23 rfl (by kernel_rfl) ?_ | (go_at_call 20; (with_reducible refine (C1 _).mono ?_); rintro e w1 ⟨rfl, hb1⟩; obtain ⟨hc1, hf1⟩ := bcell hb1; have hz1 := hb1.size; (try simp at hz1); have hl1 : w.heap.size + 1 < w1.heap.size := (by omega)))
    go_ret
    refine ⟨rfl, ?_⟩
    (repeat (first | exact Below.refl _ _ | (refine b_st ?_ (by first | (simp; done) | (simp; omega))) | (refine b_al ?_ (Nat.le_refl _) _) | refine b_dn ?_ | refine b_dr ?_ | (refine b_cl ?_ (Nat.le_refl _) (by assumption))))
  have n1 : 0 ≤ f := by omega
  have d1 : decide (f < 0) = false := decide_eq_false c1
  skip
  clear c1
  by_cases c2 : 40320 < t
  case pos =>
    rw [show (if t ≤ f then (3 : Int) else if f < 0 ∨ 40320 < t then 4 else if dawn < 0 ∨ f < dawn then 1 else 0) = 4 by split <;> first | rfl | omega | (split <;> first | rfl | omega | (split <;> first | rfl | omega))]
    have d2 : decide (40320 < t) = true := decide_eq_true c2
    skip
    go_enter Try.func33, Try.ntmps33
    go_wp2_with (first | refine wpList_load_bk (by rfl) 23 _ rfl _ _ rfl x _ (RB) Try.underlying23 rfl (by kernel_rfl) ?_ | (go_at_call 20; (with_reducible refine (C1 _).mono ?_); rintro e w1 ⟨rfl, hb1⟩; obtain ⟨hc1, hf1⟩ := bcell hb1; have hz1 := hb1.size; (try simp at hz1); have hl1 : w.heap.size + 1 < w1.heap.size := (by omega)))
    go_ret
    refine ⟨rfl, ?_⟩
    (repeat (first | exact Below.refl _ _ | (refine b_st ?_ (by first | (simp; done) | (simp; omega))) | (refine b_al ?_ (Nat.le_refl _) _) | refine b_dn ?_ | refine b_dr ?_ | (refine b_cl ?_ (Nat.le_refl _) (by assumption))))
  have n2 : t ≤ 40320 := by omega
  have d2 : decide (40320 < t) = false := decide_eq_false c2
  skip
  clear c2
  by_cases c3 : dawn < 0
  case pos =>
    rw [show (if t ≤ f then (3 : Int) else if f < 0 ∨ 40320 < t then 4 else if dawn < 0 ∨ f < dawn then 1 else 0) = 1 by split <;> first | rfl | omega | (split <;> first | rfl | omega | (split <;> first | rfl | omega))]
    have d3 : decide (dawn < 0) = true := decide_eq_true c3
    skip
    go_enter Try.func33, Try.ntmps33
    go_wp2_with (first | refine wpList_load_bk (by rfl) 23 _ rfl _ _ rfl x _ (RB) Try.underlying23 rfl (by kernel_rfl) ?_ | (go_at_call 20; (with_reducible refine (C1 _).mono ?_); rintro e w1 ⟨rfl, hb1⟩; obtain ⟨hc1, hf1⟩ := bcell hb1; have hz1 := hb1.size; (try simp at hz1); have hl1 : w.heap.size + 1 < w1.heap.size := (by omega)))
    go_ret
    refine ⟨rfl, ?_⟩
    (repeat (first | exact Below.refl _ _ | (refine b_st ?_ (by first | (simp; done) | (simp; omega))) | (refine b_al ?_ (Nat.le_refl _) _) | refine b_dn ?_ | refine b_dr ?_ | (refine b_cl ?_ (Nat.le_refl _) (by assumption))))
  have n3 : 0 ≤ dawn := by omega
  have d3 : decide (dawn < 0) = false := decide_eq_false c3
  skip
  clear c3
  by_cases c4 : f < dawn
  case pos =>
    rw [show (if t ≤ f then (3 : Int) else if f < 0 ∨ 40320 < t then 4 else if dawn < 0 ∨ f < dawn then 1 else 0) = 1 by split <;> first | rfl | omega | (split <;> first | rfl | omega | (split <;> first | rfl | omega))]
    have d4 : decide (f < dawn) = true := decide_eq_true c4
    skip
    go_enter Try.func33, Try.ntmps33
    go_wp2_with (first | refine wpList_load_bk (by rfl) 23 _ rfl _ _ rfl x _ (RB) Try.underlying23 rfl (by kernel_rfl) ?_ | (go_at_call 20; (with_reducible refine (C1 _).mono ?_); rintro e w1 ⟨rfl, hb1⟩; obtain ⟨hc1, hf1⟩ := bcell hb1; have hz1 := hb1.size; (try simp at hz1); have hl1 : w.heap.size + 1 < w1.heap.size := (by omega)))
    go_ret
    refine ⟨rfl, ?_⟩
    (repeat (first | exact Below.refl _ _ | (refine b_st ?_ (by first | (simp; done) | (simp; omega))) | (refine b_al ?_ (Nat.le_refl _) _) | refine b_dn ?_ | refine b_dr ?_ | (refine b_cl ?_ (Nat.le_refl _) (by assumption))))
  have n4 : dawn ≤ f := by omega
  have d4 : decide (f < dawn) = false := decide_eq_false c4
  skip
  clear c4
  rw [show (if t ≤ f then (3 : Int) else if f < 0 ∨ 40320 < t then 4 else if dawn < 0 ∨ f < dawn then 1 else 0) = 0 by rw [if_neg (by omega), if_neg (by omega), if_neg (by omega)]]
  go_enter Try.func33, Try.ntmps33
  go_wp2_with (first | refine wpList_load_bk (by rfl) 23 _ rfl _ _ rfl x _ (RB) Try.underlying23 rfl (by kernel_rfl) ?_ | (go_at_call 20; (with_reducible refine (C1 _).mono ?_); rintro e w1 ⟨rfl, hb1⟩; obtain ⟨hc1, hf1⟩ := bcell hb1; have hz1 := hb1.size; (try simp at hz1); have hl1 : w.heap.size + 1 < w1.heap.size := (by omega)))
  go_ret
  refine ⟨rfl, ?_⟩
  (repeat (first | exact Below.refl _ _ | (refine b_st ?_ (by first | (simp; done) | (simp; omega))) | (refine b_al ?_ (Nat.le_refl _) _) | refine b_dn ?_ | refine b_dr ?_ | (refine b_cl ?_ (Nat.le_refl _) (by assumption))))

/-- The last minute with which a rest of n minutes can begin. -/
def lastV (x : Nat → Int) (dawn n : Int) : Int := max 0 (dawn + x 11 - n)
open Classical in
noncomputable def lastErr (x : Nat → Int) (dawn : Int) : Int := if May x then (if dawn < 0 ∨ 40320 < dawn then 1 else 0) else 14
theorem lastErr_no {x : Nat → Int} (dawn : Int) (h : ¬ May x) : lastErr x dawn = 14 := by unfold lastErr; rw [if_neg h]
theorem lastErr_yes {x : Nat → Int} (dawn : Int) (h : May x) : lastErr x dawn = if dawn < 0 ∨ 40320 < dawn then 1 else 0 := by unfold lastErr; rw [if_pos h]
theorem lastErr_ok {x : Nat → Int} {dawn : Int} : lastErr x dawn = 0 ↔ May x ∧ 0 ≤ dawn ∧ dawn ≤ 40320 := by
  by_cases h : May x
  · rw [lastErr_yes dawn h]
    constructor
    · intro e
      split at e
      · omega
      · exact ⟨h, by omega⟩
    · intro ⟨_, h⟩
      rw [if_neg (by omega)]
  · rw [lastErr_no dawn h]
    simp [h]
/-- What last hands back: the minute, or 0 and the error. -/
noncomputable def lastR (x : Nat → Int) (dawn n : Int) : Int := if lastErr x dawn = 0 then lastV x dawn n else 0

end Go.Proofs.Ytojdaigilagppaa
