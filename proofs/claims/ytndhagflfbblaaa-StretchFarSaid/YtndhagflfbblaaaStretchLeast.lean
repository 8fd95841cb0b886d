/- What First of layer 14 and the document's return. Conditions: none. -/
import Derived.Test.YtndhagflfbblaaaRows
import Derived.Test.YtndhagflfbblaaaBase
import Derived.Test.YtndhagflfbblaaaBookRow
import Derived.Test.YtndhagflfbblaaaBox
import Derived.Test.YtndhagflfbblaaaSpellMath
import Derived.Test.YtndhagflfbblaaaMeterMath
import Derived.Test.YtndhagflfbblaaaMeterSt
import Derived.Test.YtndhagflfbblaaaMeterChk
import Derived.Test.YtndhagflfbblaaaStretchMath
import Derived.Test.YtndhagflfbblaaaStretchOn
import Derived.Test.YtndhagflfbblaaaStretchSt
import Derived.Test.YtndhagflfbblaaaMeterMayR
import Derived.Test.YtndhagflfbblaaaStretchFarM
import Derived.Test.YtndhagflfbblaaaStretchChk
import Derived.WalkKit
import Derived.WalkSpells
import Derived.WalkSmall
import Derived.Below
import Derived.Lib.Hide
import Derived.Shelf.Abstract
import Derived.BigQuiet
import Derived.OwnWalk
import Derived.Outline
import Derived.Deep.DeepCutAuto
import Derived.StillTailTactics
import Derived.Maps.RangeWalk
import Derived.OrdersHeld
import Derived.Great.BuildSlice
namespace Go.Proofs.Ytndhagflfbblaaa
open Go.RowKit

theorem fi_index (y : Nat → Int) (w : World) : ∀ k, k < 10 → (Instr.index 29 (.agg (tn y)) (.int .i64 (k : Nat))).run Try.prog w = .ok (.int .i64 (y k)) w := by
  intro i hi
  have : i = 0 ∨ i = 1 ∨ i = 2 ∨ i = 3 ∨ i = 4 ∨ i = 5 ∨ i = 6 ∨ i = 7 ∨ i = 8 ∨ i = 9 := by omega
  rcases this with rfl | rfl | rfl | rfl | rfl | rfl | rfl | rfl | rfl | rfl <;> (show _ = _; kernel_rfl)

set_option maxRecDepth 20000 in
set_option maxHeartbeats 1600000 in
theorem first14_any (y : Nat → Int) (w : World) :
    Calls Try.prog 12 #[.agg (tn y)] w fun e w' => e = .returned (.int .i64 (firstV y)) ∧ Below w.heap.size w w' := by
  obtain ⟨V, hV⟩ : ∃ V, firstV y = V := ⟨_, rfl⟩
  rw [hV]
  have HV : Hid (leastF y 10 = V) := Lib.hid hV
  clear hV
  have BF : Bx (w.alloc (.cells (tn y) 29)) w.heap.size 29 (tn y) := Bx.new _ _ rfl
  go_enter Try.func12, Try.ntmps12
  go_wp2_with (refine wpList_load_box (by rfl) 29 _ rfl (w.heap.size) rfl 29 (tn y) _ BF Try.underlying29 rfl (by kernel_rfl) ?_)
  clear BF
  go_loop [3, 7] (fun b i => ∃ c : Nat, c ≤ 10 ∧ i = .int .i64 c ∧ ∃ v : Int, b = .int .i64 v ∧ Hid (leastF y c = v)) (fun _ i => 10 - (intOf i).toNat)
  case atStart => exact ⟨0, Nat.zero_le _, rfl, -1, rfl, Lib.hid rfl⟩
  case round =>
    obtain ⟨c, hc, rfl, v, rfl, HB⟩ := hrel
    by_cases hlt : c < 10
    case neg =>
      obtain rfl : c = 10 := by omega
      obtain rfl : v = V := HB.out.symm.trans HV.out
      go_wp2
      go_ret
      exact ⟨rfl, (Below.refl _ _).alloc (Nat.le_refl _) _⟩
    have hi0 := fun W => fi_index y W c hlt
    have hl : leastF y (c + 1) = if 0 ≤ y c ∧ (leastF y c < 0 ∨ y c < leastF y c) then y c else leastF y c := rfl
    rw [HB.out] at hl
    obtain ⟨n, hn⟩ : ∃ n, y c = n := ⟨_, rfl⟩
    rw [hn] at hi0 hl
    clear hn
    by_cases h0 : 0 ≤ n
    case neg =>
      have d0 : decide (0 ≤ n) = false := decide_eq_false h0
      rw [if_neg (fun h => h0 h.1)] at hl
      have HL := Lib.hid hl
      clear hl
      go_wp2
      go_round
      case rel => exact ⟨c + 1, by omega, by go_num, v, rfl, HL⟩
      case measure => simp [intOf]; omega
    have d0 : decide (0 ≤ n) = true := decide_eq_true h0
    by_cases h1 : v < 0
    case pos =>
      have d1 : decide (v < 0) = true := decide_eq_true h1
      rw [if_pos ⟨h0, Or.inl h1⟩] at hl
      have HL := Lib.hid hl
      clear hl
      go_wp2
      go_round
      case rel => exact ⟨c + 1, by omega, by go_num, n, rfl, HL⟩
      case measure => simp [intOf]; omega
    have d1 : decide (v < 0) = false := decide_eq_false h1
    by_cases h2 : n < v
    case pos =>
      have d2 : decide (n < v) = true := decide_eq_true h2
      rw [if_pos ⟨h0, Or.inr h2⟩] at hl
      have HL := Lib.hid hl
      clear hl
      go_wp2
      go_round
      case rel => exact ⟨c + 1, by omega, by go_num, n, rfl, HL⟩
      case measure => simp [intOf]; omega
    have d2 : decide (n < v) = false := decide_eq_false h2
    rw [if_neg (fun h => h.2.elim h1 h2)] at hl
    have HL := Lib.hid hl
    clear hl
    go_wp2
    go_round
    case rel => exact ⟨c + 1, by omega, by go_num, v, rfl, HL⟩
    case measure => simp [intOf]; omega

set_option maxRecDepth 20000 in
set_option maxHeartbeats 1600000 in
theorem reffirst14_any (y : Nat → Int) (w : World) :
    Calls Try.prog 13 #[.agg (tn y)] w fun e w' => e = .returned (.int .i64 (firstV y)) ∧ Below w.heap.size w w' := by
  obtain ⟨V, hV⟩ : ∃ V, firstV y = V := ⟨_, rfl⟩
  rw [hV]
  have HV : Hid (leastF y 10 = V) := Lib.hid hV
  clear hV
  have BF : Bx (w.alloc (.cells (tn y) 28)) w.heap.size 28 (tn y) := Bx.new _ _ rfl
  go_enter Try.func13, Try.ntmps13
  go_wp2
  go_loop [3, 4] (fun b i => ∃ c : Nat, c ≤ 10 ∧ i = .int .i64 c ∧ ∃ v : Int, b = .int .i64 v ∧ Hid (leastF y c = v)) (fun _ i => 10 - (intOf i).toNat)
  case atStart => exact ⟨0, Nat.zero_le _, rfl, -1, rfl, Lib.hid rfl⟩
  case round =>
    obtain ⟨c, hc, rfl, v, rfl, HB⟩ := hrel
    by_cases hlt : c < 10
    case neg =>
      obtain rfl : c = 10 := by omega
      obtain rfl : v = V := HB.out.symm.trans HV.out
      go_wp2
      go_ret
      exact ⟨rfl, (Below.refl _ _).alloc (Nat.le_refl _) _⟩
    have hi0 : (w.alloc (.cells (tn y) 28)).cell? ⟨w.heap.size, c, none⟩ = some (.int .i64 (y c)) := BF.cell (tn_at y c hlt)
    have hl : leastF y (c + 1) = if 0 ≤ y c ∧ (leastF y c < 0 ∨ y c < leastF y c) then y c else leastF y c := rfl
    rw [HB.out] at hl
    obtain ⟨n, hn⟩ : ∃ n, y c = n := ⟨_, rfl⟩
    rw [hn] at hi0 hl
    clear hn
    by_cases h0 : 0 ≤ n
    case neg =>
      have d0 : decide (0 ≤ n) = false := decide_eq_false h0
      rw [if_neg (fun h => h0 h.1)] at hl
      have HL := Lib.hid hl
      clear hl
      go_wp2
      go_round
      case rel => exact ⟨c + 1, by omega, by go_num, v, rfl, HL⟩
      case measure => simp [intOf]; omega
    have d0 : decide (0 ≤ n) = true := decide_eq_true h0
    by_cases h1 : v < 0
    case pos =>
      have d1 : decide (v < 0) = true := decide_eq_true h1
      rw [if_pos ⟨h0, Or.inl h1⟩] at hl
      have HL := Lib.hid hl
      clear hl
      go_wp2
      go_round
      case rel => exact ⟨c + 1, by omega, by go_num, n, rfl, HL⟩
      case measure => simp [intOf]; omega
    have d1 : decide (v < 0) = false := decide_eq_false h1
    by_cases h2 : n < v
    case pos =>
      have d2 : decide (n < v) = true := decide_eq_true h2
      rw [if_pos ⟨h0, Or.inr h2⟩] at hl
      have HL := Lib.hid hl
      clear hl
      go_wp2
      go_round
      case rel => exact ⟨c + 1, by omega, by go_num, n, rfl, HL⟩
      case measure => simp [intOf]; omega
    have d2 : decide (n < v) = false := decide_eq_false h2
    rw [if_neg (fun h => h.2.elim h1 h2)] at hl
    have HL := Lib.hid hl
    clear hl
    go_wp2
    go_round
    case rel => exact ⟨c + 1, by omega, by go_num, v, rfl, HL⟩
    case measure => simp [intOf]; omega

end Go.Proofs.Ytndhagflfbblaaa
