/- What breaks and goesOn of layer 13 leave. Conditions: as each theorem says. -/
import Derived.Test.YtojdaigilagppaaRows
import Derived.Test.YtojdaigilagppaaBase
import Derived.Test.YtojdaigilagppaaBookRow
import Derived.Test.YtojdaigilagppaaBox
import Derived.Test.YtojdaigilagppaaMeterMath
import Derived.Test.YtojdaigilagppaaMeterSt
import Derived.WalkKit
import Derived.WalkSpells
import Derived.WalkSmall
import Derived.Below
import Derived.Lib.Hide
import Derived.Shelf.Abstract
import Derived.BigQuiet
import Derived.OwnWalk
import Derived.Outline
namespace Go.Proofs.Ytojdaigilagppaa
open Go.RowKit

set_option maxRecDepth 20000 in
theorem breaks_any (g : Nat) (x : Nat → Int) (m : Mt) (n k : Nat) (q : Int) (is : Bool) (w : World) (hb : Cn w g x m n) (hn : n < 1024) (hk : k < 10) (hq : q = ((2 ^ k : Nat) : Int)) :
    Calls Try.prog 30 #[.pointer (some ⟨g, 0, none⟩), .int .i64 q, .bool is] w fun e w' => e = .returned (.tuple #[]) ∧ CnTo w g x m (orB n k is) w' := by
  subst hq
  have f := hb.cell (k := 33) (v := .int .i64 (n : Int)) rfl
  cases is with
  | false =>
    rw [orB_no]
    go_enter Try.func30, Try.ntmps30
    go_wp2
    refine bodyPost_end (results_none Try.results30 _ _ _) rfl ⟨rfl, Chg.refl hb⟩
  | true =>
    rw [orB_yes]
    obtain ⟨b, hbb⟩ : ∃ b, 2 ^ k = b := ⟨_, rfl⟩
    have hlt : b < 1024 := by rw [← hbb]; exact Nat.lt_of_le_of_lt (Nat.pow_le_pow_right (n := 2) (by omega) (by omega : k ≤ 9)) (by decide)
    rw [hbb]
    clear hbb hk
    have ho := or_nat n b hn hlt
    go_enter Try.func30, Try.ntmps30
    go_wp2_with (refine wpList_store_fld (by rfl) 3 _ _ rfl g 33 (.int .i64 ((n ||| b : Nat) : Int)) rfl rfl rfl _ _ hb (by rw [cnt_size]; decide) (by kernel_rfl) (fun W' u => ?_))
    refine bodyPost_end (results_none Try.results30 _ _ _) rfl ⟨rfl, (Chg.refl hb).upd u⟩

theorem goesOn_any (g : Nat) (x : Nat → Int) (m : Mt) (n : Nat) (k : Int) (w : World) (hb : Cn w g x m n) :
    Calls Try.prog 23 #[.pointer (some ⟨g, 0, none⟩), .int .i64 k] w fun e w' => e = .returned (.int .i64 (if k < 0 ∨ 3 < k then 2 else if m.now = 40320 then 4 else 0)) ∧ w = w' := by
  have f := hb.cell (k := 19) (v := .int .i64 m.now) rfl
  generalize m.now = a at f
  clear hb
  by_cases h0 : k < 0
  case pos =>
    rw [if_pos (Or.inl h0)]
    have d0 : decide (k < 0) = true := decide_eq_true h0
    clear h0
    go_enter Try.func23, Try.ntmps23
    go_wp2
    go_ret
    exact ⟨rfl, rfl⟩
  have d0 : decide (k < 0) = false := decide_eq_false h0
  by_cases h3 : 3 < k
  case pos =>
    rw [if_pos (Or.inr h3)]
    have d3 : decide (4 ≤ k) = true := decide_eq_true (by omega)
    clear h0 h3
    go_enter Try.func23, Try.ntmps23
    go_wp2
    go_ret
    exact ⟨rfl, rfl⟩
  have d3 : decide (4 ≤ k) = false := decide_eq_false (by omega)
  rw [if_neg (by omega)]
  by_cases ha : a = 40320
  case pos =>
    rw [if_pos ha]
    subst ha
    clear h0 h3
    go_enter Try.func23, Try.ntmps23
    go_wp2
    go_ret
    exact ⟨rfl, rfl⟩
  rw [if_neg ha]
  have da : (a == 40320) = false := by simpa using ha
  clear h0 h3
  go_enter Try.func23, Try.ntmps23
  go_wp2
  go_ret
  exact ⟨rfl, rfl⟩

end Go.Proofs.Ytojdaigilagppaa
