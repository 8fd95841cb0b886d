/- What Itoa and two return for the numbers that a name is made of, and what Name of layer 4 returns, for any number. Conditions: as each theorem says; the table of the days' names reads as the program lays it. -/
import Derived.Test.YtbldkhlkejoklaaDoorRows
import Derived.Test.YtbldkhlkejoklaaDoorMath
import Derived.Test.YtbldkhlkejoklaaDoorBase
import Derived.Test.YtbldkhlkejoklaaDoorDiv
import Derived.Test.YtbldkhlkejoklaaDoorWeekMath
import Derived.WalkKit
import Derived.WalkSpells
import Derived.WalkSmall
import Derived.Below
import Derived.Outline
import Derived.OwnWalk
import Derived.Deep.QuietTactic
import Derived.BigQuiet
import Derived.Lib.Hide
namespace Go.Proofs.YtbldkhlkejoklaaDoor
open Go.RowKit

/-- The table of the days' names reads as it is laid. -/
def Days (w : World) : Prop := ∀ k : Nat, k < 7 → w.cell? ⟨0, k, none⟩ = some (.string (dayB k))

theorem Days.lt {w : World} (h : Days w) : 0 < w.heap.size := World.block_lt_of_cell? w _ (h 0 (by omega))

theorem Days.below {w w' : World} (h : Days w) (hb : Below w.heap.size w w') : Days w' := fun k hk => c_cl (h k hk) hb

theorem digs_at (n : Nat) (h : n ≤ 9) :
    (⟨#[48, 49, 50, 51, 52, 53, 54, 55, 56, 57, 97, 98, 99, 100, 101, 102, 103, 104, 105, 106, 107, 108, 109, 110, 111, 112, 113, 114, 115, 116, 117, 118, 119, 120, 121, 122]⟩ : ByteArray).extract n (n + 1) = ⟨#[dg n]⟩ := by
  match n, h with
  | 0, _ => decide
  | 1, _ => decide
  | 2, _ => decide
  | 3, _ => decide
  | 4, _ => decide
  | 5, _ => decide
  | 6, _ => decide
  | 7, _ => decide
  | 8, _ => decide
  | 9, _ => decide

theorem small_dig (n : Nat) (w : World) (h : n ≤ 9) :
    Calls Tryd.prog 34 #[.int .i64 n] w fun e w' => e = .returned (.string ⟨#[dg n]⟩) ∧ w' = w := by
  have hd := Lib.hid (digs_at n h)
  have h' : (n : Int) < 10 := by omega
  go_enter Tryd.func34, Tryd.ntmps34
  go_wp2
  go_ret
  rw [hd.out]
  exact ⟨rfl, rfl⟩

theorem fint_dig (n : Nat) (w : World) (h : n ≤ 9) :
    Calls Tryd.prog 33 #[.int .i64 n, .int .i64 10] w fun e w' => e = .returned (.string ⟨#[dg n]⟩) ∧ w' = w := by
  have h' : (n : Int) < 100 := by omega
  go_enter Tryd.func33, Tryd.ntmps33
  go_wp2_with (go_at_call 34; refine (small_dig n _ h).mono ?_; rintro e w' ⟨rfl, rfl⟩)
  go_ret
  exact ⟨rfl, rfl⟩

theorem itoai_dig (n : Nat) (w : World) (h : n ≤ 9) :
    Calls Tryd.prog 32 #[.int .i64 n] w fun e w' => e = .returned (.string ⟨#[dg n]⟩) ∧ w' = w := by
  go_enter Tryd.func32, Tryd.ntmps32
  go_wp2_with (go_at_call 33; refine (fint_dig n _ h).mono ?_; rintro e w' ⟨rfl, rfl⟩)
  go_ret
  exact ⟨rfl, rfl⟩

theorem itoa_nat (n : Nat) (w : World) (h : n ≤ 9) :
    Calls Tryd.prog 24 #[.int .i64 n] w fun e w' => e = .returned (.string ⟨#[dg n]⟩) ∧ w' = w := by
  go_enter Tryd.func24, Tryd.ntmps24
  go_wp2_with (go_at_call 32; refine (itoai_dig n _ h).mono ?_; rintro e w' ⟨rfl, rfl⟩)
  go_ret
  exact ⟨rfl, rfl⟩

theorem itoa_dig (n : Int) (w : World) (h0 : 0 ≤ n) (h : n ≤ 9) :
    Calls Tryd.prog 24 #[.int .i64 n] w fun e w' => e = .returned (.string ⟨#[dg n]⟩) ∧ w' = w := by
  obtain ⟨k, rfl⟩ : ∃ k : Nat, n = k := ⟨n.toNat, by omega⟩
  exact itoa_nat k w (by omega)

theorem join2 (a b : UInt8) : (⟨#[a]⟩ : ByteArray) ++ ⟨#[b]⟩ = ⟨#[a, b]⟩ := by
  apply ByteArray.ext
  simp [ByteArray.data_append]

theorem two_dig (n : Int) (w : World) (h0 : 0 ≤ n) (h : n ≤ 99) :
    Calls Tryd.prog 25 #[.int .i64 n] w fun e w' => e = .returned (.string ⟨#[dg (n / 10), dg (n % 10)]⟩) ∧ w' = w := by
  have hj := Lib.hid (join2 (dg (n / 10)) (dg (n % 10)))
  have C := fun W => itoa_dig (n / 10) W (by omega) (by omega)
  have D := fun W => itoa_dig (n % 10) W (by omega) (by omega)
  go_enter Tryd.func25, Tryd.ntmps25
  go_wp2_with (first | (go_at_call 24; refine (C _).mono ?_; rintro e w' ⟨rfl, rfl⟩) | (go_at_call 24; refine (D _).mono ?_; rintro e w' ⟨rfl, rfl⟩))
  go_ret
  rw [← hj.out]
  exact ⟨rfl, rfl⟩

end Go.Proofs.YtbldkhlkejoklaaDoor
