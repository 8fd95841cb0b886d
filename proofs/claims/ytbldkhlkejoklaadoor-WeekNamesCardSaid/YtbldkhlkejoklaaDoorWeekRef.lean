/- What the document's own two and Name of layer 4 return, for any number of 64 bits. Conditions: none. -/
import Derived.Test.YtbldkhlkejoklaaDoorWeekNameC
import Derived.Laws.BytesArg
import Derived.RegionTactic
import Derived.Deep.RegionWith
namespace Go.Proofs.YtbldkhlkejoklaaDoor
open Go.RowKit

theorem refdays_at (k : Nat) (h : k < 7) :
    (⟨#[77, 111, 110, 84, 117, 101, 87, 101, 100, 84, 104, 117, 70, 114, 105, 83, 97, 116, 83, 117, 110]⟩ : ByteArray).extract (3 * k) (3 * k + 3) = ⟨#[(dayC k).1, (dayC k).2.1, (dayC k).2.2]⟩ := by
  match k, h with
  | 0, _ => decide
  | 1, _ => decide
  | 2, _ => decide
  | 3, _ => decide
  | 4, _ => decide
  | 5, _ => decide
  | 6, _ => decide

/-- The text of one byte, of two, wherever they lie. -/
theorem conv1 (W : World) (N : Nat) (x : Int) (h : W.cell? ⟨N, 0, none⟩ = some (.int .u8 x)) :
    (convert 44 9 (.slice (some ⟨N, 0, none⟩) 1 1)).run Tryd.prog W = .ok (.string ⟨#[UInt8.ofNat x.toNat]⟩) W :=
  run_convert_bytes_arg W 44 5 Tryd.underlying44 Tryd.underlying5 N 0 1 1 [x] rfl (fun i hi => by
    obtain rfl : i = 0 := by omega
    exact h) 9 Tryd.underlying9

theorem conv2 (W : World) (N : Nat) (x y : Int) (h : W.cell? ⟨N, 0, none⟩ = some (.int .u8 x)) (h2 : W.cell? ⟨N, 1, none⟩ = some (.int .u8 y)) :
    (convert 44 9 (.slice (some ⟨N, 0, none⟩) 2 2)).run Tryd.prog W = .ok (.string ⟨#[UInt8.ofNat x.toNat, UInt8.ofNat y.toNat]⟩) W :=
  run_convert_bytes_arg W 44 5 Tryd.underlying44 Tryd.underlying5 N 0 2 2 [x, y] rfl (fun i hi => by
    rcases (by omega : i = 0 ∨ i = 1) with rfl | rfl
    · exact h
    · exact h2) 9 Tryd.underlying9

theorem reftwo_dig (n : Int) (w : World) (h0 : 0 ≤ n) (h : n ≤ 99) :
    Calls Tryd.prog 26 #[.int .i64 n] w fun e w' => e = .returned (.string ⟨#[dg (n / 10), dg (n % 10)]⟩) ∧ Below w.heap.size w w' := by
  have K := conv2 (w.alloc (.cells #[.int .u8 (48 + n / 10 % 10), .int .u8 (48 + n % 10)] 5)) w.heap.size (48 + n / 10 % 10) (48 + n % 10) (by simp) (by simp)
  have e1 := Lib.hid (show n / 10 % 10 = n / 10 by omega)
  go_enter Tryd.func26, Tryd.ntmps26
  go_wp2
  go_ret
  rw [e1.out]
  exact ⟨rfl, (Below.refl _ _).alloc (Nat.le_refl _) _⟩

end Go.Proofs.YtbldkhlkejoklaaDoor
