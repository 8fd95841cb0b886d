/- Texts as bytes: a byte of a text as a number, the text of one byte and of two wherever they lie. Conditions: none beyond each lemma's own premises. -/
import Derived.Test.YtdepglceffpfhaaDoorRows
import Derived.Test.YtdepglceffpfhaaDoorWeekMath
import Derived.WalkKit
import Derived.Laws.BytesArg
namespace Go.Proofs.YtdepglceffpfhaaDoor
open Go.RowKit

theorem byte_bt (t : ByteArray) (i : Nat) (h : i < t.size) : ((t[i]'h).toNat : Int) = bt t i := by
  have h' : i < t.data.size := h
  have e : t.data.getD i 0 = t[i]'h := by
    unfold Array.getD
    rw [dif_pos h']
    rfl
  unfold bt
  rw [e]

theorem wrap_of {n : Int} (h0 : -9223372036854775808 ≤ n) (h1 : n ≤ 9223372036854775807) : IntKind.i64.wrap n = n := IntWalk.i64_in n ⟨h0, h1⟩

theorem wrap_u8 {n : Int} (h0 : 0 ≤ n) (h1 : n ≤ 255) : IntKind.u8.wrap n = n := by
  unfold IntKind.wrap
  simp [IntKind.bits, IntKind.signed]
  omega

/-- The text of one byte, of two, wherever they lie. -/
theorem convB1 (W : World) (N : Nat) (x : Int) (h : W.cell? ⟨N, 0, none⟩ = some (.int .u8 x)) :
    (convert 78 9 (.slice (some ⟨N, 0, none⟩) 1 1)).run Tryd.prog W = .ok (.string ⟨#[UInt8.ofNat x.toNat]⟩) W :=
  run_convert_bytes_arg W 78 5 Tryd.underlying78 Tryd.underlying5 N 0 1 1 [x] rfl (fun i hi => by
    obtain rfl : i = 0 := by omega
    exact h) 9 Tryd.underlying9

theorem cell_new0 (W : World) (x y : Int) (T : TypeId) : (W.alloc (.cells #[.int .u8 x, .int .u8 y] T)).cell? ⟨W.heap.size, 0, none⟩ = some (.int .u8 x) := by simp
theorem cell_new1 (W : World) (x y : Int) (T : TypeId) : (W.alloc (.cells #[.int .u8 x, .int .u8 y] T)).cell? ⟨W.heap.size, 1, none⟩ = some (.int .u8 y) := by simp

theorem convB2 (W : World) (N : Nat) (x y : Int) (h : W.cell? ⟨N, 0, none⟩ = some (.int .u8 x)) (h2 : W.cell? ⟨N, 1, none⟩ = some (.int .u8 y)) :
    (convert 78 9 (.slice (some ⟨N, 0, none⟩) 2 2)).run Tryd.prog W = .ok (.string ⟨#[UInt8.ofNat x.toNat, UInt8.ofNat y.toNat]⟩) W :=
  run_convert_bytes_arg W 78 5 Tryd.underlying78 Tryd.underlying5 N 0 2 2 [x, y] rfl (fun i hi => by
    rcases (by omega : i = 0 ∨ i = 1) with rfl | rfl
    · exact h
    · exact h2) 9 Tryd.underlying9

end Go.Proofs.YtdepglceffpfhaaDoor
