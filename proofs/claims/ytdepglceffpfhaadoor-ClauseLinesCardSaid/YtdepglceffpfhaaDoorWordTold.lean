/- What Told and Span of layer 6 return, and the document's own, for any span and any text. Conditions: as each theorem says; the program's listed variables are laid. -/
import Derived.Test.YtdepglceffpfhaaDoorWordPrint
import Derived.Test.YtdepglceffpfhaaDoorWordNumR
import Derived.Test.YtdepglceffpfhaaDoorWordHeap
import Derived.Lib.ItoaLen
import Derived.BigQuiet
namespace Go.Proofs.YtdepglceffpfhaaDoor
open Go.RowKit

theorem itoaB_size {n : Int} (h0 : -9223372036854775808 ≤ n) (h1 : n ≤ 9223372036854775807) : (itoaB n).size ≤ 21 := by
  have := Lib.itoa_length_le n h0 h1
  rw [← itoaB_list, size_list] at this
  exact this

set_option maxHeartbeats 1000000 in
theorem told_tab (x y : Int) (w : World) (ht : Lib.TabIs Tryd.prog w "internal/strconv.uint64pow10" .u64 Lib.pow10Tab) (hx0 : -9223372036854775808 ≤ x) (hx1 : x ≤ 9223372036854775807) (hy0 : -9223372036854775808 ≤ y) (hy1 : y ≤ 9223372036854775807) :
    Calls Tryd.prog 32 #[.agg #[.int .i64 x, .int .i64 y]] w fun e w' => e = .returned (.string (toldB x y)) ∧ Below w.heap.size w w' := by
  have C1 := fun (p : BelowOf (w.alloc (.cells #[.int .i64 x, .int .i64 y] 60))) => print_tab x p.world (var_below (var_below ht ((Below.refl _ _).alloc (Nat.le_refl _) _)) p.ok) hx0 hx1
  have C2 := fun (p : BelowOf (w.alloc (.cells #[.int .i64 x, .int .i64 y] 60))) => print_tab y p.world (var_below (var_below ht ((Below.refl _ _).alloc (Nat.le_refl _) _)) p.ok) hy0 hy1
  have HT := Lib.hid (show toldB x y = (itoaB x ++ ⟨#[45]⟩) ++ itoaB y from rfl)
  have zx := itoaB_size hx0 hx1
  have zy := itoaB_size hy0 hy1
  generalize itoaB x = a at C1 HT zx
  generalize itoaB y = b at C2 HT zy
  have q1 : ∀ p : BelowOf (w.alloc (.cells #[.int .i64 x, .int .i64 y] 60)), p.world.cell? ⟨w.heap.size, 0, none⟩ = some (.int .i64 x) := fun p => p.cell (by simp)
  have q2 : ∀ p : BelowOf (w.alloc (.cells #[.int .i64 x, .int .i64 y] 60)), p.world.cell? ⟨w.heap.size, 1, none⟩ = some (.int .i64 y) := fun p => p.cell (by simp)
  have r1 : ∀ W : World, (Op.stringOp .add a ⟨#[45]⟩).run Tryd.prog W = .ok (.string (a ++ ⟨#[45]⟩)) W := fun W => run_string_add_sum W _ _ (by show a.size + 1 ≤ _; omega)
  have r2 : ∀ W : World, (Op.stringOp .add (a ++ ⟨#[45]⟩) b).run Tryd.prog W = .ok (.string ((a ++ ⟨#[45]⟩) ++ b)) W := fun W => run_string_add_sum W _ _ (by rw [ByteArray.size_append]; show a.size + 1 + b.size ≤ _; omega)
  go_enter Tryd.func32, Tryd.ntmps32
  go_wp2
  refine wp_region_bel (by kernel_rfl) (by kernel_rfl) ?_
  repeat (go_big_quiet_step (first
    | (go_at_call 45; (with_reducible exact Calls.bel_of (C1 _)))
    | (go_at_call 45; (with_reducible exact Calls.bel_of (C2 _)))))
  refine wpQuiet_nil ?_
  refine bel_all fun wq hbq => ?_
  go_wp2
  go_ret
  exact ⟨by rw [HT.out]; rfl, ((Below.refl _ _).alloc (Nat.le_refl _) _).trans (hbq.mono (by simp))⟩

theorem told_any (x y : Int) (w : World) (hl : Laid6 w) (hx0 : -9223372036854775808 ≤ x) (hx1 : x ≤ 9223372036854775807) (hy0 : -9223372036854775808 ≤ y) (hy1 : y ≤ 9223372036854775807) :
    Calls Tryd.prog 32 #[.agg #[.int .i64 x, .int .i64 y]] w fun e w' => e = .returned (.string (toldB x y)) ∧ Below w.heap.size w w' := told_tab x y w hl.tab hx0 hx1 hy0 hy1

set_option maxHeartbeats 1000000 in
theorem reftold_any (x y : Int) (w : World) (hx0 : -9223372036854775808 ≤ x) (hx1 : x ≤ 9223372036854775807) (hy0 : -9223372036854775808 ≤ y) (hy1 : y ≤ 9223372036854775807) :
    Calls Tryd.prog 33 #[.agg #[.int .i64 x, .int .i64 y]] w fun e w' => e = .returned (.string (toldB x y)) ∧ Below w.heap.size w w' := by
  have C1 := fun (p : BelowOf (w.alloc (.cells #[.int .i64 x, .int .i64 y] 60))) => refprint_any x p.world hx0 hx1
  have C2 := fun (p : BelowOf (w.alloc (.cells #[.int .i64 x, .int .i64 y] 60))) => refprint_any y p.world hy0 hy1
  have HT := Lib.hid (show toldB x y = (itoaB x ++ ⟨#[45]⟩) ++ itoaB y from rfl)
  have zx := itoaB_size hx0 hx1
  have zy := itoaB_size hy0 hy1
  generalize itoaB x = a at C1 HT zx
  generalize itoaB y = b at C2 HT zy
  have q1 : ∀ p : BelowOf (w.alloc (.cells #[.int .i64 x, .int .i64 y] 60)), p.world.cell? ⟨w.heap.size, 0, none⟩ = some (.int .i64 x) := fun p => p.cell (by simp)
  have q2 : ∀ p : BelowOf (w.alloc (.cells #[.int .i64 x, .int .i64 y] 60)), p.world.cell? ⟨w.heap.size, 1, none⟩ = some (.int .i64 y) := fun p => p.cell (by simp)
  have r1 : ∀ W : World, (Op.stringOp .add a ⟨#[45]⟩).run Tryd.prog W = .ok (.string (a ++ ⟨#[45]⟩)) W := fun W => run_string_add_sum W _ _ (by show a.size + 1 ≤ _; omega)
  have r2 : ∀ W : World, (Op.stringOp .add (a ++ ⟨#[45]⟩) b).run Tryd.prog W = .ok (.string ((a ++ ⟨#[45]⟩) ++ b)) W := fun W => run_string_add_sum W _ _ (by rw [ByteArray.size_append]; show a.size + 1 + b.size ≤ _; omega)
  go_enter Tryd.func33, Tryd.ntmps33
  go_wp2
  refine wp_region_bel (by kernel_rfl) (by kernel_rfl) ?_
  repeat (go_big_quiet_step (first
    | (go_at_call 46; (with_reducible exact Calls.bel_of (C1 _)))
    | (go_at_call 46; (with_reducible exact Calls.bel_of (C2 _)))))
  refine wpQuiet_nil ?_
  refine bel_all fun wq hbq => ?_
  go_wp2
  go_ret
  exact ⟨by rw [HT.out]; rfl, ((Below.refl _ _).alloc (Nat.le_refl _) _).trans (hbq.mono (by simp))⟩

end Go.Proofs.YtdepglceffpfhaaDoor
