/- What From of layer 7 and the document's Of return. Conditions: as each theorem says. -/
import Derived.Test.YtomodamdlnkcmaaRows
import Derived.Test.YtomodamdlnkcmaaBase
import Derived.Test.YtomodamdlnkcmaaBookRow
import Derived.Test.YtomodamdlnkcmaaBookLeaf
import Derived.Test.YtomodamdlnkcmaaBookNum
import Derived.Test.YtomodamdlnkcmaaBookBel
import Derived.Test.YtomodamdlnkcmaaBookOrd
import Derived.Test.YtomodamdlnkcmaaBookLim
import Derived.Test.YtomodamdlnkcmaaBookLaws
import Derived.WalkKit
import Derived.WalkSpells
import Derived.WalkSmall
import Derived.Below
import Derived.Lib.Hide
import Derived.Outline
import Derived.Great.BuildSlice
import Derived.BigQuiet
import Derived.Deep.QuietTactic
import Derived.Deep.RegionHeld3
namespace Go.Proofs.Ytomodamdlnkcmaa
open Go.RowKit

theorem RdI.sr {w : World} {b off g : Nat} {x : Nat → Int} {cs : Array Value} (h : RdI w b off x) (hb : b ≠ g) : RdI (w.setRow g cs) b off x :=
  ⟨by rw [setRow_size]; exact h.1, fun i hi => by rw [cell_setRow_other w g cs _ hb]; exact h.2 i hi⟩

set_option maxRecDepth 20000 in
set_option maxHeartbeats 4000000 in
theorem refof_any (b off c : Nat) (x : Nat → Int) (w : World) (h : RdI w b off x) :
    Calls Try.prog 15 #[.slice (some ⟨b, off, none⟩) 19 c] w fun e w' => e = .returned (.agg (bk x)) ∧ Below w.heap.size w w' := by
  have hlt := h.1
  go_enter Try.func15, Try.ntmps15
  go_wp2_with fail
  have hA : ∀ o, RdI ((w.alloc o).drew) b off x := fun o => ⟨by have := (h.alloc o).1; exact this, fun i hi => (h.alloc o).2 i hi⟩
  have hG : ∀ o, ((w.alloc o).drew).heap[w.heap.size]? = some o := fun o => heap_alloc_new w o
  specialize hA (.cells (bk fun _ => 0) 23)
  specialize hG (.cells (bk fun _ => 0) 23)
  refine wp_region_noPanic ?_
  refine wp_region_held_drew (S := fun w' => RdI w' b off x) (by kernel_rfl) ?_ (fun hHeld => ?_)
  · exact hA
  refine wpAnyH_take (i := 0) (oi := ⟨some 3, _, _, _, _, _⟩) (v := ?_) rfl (by kernel_rfl) (by kernel_rfl) (by kernel_rfl) (fun _ _ _ h => h) (yieldsIf_exec (by rfl) ?_) (by assumption) ?_
  rotate_left
  · (intro w' hSw; clear hSw; go_simp; try (with_reducible rfl))
  (try simp only [Act.put, List.setIfInBounds_toArray, List.set_cons_zero, List.set_cons_succ])
  refine wpAnyH_take (i := 1) (oi := ⟨some 4, _, _, _, _, _⟩) (v := ?_) rfl (by kernel_rfl) (by kernel_rfl) (by kernel_rfl) (fun _ _ _ h => h) (yieldsIf_exec (by rfl) ?_) (by assumption) ?_
  rotate_left
  · (intro w' hSw; clear hSw; go_simp; try (with_reducible rfl))
  (try simp only [Act.put, List.setIfInBounds_toArray, List.set_cons_zero, List.set_cons_succ])
  refine wpAnyH_take (i := 2) (oi := ⟨some 5, _, _, _, _, _⟩) (v := ?_) rfl (by kernel_rfl) (by kernel_rfl) (by kernel_rfl) (fun _ _ _ h => h) (yieldsIf_exec (by rfl) ?_) (by assumption) ?_
  rotate_left
  · (intro w' hSw; have hc := hSw.2 0 (by omega); clear hSw; rw [Nat.add_zero] at hc; go_simp; try (with_reducible rfl))
  (try simp only [Act.put, List.setIfInBounds_toArray, List.set_cons_zero, List.set_cons_succ])
  refine wpAnyH_take (i := 3) (oi := ⟨some 6, _, _, _, _, _⟩) (v := ?_) rfl (by kernel_rfl) (by kernel_rfl) (by kernel_rfl) (fun _ _ _ h => h) (yieldsIf_exec (by rfl) ?_) (by assumption) ?_
  rotate_left
  · (intro w' hSw; clear hSw; go_simp; try (with_reducible rfl))
  (try simp only [Act.put, List.setIfInBounds_toArray, List.set_cons_zero, List.set_cons_succ])
  refine wpAnyH_take (i := 4) (oi := ⟨some 7, _, _, _, _, _⟩) (v := ?_) rfl (by kernel_rfl) (by kernel_rfl) (by kernel_rfl) (fun _ _ _ h => h) (yieldsIf_exec (by rfl) ?_) (by assumption) ?_
  rotate_left
  · (intro w' hSw; clear hSw; go_simp; try (with_reducible rfl))
  (try simp only [Act.put, List.setIfInBounds_toArray, List.set_cons_zero, List.set_cons_succ])
  refine wpAnyH_take (i := 5) (oi := ⟨some 8, _, _, _, _, _⟩) (v := ?_) rfl (by kernel_rfl) (by kernel_rfl) (by kernel_rfl) (fun _ _ _ h => h) (yieldsIf_exec (by rfl) ?_) (by assumption) ?_
  rotate_left
  · (intro w' hSw; have hc := hSw.2 1 (by omega); clear hSw; go_simp; try (with_reducible rfl))
  (try simp only [Act.put, List.setIfInBounds_toArray, List.set_cons_zero, List.set_cons_succ])
  refine wpAnyH_take (i := 6) (oi := ⟨some 9, _, _, _, _, _⟩) (v := ?_) rfl (by kernel_rfl) (by kernel_rfl) (by kernel_rfl) (fun _ _ _ h => h) (yieldsIf_exec (by rfl) ?_) (by assumption) ?_
  rotate_left
  · (intro w' hSw; clear hSw; go_simp; try (with_reducible rfl))
  (try simp only [Act.put, List.setIfInBounds_toArray, List.set_cons_zero, List.set_cons_succ])
  refine wpAnyH_take (i := 7) (oi := ⟨some 10, _, _, _, _, _⟩) (v := ?_) rfl (by kernel_rfl) (by kernel_rfl) (by kernel_rfl) (fun _ _ _ h => h) (yieldsIf_exec (by rfl) ?_) (by assumption) ?_
  rotate_left
  · (intro w' hSw; clear hSw; go_simp; try (with_reducible rfl))
  (try simp only [Act.put, List.setIfInBounds_toArray, List.set_cons_zero, List.set_cons_succ])
  refine wpAnyH_take (i := 8) (oi := ⟨some 11, _, _, _, _, _⟩) (v := ?_) rfl (by kernel_rfl) (by kernel_rfl) (by kernel_rfl) (fun _ _ _ h => h) (yieldsIf_exec (by rfl) ?_) (by assumption) ?_
  rotate_left
  · (intro w' hSw; have hc := hSw.2 2 (by omega); clear hSw; go_simp; try (with_reducible rfl))
  (try simp only [Act.put, List.setIfInBounds_toArray, List.set_cons_zero, List.set_cons_succ])
  refine wpAnyH_take (i := 9) (oi := ⟨some 12, _, _, _, _, _⟩) (v := ?_) rfl (by kernel_rfl) (by kernel_rfl) (by kernel_rfl) (fun _ _ _ h => h) (yieldsIf_exec (by rfl) ?_) (by assumption) ?_
  rotate_left
  · (intro w' hSw; clear hSw; go_simp; try (with_reducible rfl))
  (try simp only [Act.put, List.setIfInBounds_toArray, List.set_cons_zero, List.set_cons_succ])
  refine wpAnyH_take (i := 10) (oi := ⟨some 13, _, _, _, _, _⟩) (v := ?_) rfl (by kernel_rfl) (by kernel_rfl) (by kernel_rfl) (fun _ _ _ h => h) (yieldsIf_exec (by rfl) ?_) (by assumption) ?_
  rotate_left
  · (intro w' hSw; clear hSw; go_simp; try (with_reducible rfl))
  (try simp only [Act.put, List.setIfInBounds_toArray, List.set_cons_zero, List.set_cons_succ])
  refine wpAnyH_take (i := 11) (oi := ⟨some 14, _, _, _, _, _⟩) (v := ?_) rfl (by kernel_rfl) (by kernel_rfl) (by kernel_rfl) (fun _ _ _ h => h) (yieldsIf_exec (by rfl) ?_) (by assumption) ?_
  rotate_left
  · (intro w' hSw; have hc := hSw.2 3 (by omega); clear hSw; go_simp; try (with_reducible rfl))
  (try simp only [Act.put, List.setIfInBounds_toArray, List.set_cons_zero, List.set_cons_succ])
  refine wpAnyH_take (i := 12) (oi := ⟨some 15, _, _, _, _, _⟩) (v := ?_) rfl (by kernel_rfl) (by kernel_rfl) (by kernel_rfl) (fun _ _ _ h => h) (yieldsIf_exec (by rfl) ?_) (by assumption) ?_
  rotate_left
  · (intro w' hSw; clear hSw; go_simp; try (with_reducible rfl))
  (try simp only [Act.put, List.setIfInBounds_toArray, List.set_cons_zero, List.set_cons_succ])
  refine wpAnyH_take (i := 13) (oi := ⟨some 16, _, _, _, _, _⟩) (v := ?_) rfl (by kernel_rfl) (by kernel_rfl) (by kernel_rfl) (fun _ _ _ h => h) (yieldsIf_exec (by rfl) ?_) (by assumption) ?_
  rotate_left
  · (intro w' hSw; clear hSw; go_simp; try (with_reducible rfl))
  (try simp only [Act.put, List.setIfInBounds_toArray, List.set_cons_zero, List.set_cons_succ])
  refine wpAnyH_take (i := 14) (oi := ⟨some 17, _, _, _, _, _⟩) (v := ?_) rfl (by kernel_rfl) (by kernel_rfl) (by kernel_rfl) (fun _ _ _ h => h) (yieldsIf_exec (by rfl) ?_) (by assumption) ?_
  rotate_left
  · (intro w' hSw; have hc := hSw.2 4 (by omega); clear hSw; go_simp; try (with_reducible rfl))
  (try simp only [Act.put, List.setIfInBounds_toArray, List.set_cons_zero, List.set_cons_succ])
  refine wpAnyH_take (i := 15) (oi := ⟨some 18, _, _, _, _, _⟩) (v := ?_) rfl (by kernel_rfl) (by kernel_rfl) (by kernel_rfl) (fun _ _ _ h => h) (yieldsIf_exec (by rfl) ?_) (by assumption) ?_
  rotate_left
  · (intro w' hSw; clear hSw; go_simp; try (with_reducible rfl))
  (try simp only [Act.put, List.setIfInBounds_toArray, List.set_cons_zero, List.set_cons_succ])
  refine wpAnyH_take (i := 16) (oi := ⟨some 19, _, _, _, _, _⟩) (v := ?_) rfl (by kernel_rfl) (by kernel_rfl) (by kernel_rfl) (fun _ _ _ h => h) (yieldsIf_exec (by rfl) ?_) (by assumption) ?_
  rotate_left
  · (intro w' hSw; clear hSw; go_simp; try (with_reducible rfl))
  (try simp only [Act.put, List.setIfInBounds_toArray, List.set_cons_zero, List.set_cons_succ])
  refine wpAnyH_take (i := 17) (oi := ⟨some 20, _, _, _, _, _⟩) (v := ?_) rfl (by kernel_rfl) (by kernel_rfl) (by kernel_rfl) (fun _ _ _ h => h) (yieldsIf_exec (by rfl) ?_) (by assumption) ?_
  rotate_left
  · (intro w' hSw; have hc := hSw.2 5 (by omega); clear hSw; go_simp; try (with_reducible rfl))
  (try simp only [Act.put, List.setIfInBounds_toArray, List.set_cons_zero, List.set_cons_succ])
  refine wpAnyH_take (i := 18) (oi := ⟨some 21, _, _, _, _, _⟩) (v := ?_) rfl (by kernel_rfl) (by kernel_rfl) (by kernel_rfl) (fun _ _ _ h => h) (yieldsIf_exec (by rfl) ?_) (by assumption) ?_
  rotate_left
  · (intro w' hSw; clear hSw; go_simp; try (with_reducible rfl))
  (try simp only [Act.put, List.setIfInBounds_toArray, List.set_cons_zero, List.set_cons_succ])
  refine wpAnyH_take (i := 19) (oi := ⟨some 22, _, _, _, _, _⟩) (v := ?_) rfl (by kernel_rfl) (by kernel_rfl) (by kernel_rfl) (fun _ _ _ h => h) (yieldsIf_exec (by rfl) ?_) (by assumption) ?_
  rotate_left
  · (intro w' hSw; clear hSw; go_simp; try (with_reducible rfl))
  (try simp only [Act.put, List.setIfInBounds_toArray, List.set_cons_zero, List.set_cons_succ])
  refine wpAnyH_take (i := 20) (oi := ⟨some 23, _, _, _, _, _⟩) (v := ?_) rfl (by kernel_rfl) (by kernel_rfl) (by kernel_rfl) (fun _ _ _ h => h) (yieldsIf_exec (by rfl) ?_) (by assumption) ?_
  rotate_left
  · (intro w' hSw; have hc := hSw.2 6 (by omega); clear hSw; go_simp; try (with_reducible rfl))
  (try simp only [Act.put, List.setIfInBounds_toArray, List.set_cons_zero, List.set_cons_succ])
  refine wpAnyH_take (i := 21) (oi := ⟨some 24, _, _, _, _, _⟩) (v := ?_) rfl (by kernel_rfl) (by kernel_rfl) (by kernel_rfl) (fun _ _ _ h => h) (yieldsIf_exec (by rfl) ?_) (by assumption) ?_
  rotate_left
  · (intro w' hSw; clear hSw; go_simp; try (with_reducible rfl))
  (try simp only [Act.put, List.setIfInBounds_toArray, List.set_cons_zero, List.set_cons_succ])
  refine wpAnyH_take (i := 22) (oi := ⟨some 25, _, _, _, _, _⟩) (v := ?_) rfl (by kernel_rfl) (by kernel_rfl) (by kernel_rfl) (fun _ _ _ h => h) (yieldsIf_exec (by rfl) ?_) (by assumption) ?_
  rotate_left
  · (intro w' hSw; clear hSw; go_simp; try (with_reducible rfl))
  (try simp only [Act.put, List.setIfInBounds_toArray, List.set_cons_zero, List.set_cons_succ])
  refine wpAnyH_take (i := 23) (oi := ⟨some 26, _, _, _, _, _⟩) (v := ?_) rfl (by kernel_rfl) (by kernel_rfl) (by kernel_rfl) (fun _ _ _ h => h) (yieldsIf_exec (by rfl) ?_) (by assumption) ?_
  rotate_left
  · (intro w' hSw; have hc := hSw.2 7 (by omega); clear hSw; go_simp; try (with_reducible rfl))
  (try simp only [Act.put, List.setIfInBounds_toArray, List.set_cons_zero, List.set_cons_succ])
  refine wpAnyH_take (i := 24) (oi := ⟨some 27, _, _, _, _, _⟩) (v := ?_) rfl (by kernel_rfl) (by kernel_rfl) (by kernel_rfl) (fun _ _ _ h => h) (yieldsIf_exec (by rfl) ?_) (by assumption) ?_
  rotate_left
  · (intro w' hSw; clear hSw; go_simp; try (with_reducible rfl))
  (try simp only [Act.put, List.setIfInBounds_toArray, List.set_cons_zero, List.set_cons_succ])
  refine wpAnyH_take (i := 25) (oi := ⟨some 28, _, _, _, _, _⟩) (v := ?_) rfl (by kernel_rfl) (by kernel_rfl) (by kernel_rfl) (fun _ _ _ h => h) (yieldsIf_exec (by rfl) ?_) (by assumption) ?_
  rotate_left
  · (intro w' hSw; clear hSw; go_simp; try (with_reducible rfl))
  (try simp only [Act.put, List.setIfInBounds_toArray, List.set_cons_zero, List.set_cons_succ])
  refine wpAnyH_take (i := 26) (oi := ⟨some 29, _, _, _, _, _⟩) (v := ?_) rfl (by kernel_rfl) (by kernel_rfl) (by kernel_rfl) (fun _ _ _ h => h) (yieldsIf_exec (by rfl) ?_) (by assumption) ?_
  rotate_left
  · (intro w' hSw; have hc := hSw.2 8 (by omega); clear hSw; go_simp; try (with_reducible rfl))
  (try simp only [Act.put, List.setIfInBounds_toArray, List.set_cons_zero, List.set_cons_succ])
  refine wpAnyH_take (i := 27) (oi := ⟨some 30, _, _, _, _, _⟩) (v := ?_) rfl (by kernel_rfl) (by kernel_rfl) (by kernel_rfl) (fun _ _ _ h => h) (yieldsIf_exec (by rfl) ?_) (by assumption) ?_
  rotate_left
  · (intro w' hSw; clear hSw; go_simp; try (with_reducible rfl))
  (try simp only [Act.put, List.setIfInBounds_toArray, List.set_cons_zero, List.set_cons_succ])
  refine wpAnyH_take (i := 28) (oi := ⟨some 31, _, _, _, _, _⟩) (v := ?_) rfl (by kernel_rfl) (by kernel_rfl) (by kernel_rfl) (fun _ _ _ h => h) (yieldsIf_exec (by rfl) ?_) (by assumption) ?_
  rotate_left
  · (intro w' hSw; clear hSw; go_simp; try (with_reducible rfl))
  (try simp only [Act.put, List.setIfInBounds_toArray, List.set_cons_zero, List.set_cons_succ])
  refine wpAnyH_take (i := 29) (oi := ⟨some 32, _, _, _, _, _⟩) (v := ?_) rfl (by kernel_rfl) (by kernel_rfl) (by kernel_rfl) (fun _ _ _ h => h) (yieldsIf_exec (by rfl) ?_) (by assumption) ?_
  rotate_left
  · (intro w' hSw; have hc := hSw.2 9 (by omega); clear hSw; go_simp; try (with_reducible rfl))
  (try simp only [Act.put, List.setIfInBounds_toArray, List.set_cons_zero, List.set_cons_succ])
  refine wpAnyH_take (i := 30) (oi := ⟨some 33, _, _, _, _, _⟩) (v := ?_) rfl (by kernel_rfl) (by kernel_rfl) (by kernel_rfl) (fun _ _ _ h => h) (yieldsIf_exec (by rfl) ?_) (by assumption) ?_
  rotate_left
  · (intro w' hSw; clear hSw; go_simp; try (with_reducible rfl))
  (try simp only [Act.put, List.setIfInBounds_toArray, List.set_cons_zero, List.set_cons_succ])
  refine wpAnyH_take (i := 31) (oi := ⟨some 34, _, _, _, _, _⟩) (v := ?_) rfl (by kernel_rfl) (by kernel_rfl) (by kernel_rfl) (fun _ _ _ h => h) (yieldsIf_exec (by rfl) ?_) (by assumption) ?_
  rotate_left
  · (intro w' hSw; clear hSw; go_simp; try (with_reducible rfl))
  (try simp only [Act.put, List.setIfInBounds_toArray, List.set_cons_zero, List.set_cons_succ])
  refine wpAnyH_take (i := 32) (oi := ⟨some 35, _, _, _, _, _⟩) (v := ?_) rfl (by kernel_rfl) (by kernel_rfl) (by kernel_rfl) (fun _ _ _ h => h) (yieldsIf_exec (by rfl) ?_) (by assumption) ?_
  rotate_left
  · (intro w' hSw; have hc := hSw.2 10 (by omega); clear hSw; go_simp; try (with_reducible rfl))
  (try simp only [Act.put, List.setIfInBounds_toArray, List.set_cons_zero, List.set_cons_succ])
  refine wpAnyH_take (i := 33) (oi := ⟨some 36, _, _, _, _, _⟩) (v := ?_) rfl (by kernel_rfl) (by kernel_rfl) (by kernel_rfl) (fun _ _ _ h => h) (yieldsIf_exec (by rfl) ?_) (by assumption) ?_
  rotate_left
  · (intro w' hSw; clear hSw; go_simp; try (with_reducible rfl))
  (try simp only [Act.put, List.setIfInBounds_toArray, List.set_cons_zero, List.set_cons_succ])
  refine wpAnyH_take (i := 34) (oi := ⟨some 37, _, _, _, _, _⟩) (v := ?_) rfl (by kernel_rfl) (by kernel_rfl) (by kernel_rfl) (fun _ _ _ h => h) (yieldsIf_exec (by rfl) ?_) (by assumption) ?_
  rotate_left
  · (intro w' hSw; clear hSw; go_simp; try (with_reducible rfl))
  (try simp only [Act.put, List.setIfInBounds_toArray, List.set_cons_zero, List.set_cons_succ])
  refine wpAnyH_take (i := 35) (oi := ⟨some 38, _, _, _, _, _⟩) (v := ?_) rfl (by kernel_rfl) (by kernel_rfl) (by kernel_rfl) (fun _ _ _ h => h) (yieldsIf_exec (by rfl) ?_) (by assumption) ?_
  rotate_left
  · (intro w' hSw; have hc := hSw.2 11 (by omega); clear hSw; go_simp; try (with_reducible rfl))
  (try simp only [Act.put, List.setIfInBounds_toArray, List.set_cons_zero, List.set_cons_succ])
  refine wpAnyH_take (i := 36) (oi := ⟨some 39, _, _, _, _, _⟩) (v := ?_) rfl (by kernel_rfl) (by kernel_rfl) (by kernel_rfl) (fun _ _ _ h => h) (yieldsIf_exec (by rfl) ?_) (by assumption) ?_
  rotate_left
  · (intro w' hSw; clear hSw; go_simp; try (with_reducible rfl))
  (try simp only [Act.put, List.setIfInBounds_toArray, List.set_cons_zero, List.set_cons_succ])
  refine wpAnyH_take (i := 37) (oi := ⟨some 40, _, _, _, _, _⟩) (v := ?_) rfl (by kernel_rfl) (by kernel_rfl) (by kernel_rfl) (fun _ _ _ h => h) (yieldsIf_exec (by rfl) ?_) (by assumption) ?_
  rotate_left
  · (intro w' hSw; clear hSw; go_simp; try (with_reducible rfl))
  (try simp only [Act.put, List.setIfInBounds_toArray, List.set_cons_zero, List.set_cons_succ])
  refine wpAnyH_take (i := 38) (oi := ⟨some 41, _, _, _, _, _⟩) (v := ?_) rfl (by kernel_rfl) (by kernel_rfl) (by kernel_rfl) (fun _ _ _ h => h) (yieldsIf_exec (by rfl) ?_) (by assumption) ?_
  rotate_left
  · (intro w' hSw; have hc := hSw.2 12 (by omega); clear hSw; go_simp; try (with_reducible rfl))
  (try simp only [Act.put, List.setIfInBounds_toArray, List.set_cons_zero, List.set_cons_succ])
  refine wpAnyH_take (i := 39) (oi := ⟨some 42, _, _, _, _, _⟩) (v := ?_) rfl (by kernel_rfl) (by kernel_rfl) (by kernel_rfl) (fun _ _ _ h => h) (yieldsIf_exec (by rfl) ?_) (by assumption) ?_
  rotate_left
  · (intro w' hSw; clear hSw; go_simp; try (with_reducible rfl))
  (try simp only [Act.put, List.setIfInBounds_toArray, List.set_cons_zero, List.set_cons_succ])
  refine wpAnyH_take (i := 40) (oi := ⟨some 43, _, _, _, _, _⟩) (v := ?_) rfl (by kernel_rfl) (by kernel_rfl) (by kernel_rfl) (fun _ _ _ h => h) (yieldsIf_exec (by rfl) ?_) (by assumption) ?_
  rotate_left
  · (intro w' hSw; clear hSw; go_simp; try (with_reducible rfl))
  (try simp only [Act.put, List.setIfInBounds_toArray, List.set_cons_zero, List.set_cons_succ])
  refine wpAnyH_take (i := 41) (oi := ⟨some 44, _, _, _, _, _⟩) (v := ?_) rfl (by kernel_rfl) (by kernel_rfl) (by kernel_rfl) (fun _ _ _ h => h) (yieldsIf_exec (by rfl) ?_) (by assumption) ?_
  rotate_left
  · (intro w' hSw; have hc := hSw.2 13 (by omega); clear hSw; go_simp; try (with_reducible rfl))
  (try simp only [Act.put, List.setIfInBounds_toArray, List.set_cons_zero, List.set_cons_succ])
  refine wpAnyH_take (i := 42) (oi := ⟨some 45, _, _, _, _, _⟩) (v := ?_) rfl (by kernel_rfl) (by kernel_rfl) (by kernel_rfl) (fun _ _ _ h => h) (yieldsIf_exec (by rfl) ?_) (by assumption) ?_
  rotate_left
  · (intro w' hSw; clear hSw; go_simp; try (with_reducible rfl))
  (try simp only [Act.put, List.setIfInBounds_toArray, List.set_cons_zero, List.set_cons_succ])
  refine wpAnyH_take (i := 43) (oi := ⟨some 46, _, _, _, _, _⟩) (v := ?_) rfl (by kernel_rfl) (by kernel_rfl) (by kernel_rfl) (fun _ _ _ h => h) (yieldsIf_exec (by rfl) ?_) (by assumption) ?_
  rotate_left
  · (intro w' hSw; clear hSw; go_simp; try (with_reducible rfl))
  (try simp only [Act.put, List.setIfInBounds_toArray, List.set_cons_zero, List.set_cons_succ])
  refine wpAnyH_take (i := 44) (oi := ⟨some 47, _, _, _, _, _⟩) (v := ?_) rfl (by kernel_rfl) (by kernel_rfl) (by kernel_rfl) (fun _ _ _ h => h) (yieldsIf_exec (by rfl) ?_) (by assumption) ?_
  rotate_left
  · (intro w' hSw; have hc := hSw.2 14 (by omega); clear hSw; go_simp; try (with_reducible rfl))
  (try simp only [Act.put, List.setIfInBounds_toArray, List.set_cons_zero, List.set_cons_succ])
  refine wpAnyH_take (i := 45) (oi := ⟨some 48, _, _, _, _, _⟩) (v := ?_) rfl (by kernel_rfl) (by kernel_rfl) (by kernel_rfl) (fun _ _ _ h => h) (yieldsIf_exec (by rfl) ?_) (by assumption) ?_
  rotate_left
  · (intro w' hSw; clear hSw; go_simp; try (with_reducible rfl))
  (try simp only [Act.put, List.setIfInBounds_toArray, List.set_cons_zero, List.set_cons_succ])
  refine wpAnyH_take (i := 46) (oi := ⟨some 49, _, _, _, _, _⟩) (v := ?_) rfl (by kernel_rfl) (by kernel_rfl) (by kernel_rfl) (fun _ _ _ h => h) (yieldsIf_exec (by rfl) ?_) (by assumption) ?_
  rotate_left
  · (intro w' hSw; clear hSw; go_simp; try (with_reducible rfl))
  (try simp only [Act.put, List.setIfInBounds_toArray, List.set_cons_zero, List.set_cons_succ])
  refine wpAnyH_take (i := 47) (oi := ⟨some 50, _, _, _, _, _⟩) (v := ?_) rfl (by kernel_rfl) (by kernel_rfl) (by kernel_rfl) (fun _ _ _ h => h) (yieldsIf_exec (by rfl) ?_) (by assumption) ?_
  rotate_left
  · (intro w' hSw; have hc := hSw.2 15 (by omega); clear hSw; go_simp; try (with_reducible rfl))
  (try simp only [Act.put, List.setIfInBounds_toArray, List.set_cons_zero, List.set_cons_succ])
  refine wpAnyH_take (i := 48) (oi := ⟨some 51, _, _, _, _, _⟩) (v := ?_) rfl (by kernel_rfl) (by kernel_rfl) (by kernel_rfl) (fun _ _ _ h => h) (yieldsIf_exec (by rfl) ?_) (by assumption) ?_
  rotate_left
  · (intro w' hSw; clear hSw; go_simp; try (with_reducible rfl))
  (try simp only [Act.put, List.setIfInBounds_toArray, List.set_cons_zero, List.set_cons_succ])
  refine wpAnyH_take (i := 49) (oi := ⟨some 52, _, _, _, _, _⟩) (v := ?_) rfl (by kernel_rfl) (by kernel_rfl) (by kernel_rfl) (fun _ _ _ h => h) (yieldsIf_exec (by rfl) ?_) (by assumption) ?_
  rotate_left
  · (intro w' hSw; clear hSw; go_simp; try (with_reducible rfl))
  (try simp only [Act.put, List.setIfInBounds_toArray, List.set_cons_zero, List.set_cons_succ])
  refine wpAnyH_take (i := 50) (oi := ⟨some 53, _, _, _, _, _⟩) (v := ?_) rfl (by kernel_rfl) (by kernel_rfl) (by kernel_rfl) (fun _ _ _ h => h) (yieldsIf_exec (by rfl) ?_) (by assumption) ?_
  rotate_left
  · (intro w' hSw; have hc := hSw.2 16 (by omega); clear hSw; go_simp; try (with_reducible rfl))
  (try simp only [Act.put, List.setIfInBounds_toArray, List.set_cons_zero, List.set_cons_succ])
  refine wpAnyH_take (i := 51) (oi := ⟨some 54, _, _, _, _, _⟩) (v := ?_) rfl (by kernel_rfl) (by kernel_rfl) (by kernel_rfl) (fun _ _ _ h => h) (yieldsIf_exec (by rfl) ?_) (by assumption) ?_
  rotate_left
  · (intro w' hSw; clear hSw; go_simp; try (with_reducible rfl))
  (try simp only [Act.put, List.setIfInBounds_toArray, List.set_cons_zero, List.set_cons_succ])
  refine wpAnyH_take (i := 52) (oi := ⟨some 55, _, _, _, _, _⟩) (v := ?_) rfl (by kernel_rfl) (by kernel_rfl) (by kernel_rfl) (fun _ _ _ h => h) (yieldsIf_exec (by rfl) ?_) (by assumption) ?_
  rotate_left
  · (intro w' hSw; clear hSw; go_simp; try (with_reducible rfl))
  (try simp only [Act.put, List.setIfInBounds_toArray, List.set_cons_zero, List.set_cons_succ])
  refine wpAnyH_take (i := 53) (oi := ⟨some 56, _, _, _, _, _⟩) (v := ?_) rfl (by kernel_rfl) (by kernel_rfl) (by kernel_rfl) (fun _ _ _ h => h) (yieldsIf_exec (by rfl) ?_) (by assumption) ?_
  rotate_left
  · (intro w' hSw; have hc := hSw.2 17 (by omega); clear hSw; go_simp; try (with_reducible rfl))
  (try simp only [Act.put, List.setIfInBounds_toArray, List.set_cons_zero, List.set_cons_succ])
  refine wpAnyH_take (i := 54) (oi := ⟨some 57, _, _, _, _, _⟩) (v := ?_) rfl (by kernel_rfl) (by kernel_rfl) (by kernel_rfl) (fun _ _ _ h => h) (yieldsIf_exec (by rfl) ?_) (by assumption) ?_
  rotate_left
  · (intro w' hSw; clear hSw; go_simp; try (with_reducible rfl))
  (try simp only [Act.put, List.setIfInBounds_toArray, List.set_cons_zero, List.set_cons_succ])
  refine wpAnyH_take (i := 55) (oi := ⟨some 58, _, _, _, _, _⟩) (v := ?_) rfl (by kernel_rfl) (by kernel_rfl) (by kernel_rfl) (fun _ _ _ h => h) (yieldsIf_exec (by rfl) ?_) (by assumption) ?_
  rotate_left
  · (intro w' hSw; clear hSw; go_simp; try (with_reducible rfl))
  (try simp only [Act.put, List.setIfInBounds_toArray, List.set_cons_zero, List.set_cons_succ])
  refine wpAnyH_take (i := 56) (oi := ⟨some 59, _, _, _, _, _⟩) (v := ?_) rfl (by kernel_rfl) (by kernel_rfl) (by kernel_rfl) (fun _ _ _ h => h) (yieldsIf_exec (by rfl) ?_) (by assumption) ?_
  rotate_left
  · (intro w' hSw; have hc := hSw.2 18 (by omega); clear hSw; go_simp; try (with_reducible rfl))
  (try simp only [Act.put, List.setIfInBounds_toArray, List.set_cons_zero, List.set_cons_succ])
  refine wpAnyH_take (i := 57) (oi := ⟨some 60, _, _, _, _, _⟩) (v := .agg (bk x)) rfl (by kernel_rfl) (by kernel_rfl) (by kernel_rfl) (fun _ _ _ h => h) (yieldsIf_exec (by rfl) (fun w' hSw => exec_build (bk x) w' rfl (by kernel_rfl))) (by assumption) ?_
  (try simp only [Act.put, List.setIfInBounds_toArray, List.set_cons_zero, List.set_cons_succ])
  refine wpAnyH_ready (rs := [58]) (by kernel_rfl) (by simp) ?_
  refine AllReadyH.cons (o := ⟨none, _, _, _, _, _⟩) rfl (fun K hK => ?_) AllReadyH.nil
  rw [if_pos (by rfl)]
  refine wp_store_row 23 _ _ rfl w.heap.size (bk x) rfl rfl 23 _ hG (by kernel_rfl) rfl (bk_one x) ?_
  refine hK.out _ _ (hHeld.sr (by omega)) (fun hHeld => ?_)
  clear hK K
  (try simp only [Act.put])
  refine wpAnyH_done (by kernel_rfl) ?_ _
  refine NoPanic.normal ?_
  go_wp2_with fail
  refine bodyPost_ret (v := .agg (bk x)) (results_bk Try.results15 _ _ _ x _ (by rfl) (RdI.stored x hG) Try.underlying23 rfl (by kernel_rfl)) rfl ⟨rfl, ?_⟩
  exact b_sr (b_dr ((Below.refl _ _).alloc (Nat.le_refl _) _)) (Nat.le_refl _)

/-- A book of no numbers. -/
def noV : Nat → Int := fun _ => 0

set_option maxRecDepth 20000 in
theorem from_bad (A : Option Addr) (n c : Nat) (w : World) (hn : n ≠ 19) :
    Calls Try.prog 14 #[.slice A n c] w fun e w' => e = .returned (.tuple #[.agg (bk noV), .int .i64 18]) ∧ Below w.heap.size w w' := by
  have hn' : ((n : Int) == 19) = false := by simp; omega
  clear hn
  go_enter Try.func14, Try.ntmps14
  go_wp2_with (first
    | refine wpList_build_as rfl 23 _ rfl (bk noV) (by kernel_rfl) ?_
    | refine wpList_store_new rfl 23 _ _ rfl _ (bk noV) rfl rfl (by first | rfl | (simp; done)) (by kernel_rfl) rfl (bk_one noV) ?_)
  refine bodyPost_ret (results_bk2 Try.results14 _ _ _ noV _ (.int .i64 18) (by rfl) (RdI.new noV _ (by first | rfl | (simp; done))) (by rfl) Try.underlying23 rfl (by kernel_rfl)) rfl ⟨rfl, ?_⟩
  (repeat (first | exact Below.refl _ _ | (refine b_st ?_ (by first | (simp; done) | (simp; omega))) | (refine b_al ?_ (Nat.le_refl _) _) | refine b_dn ?_ | refine b_dr ?_ | (refine b_cl ?_ (Nat.le_refl _) (by assumption))))

set_option maxRecDepth 20000 in
set_option maxHeartbeats 1600000 in
open Classical in
theorem from_any (b off c : Nat) (x : Nat → Int) (w : World) (h : RdI w b off x) :
    Calls Try.prog 14 #[.slice (some ⟨b, off, none⟩) 19 c] w fun e w' => e = .returned (.tuple #[.agg (bk (if May x then x else noV)), .int .i64 (if May x then 0 else 14)]) ∧ Below w.heap.size w w' := by
  have C1 := fun W => check7_any x W
  have hA := fun o => h.alloc o
  by_cases hm : May x
  · simp only [if_pos hm] at C1 ⊢
    clear hm
    go_enter Try.func14, Try.ntmps14
    go_wp2_with (first
      | refine wpList_arrayAt (by rfl) 39 3 19 _ rfl _ _ _ rfl Try.underlying39 (Nat.le_refl _) ?_
      | refine wpList_load_bk (by rfl) 39 _ rfl b off rfl x _ (hA _) Try.underlying39 rfl (by kernel_rfl) ?_
      | (go_at_call 21; (with_reducible refine (made_any x _).mono ?_); rintro e w1 ⟨rfl, hb1⟩; have hG1 := h_cl (heap_alloc_new w _) hb1; have hz1 := hb1.size; (try simp at hz1))
      | refine wpList_store_new rfl 23 _ _ rfl _ (bk x) rfl rfl (by first | rfl | (simp; done)) (by kernel_rfl) rfl (bk_one x) ?_
      | refine wpList_load_bk (by rfl) 23 _ rfl _ _ rfl x _ (RdI.new x _ (by first | rfl | (simp; done))) Try.underlying23 rfl (by kernel_rfl) ?_
      | (go_at_call 7; (with_reducible refine (C1 _).mono ?_); rintro e w2 ⟨rfl, hb2⟩; have hG2 := h_cl (h_al _ hG1) hb2; have hr2 := (RdI.new x 23 (rfl : w1.heap.size = _)).below hb2; have hz2 := hb2.size; (try simp at hz2))
      | refine wpList_build_as rfl 23 _ rfl (bk noV) (by kernel_rfl) ?_
      | refine wpList_load_bk (by rfl) 23 _ rfl _ _ rfl x _ (hr2) Try.underlying23 rfl (by kernel_rfl) ?_
      | refine wpList_store_row rfl 23 _ _ rfl _ (bk x) rfl rfl _ _ hG2 (by kernel_rfl) (by rfl) (bk_one x) ?_)
    refine bodyPost_ret (results_bk2 Try.results14 _ _ _ x _ (.int .i64 0) (by rfl) (RdI.stored x hG2) (by rfl) Try.underlying23 rfl (by kernel_rfl)) rfl ⟨rfl, ?_⟩
    refine b_sr ?_ (Nat.le_refl _)
    (repeat (first | exact Below.refl _ _ | (refine b_st ?_ (by first | (simp; done) | (simp; omega))) | (refine b_al ?_ (Nat.le_refl _) _) | refine b_dn ?_ | refine b_dr ?_ | (refine b_cl ?_ (Nat.le_refl _) (by assumption))))
  · simp only [if_neg hm] at C1 ⊢
    clear hm
    go_enter Try.func14, Try.ntmps14
    go_wp2_with (first
      | refine wpList_arrayAt (by rfl) 39 3 19 _ rfl _ _ _ rfl Try.underlying39 (Nat.le_refl _) ?_
      | refine wpList_load_bk (by rfl) 39 _ rfl b off rfl x _ (hA _) Try.underlying39 rfl (by kernel_rfl) ?_
      | (go_at_call 21; (with_reducible refine (made_any x _).mono ?_); rintro e w1 ⟨rfl, hb1⟩; have hG1 := h_cl (heap_alloc_new w _) hb1; have hz1 := hb1.size; (try simp at hz1))
      | refine wpList_store_new rfl 23 _ _ rfl _ (bk x) rfl rfl (by first | rfl | (simp; done)) (by kernel_rfl) rfl (bk_one x) ?_
      | refine wpList_load_bk (by rfl) 23 _ rfl _ _ rfl x _ (RdI.new x _ (by first | rfl | (simp; done))) Try.underlying23 rfl (by kernel_rfl) ?_
      | (go_at_call 7; (with_reducible refine (C1 _).mono ?_); rintro e w2 ⟨rfl, hb2⟩; have hG2 := h_cl (h_al _ hG1) hb2; have hr2 := (RdI.new x 23 (rfl : w1.heap.size = _)).below hb2; have hz2 := hb2.size; (try simp at hz2))
      | refine wpList_build_as rfl 23 _ rfl (bk noV) (by kernel_rfl) ?_
      | refine wpList_load_bk (by rfl) 23 _ rfl _ _ rfl x _ (hr2) Try.underlying23 rfl (by kernel_rfl) ?_
      | refine wpList_store_row rfl 23 _ _ rfl _ (bk noV) rfl rfl _ _ hG2 (by kernel_rfl) (by rfl) (bk_one noV) ?_)
    refine bodyPost_ret (results_bk2 Try.results14 _ _ _ noV _ (.int .i64 14) (by rfl) (RdI.stored noV hG2) (by rfl) Try.underlying23 rfl (by kernel_rfl)) rfl ⟨rfl, ?_⟩
    refine b_sr ?_ (Nat.le_refl _)
    (repeat (first | exact Below.refl _ _ | (refine b_st ?_ (by first | (simp; done) | (simp; omega))) | (refine b_al ?_ (Nat.le_refl _) _) | refine b_dn ?_ | refine b_dr ?_ | (refine b_cl ?_ (Nat.le_refl _) (by assumption))))

end Go.Proofs.Ytomodamdlnkcmaa
