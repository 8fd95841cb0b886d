/- The block in which a spot goes on, and what breaks of layer 19 leaves in it. Conditions: the block lies in memory. -/
import Derived.Test.YthgieanhlmnneaaRows
import Derived.Test.YthgieanhlmnneaaBase
import Derived.Test.YthgieanhlmnneaaRow
import Derived.Test.YthgieanhlmnneaaIvalsWords
import Derived.Test.YthgieanhlmnneaaWindowMath
import Derived.Test.YthgieanhlmnneaaErrandMath
import Derived.Test.YthgieanhlmnneaaErrandHeap
import Derived.Test.YthgieanhlmnneaaErrandMath2
import Derived.Test.YthgieanhlmnneaaRecMath
import Derived.Test.YthgieanhlmnneaaBox
import Derived.Test.YthgieanhlmnneaaChg
import Derived.WalkKit
import Derived.WalkSpells
import Derived.WalkSmall
import Derived.Below
import Derived.Lib.Hide
import Derived.Outline
import Derived.Deep.DeepCutAuto
import Derived.OwnWalk
import Derived.BigQuiet
import Derived.Deep.QuietTactic
import Derived.Deep.LoopGhost
import Derived.WalkMore
namespace Go.Proofs.Ythgieanhlmnneaa
open Go.RowKit

/-- The cells of a walk: the tasks, the spot, the first minutes. -/
def wk (A : Option Addr) (n c : Nat) (s : Pt) (f0 f1 f2 f3 : Int) : Array Value :=
  #[.slice A n c, .int .i64 s.1, .int .i64 s.2.1, .int .i64 s.2.2, .int .i64 f0, .int .i64 f1, .int .i64 f2, .int .i64 f3]

theorem note_yes {f m : Int} (h : f < 0) : noteF f true m = m := if_pos ⟨rfl, h⟩

set_option maxRecDepth 20000 in
set_option maxHeartbeats 2000000 in
theorem breaks19_0 (g : Nat) (A : Option Addr) (n c : Nat) (s : Pt) (f0 f1 f2 f3 m : Int) (w : World) (hB : Bx w g 65 (wk A n c s f0 f1 f2 f3)) :
    Calls Try.prog 28 #[.pointer (some ⟨g, 0, none⟩), .int .i64 10, .int .i64 m] w fun e w' => e = .returned (.tuple #[]) ∧ Upd w g 65 (wk A n c s (noteF f0 true m) f1 f2 f3) w' := by
  have p : w.cell? ⟨g, 4, none⟩ = some (.int .i64 f0) := hB.cell (k := 4) rfl
  have hlt := hB.lt
  by_cases h : f0 < 0
  · rw [note_yes h]
    go_enter Try.func28, Try.ntmps28
    go_wp2_with (refine wpList_store_fld (by rfl) 3 _ _ rfl g 4 (.int .i64 m) rfl rfl rfl 65 (wk A n c s f0 f1 f2 f3) hB (show 4 < 8 by decide) (by kernel_rfl) (fun w1 u => ?_))
    refine bodyPost_end (results_none Try.results28 _ _ _) rfl ⟨rfl, u⟩
  · have h' : 0 ≤ f0 := by omega
    rw [note_old h']
    clear h
    go_enter Try.func28, Try.ntmps28
    go_wp2
    refine bodyPost_end (results_none Try.results28 _ _ _) rfl ⟨rfl, Upd.same hB⟩

set_option maxRecDepth 20000 in
set_option maxHeartbeats 2000000 in
theorem breaks19_1 (g : Nat) (A : Option Addr) (n c : Nat) (s : Pt) (f0 f1 f2 f3 m : Int) (w : World) (hB : Bx w g 65 (wk A n c s f0 f1 f2 f3)) :
    Calls Try.prog 28 #[.pointer (some ⟨g, 0, none⟩), .int .i64 11, .int .i64 m] w fun e w' => e = .returned (.tuple #[]) ∧ Upd w g 65 (wk A n c s f0 (noteF f1 true m) f2 f3) w' := by
  have p : w.cell? ⟨g, 5, none⟩ = some (.int .i64 f1) := hB.cell (k := 5) rfl
  have hlt := hB.lt
  by_cases h : f1 < 0
  · rw [note_yes h]
    go_enter Try.func28, Try.ntmps28
    go_wp2_with (refine wpList_store_fld (by rfl) 3 _ _ rfl g 5 (.int .i64 m) rfl rfl rfl 65 (wk A n c s f0 f1 f2 f3) hB (show 5 < 8 by decide) (by kernel_rfl) (fun w1 u => ?_))
    refine bodyPost_end (results_none Try.results28 _ _ _) rfl ⟨rfl, u⟩
  · have h' : 0 ≤ f1 := by omega
    rw [note_old h']
    clear h
    go_enter Try.func28, Try.ntmps28
    go_wp2
    refine bodyPost_end (results_none Try.results28 _ _ _) rfl ⟨rfl, Upd.same hB⟩

set_option maxRecDepth 20000 in
set_option maxHeartbeats 2000000 in
theorem breaks19_2 (g : Nat) (A : Option Addr) (n c : Nat) (s : Pt) (f0 f1 f2 f3 m : Int) (w : World) (hB : Bx w g 65 (wk A n c s f0 f1 f2 f3)) :
    Calls Try.prog 28 #[.pointer (some ⟨g, 0, none⟩), .int .i64 12, .int .i64 m] w fun e w' => e = .returned (.tuple #[]) ∧ Upd w g 65 (wk A n c s f0 f1 (noteF f2 true m) f3) w' := by
  have p : w.cell? ⟨g, 6, none⟩ = some (.int .i64 f2) := hB.cell (k := 6) rfl
  have hlt := hB.lt
  by_cases h : f2 < 0
  · rw [note_yes h]
    go_enter Try.func28, Try.ntmps28
    go_wp2_with (refine wpList_store_fld (by rfl) 3 _ _ rfl g 6 (.int .i64 m) rfl rfl rfl 65 (wk A n c s f0 f1 f2 f3) hB (show 6 < 8 by decide) (by kernel_rfl) (fun w1 u => ?_))
    refine bodyPost_end (results_none Try.results28 _ _ _) rfl ⟨rfl, u⟩
  · have h' : 0 ≤ f2 := by omega
    rw [note_old h']
    clear h
    go_enter Try.func28, Try.ntmps28
    go_wp2
    refine bodyPost_end (results_none Try.results28 _ _ _) rfl ⟨rfl, Upd.same hB⟩

set_option maxRecDepth 20000 in
set_option maxHeartbeats 2000000 in
theorem breaks19_3 (g : Nat) (A : Option Addr) (n c : Nat) (s : Pt) (f0 f1 f2 f3 m : Int) (w : World) (hB : Bx w g 65 (wk A n c s f0 f1 f2 f3)) :
    Calls Try.prog 28 #[.pointer (some ⟨g, 0, none⟩), .int .i64 13, .int .i64 m] w fun e w' => e = .returned (.tuple #[]) ∧ Upd w g 65 (wk A n c s f0 f1 f2 (noteF f3 true m)) w' := by
  have p : w.cell? ⟨g, 7, none⟩ = some (.int .i64 f3) := hB.cell (k := 7) rfl
  have hlt := hB.lt
  by_cases h : f3 < 0
  · rw [note_yes h]
    go_enter Try.func28, Try.ntmps28
    go_wp2_with (refine wpList_store_fld (by rfl) 3 _ _ rfl g 7 (.int .i64 m) rfl rfl rfl 65 (wk A n c s f0 f1 f2 f3) hB (show 7 < 8 by decide) (by kernel_rfl) (fun w1 u => ?_))
    refine bodyPost_end (results_none Try.results28 _ _ _) rfl ⟨rfl, u⟩
  · have h' : 0 ≤ f3 := by omega
    rw [note_old h']
    clear h
    go_enter Try.func28, Try.ntmps28
    go_wp2
    refine bodyPost_end (results_none Try.results28 _ _ _) rfl ⟨rfl, Upd.same hB⟩

end Go.Proofs.Ythgieanhlmnneaa
