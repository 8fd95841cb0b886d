/- Tighter answers as the document says, for any two books; of any three it goes on, and both ways it is the same book. Conditions: none. -/
import Derived.Test.YtomodamdlnkcmaaRows
import Derived.Test.YtomodamdlnkcmaaBase
import Derived.Test.YtomodamdlnkcmaaBookRow
import Derived.Test.YtomodamdlnkcmaaBookLeaf
import Derived.Test.YtomodamdlnkcmaaBookNum
import Derived.Test.YtomodamdlnkcmaaBookBel
import Derived.Test.YtomodamdlnkcmaaBookOrd
import Derived.Test.YtomodamdlnkcmaaBookLim
import Derived.Test.YtomodamdlnkcmaaBookLaws
import Derived.Test.YtomodamdlnkcmaaBookTight
import Derived.Test.YtomodamdlnkcmaaBookTightR
import Derived.Test.YtomodamdlnkcmaaBookOpen
import Derived.Test.YtomodamdlnkcmaaBookAlive
import Derived.WalkKit
import Derived.WalkSmall
import Derived.WalkSpells
import Derived.ProofKit
import Derived.OpenShut
import Derived.ShutString
import Derived.ChangeOld
import Derived.Below
import Derived.Lib.Hide
import Derived.OwnWalk
import Derived.Outline
import Derived.BigQuiet
import Derived.Deep.QuietTactic
import Derived.Deep.RegionHeld3
namespace Go.Proofs.Ytomodamdlnkcmaa.bookTighter
open Go.ChangeShapes Go.WideShapes Go.ChangeAt Go.RowKit
open Go.ChangeMaps (open_string shut_string)
set_option linter.unusedVariables false

theorem own : ownKnob Try.prog.godebug = none := by kernel_rfl
theorem laidOut : laidOutB Try.prog = true := by kernel_rfl

set_option maxRecDepth 20000 in
set_option maxHeartbeats 4000000 in
open Classical in
theorem walk (w : World) (x0 : Nat → Int) (x1 : Nat → Int) (x2 : Nat → Int) :
    Calls Try.prog 5 #[.agg (bk x0), .agg (bk x1), .agg (bk x2)] w fun e w' => e = .returned (.bool true) ∧ Below w.heap.size w w' := by
  have r0 : RdI (((w.alloc (.cells (bk x0) 23)).alloc (.cells (bk x1) 23)).alloc (.cells (bk x2) 23)) w.heap.size 0 x0 := ((RdI.new x0 _ rfl).alloc _).alloc _
  have r1 : RdI (((w.alloc (.cells (bk x0) 23)).alloc (.cells (bk x1) 23)).alloc (.cells (bk x2) 23)) (w.heap.size + 1) 0 x1 := (RdI.new x1 _ (by simp)).alloc _
  have r2 : RdI (((w.alloc (.cells (bk x0) 23)).alloc (.cells (bk x1) 23)).alloc (.cells (bk x2) 23)) (w.heap.size + 1 + 1) 0 x2 := RdI.new x2 _ (by simp)
  have hB0 : Below w.heap.size w (((w.alloc (.cells (bk x0) 23)).alloc (.cells (bk x1) 23)).alloc (.cells (bk x2) 23)) := by
    (repeat (first | exact Below.refl _ _ | (refine b_st ?_ (by first | (simp; done) | (simp; omega))) | (refine b_al ?_ (Nat.le_refl _) _) | refine b_dn ?_ | refine b_dr ?_ | (refine b_cl ?_ (Nat.le_refl _) (by assumption))))
  have D00 := fun W => tighter7_any x0 x0 W
  have D01 := fun W => tighter7_any x0 x1 W
  have E01 := fun W => reftighter7_any x0 x1 W
  have D12 := fun W => tighter7_any x1 x2 W
  have D02 := fun W => tighter7_any x0 x2 W
  have D10 := fun W => tighter7_any x1 x0 W
  simp only [if_pos (Tig.refl x0)] at D00
  by_cases h01 : Tig x0 x1
  case neg =>
    simp only [if_neg h01] at D01 E01
    clear h01
    go_enter Try.func5, Try.ntmps5
    go_wp2_with fail
    refine wp_region_noPanic ?_
    refine wp_region_held_drew (S := fun w' => RdI w' w.heap.size 0 x0 ∧ RdI w' (w.heap.size + 1) 0 x1 ∧ RdI w' (w.heap.size + 1 + 1) 0 x2) (by kernel_rfl) ?_ (fun hHeld => ?_)
    · exact ⟨r0.below (b_dr (Below.refl _ _)), r1.below (b_dr (Below.refl _ _)), r2.below (b_dr (Below.refl _ _))⟩
    refine wpAnyH_take (i := 0) (oi := ⟨some 7, _, _, _, _, _⟩) (v := .agg (bk x0)) rfl (by kernel_rfl) (by kernel_rfl) (by kernel_rfl) (fun _ _ _ h => h) (yieldsIf_exec (by rfl) (fun w' hSw => exec_load w.heap.size 0 x0 _ w' rfl rfl (hSw.1) Try.underlying23 rfl (by kernel_rfl))) (by assumption) ?_
    (try simp only [Act.put, List.setIfInBounds_toArray, List.set_cons_zero, List.set_cons_succ])
    refine wpAnyH_take (i := 1) (oi := ⟨some 8, _, _, _, _, _⟩) (v := .agg (bk x1)) rfl (by kernel_rfl) (by kernel_rfl) (by kernel_rfl) (fun _ _ _ h => h) (yieldsIf_exec (by rfl) (fun w' hSw => exec_load (w.heap.size + 1) 0 x1 _ w' rfl rfl (hSw.2.1) Try.underlying23 rfl (by kernel_rfl))) (by assumption) ?_
    (try simp only [Act.put, List.setIfInBounds_toArray, List.set_cons_zero, List.set_cons_succ])
    refine wpAnyH_take (i := 3) (oi := ⟨some 10, _, _, _, _, _⟩) (v := .agg (bk x0)) rfl (by kernel_rfl) (by kernel_rfl) (by kernel_rfl) (fun _ _ _ h => h) (yieldsIf_exec (by rfl) (fun w' hSw => exec_load w.heap.size 0 x0 _ w' rfl rfl (hSw.1) Try.underlying23 rfl (by kernel_rfl))) (by assumption) ?_
    (try simp only [Act.put, List.setIfInBounds_toArray, List.set_cons_zero, List.set_cons_succ])
    refine wpAnyH_take (i := 4) (oi := ⟨some 11, _, _, _, _, _⟩) (v := .agg (bk x1)) rfl (by kernel_rfl) (by kernel_rfl) (by kernel_rfl) (fun _ _ _ h => h) (yieldsIf_exec (by rfl) (fun w' hSw => exec_load (w.heap.size + 1) 0 x1 _ w' rfl rfl (hSw.2.1) Try.underlying23 rfl (by kernel_rfl))) (by assumption) ?_
    (try simp only [Act.put, List.setIfInBounds_toArray, List.set_cons_zero, List.set_cons_succ])
    refine wpAnyH_ready (rs := [2]) (by kernel_rfl) (by simp) ?_
    refine AllReadyH.cons (o := ⟨some 9, _, _, _, _, _⟩) rfl (fun K hK => ?_) AllReadyH.nil
    go_simp
    (go_at_call 16; (with_reducible refine (D01 _).mono ?_); rintro e w3 ⟨rfl, hb3⟩)
    go_wp2_with fail
    refine hK.out _ _ (⟨hHeld.1.below hb3, hHeld.2.1.below hb3, hHeld.2.2.below hb3⟩) (fun hHeld => ?_)
    clear hK K
    (try simp only [Act.put, List.setIfInBounds_toArray, List.set_cons_zero, List.set_cons_succ])
    refine wpAnyH_ready (rs := [5]) (by kernel_rfl) (by simp) ?_
    refine AllReadyH.cons (o := ⟨some 12, _, _, _, _, _⟩) rfl (fun K hK => ?_) AllReadyH.nil
    go_simp
    (go_at_call 17; (with_reducible refine (E01 _).mono ?_); rintro e w4 ⟨rfl, hb4⟩)
    go_wp2_with fail
    refine hK.out _ _ (⟨hHeld.1.below hb4, hHeld.2.1.below hb4, hHeld.2.2.below hb4⟩) (fun hHeld => ?_)
    clear hK K
    (try simp only [Act.put, List.setIfInBounds_toArray, List.set_cons_zero, List.set_cons_succ])
    refine wpAnyH_take (i := 6) (oi := ⟨some 13, _, _, _, _, _⟩) (v := ?_) rfl (by kernel_rfl) (by kernel_rfl) (by kernel_rfl) (fun _ _ _ h => h) (yieldsIf_exec (by rfl) ?_) (by assumption) ?_
    rotate_left
    · (intro w' hSw; clear hSw; go_simp; try (with_reducible rfl))
    (try simp only [Act.put, List.setIfInBounds_toArray, List.set_cons_zero, List.set_cons_succ])
    refine wpAnyH_take (i := 7) (oi := ⟨some 14, _, _, _, _, _⟩) (v := ?_) rfl (by kernel_rfl) (by kernel_rfl) (by kernel_rfl) (fun _ _ _ h => h) (yieldsIf_exec (by rfl) ?_) (by assumption) ?_
    rotate_left
    · (intro w' hSw; clear hSw; go_simp; try (with_reducible rfl))
    (try simp only [Act.put, List.setIfInBounds_toArray, List.set_cons_zero, List.set_cons_succ])
    refine wpAnyH_take (i := 8) (oi := ⟨some 15, _, _, _, _, _⟩) (v := .agg (bk x0)) rfl (by kernel_rfl) (by kernel_rfl) (by kernel_rfl) (fun _ _ _ h => h) (yieldsIf_exec (by rfl) (fun w' hSw => exec_load w.heap.size 0 x0 _ w' rfl rfl (hSw.1) Try.underlying23 rfl (by kernel_rfl))) (by assumption) ?_
    (try simp only [Act.put, List.setIfInBounds_toArray, List.set_cons_zero, List.set_cons_succ])
    refine wpAnyH_take (i := 9) (oi := ⟨some 16, _, _, _, _, _⟩) (v := .agg (bk x0)) rfl (by kernel_rfl) (by kernel_rfl) (by kernel_rfl) (fun _ _ _ h => h) (yieldsIf_exec (by rfl) (fun w' hSw => exec_load w.heap.size 0 x0 _ w' rfl rfl (hSw.1) Try.underlying23 rfl (by kernel_rfl))) (by assumption) ?_
    (try simp only [Act.put, List.setIfInBounds_toArray, List.set_cons_zero, List.set_cons_succ])
    refine wpAnyH_ready (rs := [10]) (by kernel_rfl) (by simp) ?_
    refine AllReadyH.cons (o := ⟨some 17, _, _, _, _, _⟩) rfl (fun K hK => ?_) AllReadyH.nil
    go_simp
    (go_at_call 16; (with_reducible refine (D00 _).mono ?_); rintro e w5 ⟨rfl, hb5⟩)
    go_wp2_with fail
    refine hK.out _ _ (⟨hHeld.1.below hb5, hHeld.2.1.below hb5, hHeld.2.2.below hb5⟩) (fun hHeld => ?_)
    clear hK K
    (try simp only [Act.put, List.setIfInBounds_toArray, List.set_cons_zero, List.set_cons_succ])
    refine wpAnyH_take (i := 11) (oi := ⟨some 18, _, _, _, _, _⟩) (v := ?_) rfl (by kernel_rfl) (by kernel_rfl) (by kernel_rfl) (fun _ _ _ h => h) (yieldsIf_exec (by rfl) ?_) (by assumption) ?_
    rotate_left
    · (intro w' hSw; clear hSw; go_simp; try (with_reducible rfl))
    (try simp only [Act.put, List.setIfInBounds_toArray, List.set_cons_zero, List.set_cons_succ])
    refine wpAnyH_take (i := 12) (oi := ⟨some 19, _, _, _, _, _⟩) (v := ?_) rfl (by kernel_rfl) (by kernel_rfl) (by kernel_rfl) (fun _ _ _ h => h) (yieldsIf_exec (by rfl) ?_) (by assumption) ?_
    rotate_left
    · (intro w' hSw; clear hSw; go_simp; try (with_reducible rfl))
    (try simp only [Act.put, List.setIfInBounds_toArray, List.set_cons_zero, List.set_cons_succ])
    refine wpAnyH_done (by kernel_rfl) ?_ _
    refine NoPanic.normal ?_
    have hB : Below w.heap.size w w5 := b_cl (b_cl (b_cl (b_dr hB0) (Nat.le_refl _) hb3) (Nat.le_refl _) hb4) (Nat.le_refl _) hb5
    obtain ⟨ra, rb, rc⟩ := hHeld
    clear hb3 hb4 hb5 r0 r1 r2 hB0
    go_wp2_with (first
      | refine wpList_load_bk (by rfl) 23 _ rfl w.heap.size 0 rfl x0 _ ra Try.underlying23 rfl (by kernel_rfl) ?_
      | refine wpList_load_bk (by rfl) 23 _ rfl (w.heap.size + 1) 0 rfl x1 _ rb Try.underlying23 rfl (by kernel_rfl) ?_
      | refine wpList_load_bk (by rfl) 23 _ rfl (w.heap.size + 1 + 1) 0 rfl x2 _ rc Try.underlying23 rfl (by kernel_rfl) ?_
      | (go_at_call 16; (with_reducible refine (D01 _).mono ?_); rintro e w6 ⟨rfl, hb6⟩; replace ra := ra.below hb6; replace rb := rb.below hb6; replace rc := rc.below hb6; replace hB := b_cl hB (Nat.le_refl _) hb6; clear hb6)
      | (go_at_call 13; (with_reducible refine (alive7_any _).mono ?_); rintro e w7 ⟨rfl, hb7⟩; replace hB := b_cl hB (Nat.le_refl _) hb7))
    go_ret
    exact ⟨rfl, hB⟩
  simp only [if_pos h01] at D01 E01
  by_cases h12 : Tig x1 x2
  case neg =>
    simp only [if_neg h12] at D12
    clear h12
    by_cases h10 : Tig x1 x0
    case neg =>
      simp only [if_neg h10] at D10
      clear h01 h10
      go_enter Try.func5, Try.ntmps5
      go_wp2_with fail
      refine wp_region_noPanic ?_
      refine wp_region_held_drew (S := fun w' => RdI w' w.heap.size 0 x0 ∧ RdI w' (w.heap.size + 1) 0 x1 ∧ RdI w' (w.heap.size + 1 + 1) 0 x2) (by kernel_rfl) ?_ (fun hHeld => ?_)
      · exact ⟨r0.below (b_dr (Below.refl _ _)), r1.below (b_dr (Below.refl _ _)), r2.below (b_dr (Below.refl _ _))⟩
      refine wpAnyH_take (i := 0) (oi := ⟨some 7, _, _, _, _, _⟩) (v := .agg (bk x0)) rfl (by kernel_rfl) (by kernel_rfl) (by kernel_rfl) (fun _ _ _ h => h) (yieldsIf_exec (by rfl) (fun w' hSw => exec_load w.heap.size 0 x0 _ w' rfl rfl (hSw.1) Try.underlying23 rfl (by kernel_rfl))) (by assumption) ?_
      (try simp only [Act.put, List.setIfInBounds_toArray, List.set_cons_zero, List.set_cons_succ])
      refine wpAnyH_take (i := 1) (oi := ⟨some 8, _, _, _, _, _⟩) (v := .agg (bk x1)) rfl (by kernel_rfl) (by kernel_rfl) (by kernel_rfl) (fun _ _ _ h => h) (yieldsIf_exec (by rfl) (fun w' hSw => exec_load (w.heap.size + 1) 0 x1 _ w' rfl rfl (hSw.2.1) Try.underlying23 rfl (by kernel_rfl))) (by assumption) ?_
      (try simp only [Act.put, List.setIfInBounds_toArray, List.set_cons_zero, List.set_cons_succ])
      refine wpAnyH_take (i := 3) (oi := ⟨some 10, _, _, _, _, _⟩) (v := .agg (bk x0)) rfl (by kernel_rfl) (by kernel_rfl) (by kernel_rfl) (fun _ _ _ h => h) (yieldsIf_exec (by rfl) (fun w' hSw => exec_load w.heap.size 0 x0 _ w' rfl rfl (hSw.1) Try.underlying23 rfl (by kernel_rfl))) (by assumption) ?_
      (try simp only [Act.put, List.setIfInBounds_toArray, List.set_cons_zero, List.set_cons_succ])
      refine wpAnyH_take (i := 4) (oi := ⟨some 11, _, _, _, _, _⟩) (v := .agg (bk x1)) rfl (by kernel_rfl) (by kernel_rfl) (by kernel_rfl) (fun _ _ _ h => h) (yieldsIf_exec (by rfl) (fun w' hSw => exec_load (w.heap.size + 1) 0 x1 _ w' rfl rfl (hSw.2.1) Try.underlying23 rfl (by kernel_rfl))) (by assumption) ?_
      (try simp only [Act.put, List.setIfInBounds_toArray, List.set_cons_zero, List.set_cons_succ])
      refine wpAnyH_ready (rs := [2]) (by kernel_rfl) (by simp) ?_
      refine AllReadyH.cons (o := ⟨some 9, _, _, _, _, _⟩) rfl (fun K hK => ?_) AllReadyH.nil
      go_simp
      (go_at_call 16; (with_reducible refine (D01 _).mono ?_); rintro e w3 ⟨rfl, hb3⟩)
      go_wp2_with fail
      refine hK.out _ _ (⟨hHeld.1.below hb3, hHeld.2.1.below hb3, hHeld.2.2.below hb3⟩) (fun hHeld => ?_)
      clear hK K
      (try simp only [Act.put, List.setIfInBounds_toArray, List.set_cons_zero, List.set_cons_succ])
      refine wpAnyH_ready (rs := [5]) (by kernel_rfl) (by simp) ?_
      refine AllReadyH.cons (o := ⟨some 12, _, _, _, _, _⟩) rfl (fun K hK => ?_) AllReadyH.nil
      go_simp
      (go_at_call 17; (with_reducible refine (E01 _).mono ?_); rintro e w4 ⟨rfl, hb4⟩)
      go_wp2_with fail
      refine hK.out _ _ (⟨hHeld.1.below hb4, hHeld.2.1.below hb4, hHeld.2.2.below hb4⟩) (fun hHeld => ?_)
      clear hK K
      (try simp only [Act.put, List.setIfInBounds_toArray, List.set_cons_zero, List.set_cons_succ])
      refine wpAnyH_take (i := 6) (oi := ⟨some 13, _, _, _, _, _⟩) (v := ?_) rfl (by kernel_rfl) (by kernel_rfl) (by kernel_rfl) (fun _ _ _ h => h) (yieldsIf_exec (by rfl) ?_) (by assumption) ?_
      rotate_left
      · (intro w' hSw; clear hSw; go_simp; try (with_reducible rfl))
      (try simp only [Act.put, List.setIfInBounds_toArray, List.set_cons_zero, List.set_cons_succ])
      refine wpAnyH_take (i := 7) (oi := ⟨some 14, _, _, _, _, _⟩) (v := ?_) rfl (by kernel_rfl) (by kernel_rfl) (by kernel_rfl) (fun _ _ _ h => h) (yieldsIf_exec (by rfl) ?_) (by assumption) ?_
      rotate_left
      · (intro w' hSw; clear hSw; go_simp; try (with_reducible rfl))
      (try simp only [Act.put, List.setIfInBounds_toArray, List.set_cons_zero, List.set_cons_succ])
      refine wpAnyH_take (i := 8) (oi := ⟨some 15, _, _, _, _, _⟩) (v := .agg (bk x0)) rfl (by kernel_rfl) (by kernel_rfl) (by kernel_rfl) (fun _ _ _ h => h) (yieldsIf_exec (by rfl) (fun w' hSw => exec_load w.heap.size 0 x0 _ w' rfl rfl (hSw.1) Try.underlying23 rfl (by kernel_rfl))) (by assumption) ?_
      (try simp only [Act.put, List.setIfInBounds_toArray, List.set_cons_zero, List.set_cons_succ])
      refine wpAnyH_take (i := 9) (oi := ⟨some 16, _, _, _, _, _⟩) (v := .agg (bk x0)) rfl (by kernel_rfl) (by kernel_rfl) (by kernel_rfl) (fun _ _ _ h => h) (yieldsIf_exec (by rfl) (fun w' hSw => exec_load w.heap.size 0 x0 _ w' rfl rfl (hSw.1) Try.underlying23 rfl (by kernel_rfl))) (by assumption) ?_
      (try simp only [Act.put, List.setIfInBounds_toArray, List.set_cons_zero, List.set_cons_succ])
      refine wpAnyH_ready (rs := [10]) (by kernel_rfl) (by simp) ?_
      refine AllReadyH.cons (o := ⟨some 17, _, _, _, _, _⟩) rfl (fun K hK => ?_) AllReadyH.nil
      go_simp
      (go_at_call 16; (with_reducible refine (D00 _).mono ?_); rintro e w5 ⟨rfl, hb5⟩)
      go_wp2_with fail
      refine hK.out _ _ (⟨hHeld.1.below hb5, hHeld.2.1.below hb5, hHeld.2.2.below hb5⟩) (fun hHeld => ?_)
      clear hK K
      (try simp only [Act.put, List.setIfInBounds_toArray, List.set_cons_zero, List.set_cons_succ])
      refine wpAnyH_take (i := 11) (oi := ⟨some 18, _, _, _, _, _⟩) (v := ?_) rfl (by kernel_rfl) (by kernel_rfl) (by kernel_rfl) (fun _ _ _ h => h) (yieldsIf_exec (by rfl) ?_) (by assumption) ?_
      rotate_left
      · (intro w' hSw; clear hSw; go_simp; try (with_reducible rfl))
      (try simp only [Act.put, List.setIfInBounds_toArray, List.set_cons_zero, List.set_cons_succ])
      refine wpAnyH_take (i := 12) (oi := ⟨some 19, _, _, _, _, _⟩) (v := ?_) rfl (by kernel_rfl) (by kernel_rfl) (by kernel_rfl) (fun _ _ _ h => h) (yieldsIf_exec (by rfl) ?_) (by assumption) ?_
      rotate_left
      · (intro w' hSw; clear hSw; go_simp; try (with_reducible rfl))
      (try simp only [Act.put, List.setIfInBounds_toArray, List.set_cons_zero, List.set_cons_succ])
      refine wpAnyH_done (by kernel_rfl) ?_ _
      refine NoPanic.normal ?_
      have hB : Below w.heap.size w w5 := b_cl (b_cl (b_cl (b_dr hB0) (Nat.le_refl _) hb3) (Nat.le_refl _) hb4) (Nat.le_refl _) hb5
      obtain ⟨ra, rb, rc⟩ := hHeld
      clear hb3 hb4 hb5 r0 r1 r2 hB0
      go_wp2_with (first
        | refine wpList_load_bk (by rfl) 23 _ rfl w.heap.size 0 rfl x0 _ ra Try.underlying23 rfl (by kernel_rfl) ?_
        | refine wpList_load_bk (by rfl) 23 _ rfl (w.heap.size + 1) 0 rfl x1 _ rb Try.underlying23 rfl (by kernel_rfl) ?_
        | refine wpList_load_bk (by rfl) 23 _ rfl (w.heap.size + 1 + 1) 0 rfl x2 _ rc Try.underlying23 rfl (by kernel_rfl) ?_
        | (go_at_call 16; (with_reducible refine (D01 _).mono ?_); rintro e w6 ⟨rfl, hb6⟩; replace ra := ra.below hb6; replace rb := rb.below hb6; replace rc := rc.below hb6; replace hB := b_cl hB (Nat.le_refl _) hb6; clear hb6)
        | (go_at_call 16; (with_reducible refine (D12 _).mono ?_); rintro e w6 ⟨rfl, hb6⟩; replace ra := ra.below hb6; replace rb := rb.below hb6; replace rc := rc.below hb6; replace hB := b_cl hB (Nat.le_refl _) hb6; clear hb6)
        | (go_at_call 16; (with_reducible refine (D10 _).mono ?_); rintro e w6 ⟨rfl, hb6⟩; replace ra := ra.below hb6; replace rb := rb.below hb6; replace rc := rc.below hb6; replace hB := b_cl hB (Nat.le_refl _) hb6; clear hb6)
        | (go_at_call 13; (with_reducible refine (alive7_any _).mono ?_); rintro e w7 ⟨rfl, hb7⟩; replace hB := b_cl hB (Nat.le_refl _) hb7))
      go_ret
      exact ⟨rfl, hB⟩
    have heq := eqB_iff.2 (Tig.same h01 h10)
    simp only [if_pos h10] at D10
    clear h01 h10
    go_enter Try.func5, Try.ntmps5
    go_wp2_with fail
    refine wp_region_noPanic ?_
    refine wp_region_held_drew (S := fun w' => RdI w' w.heap.size 0 x0 ∧ RdI w' (w.heap.size + 1) 0 x1 ∧ RdI w' (w.heap.size + 1 + 1) 0 x2) (by kernel_rfl) ?_ (fun hHeld => ?_)
    · exact ⟨r0.below (b_dr (Below.refl _ _)), r1.below (b_dr (Below.refl _ _)), r2.below (b_dr (Below.refl _ _))⟩
    refine wpAnyH_take (i := 0) (oi := ⟨some 7, _, _, _, _, _⟩) (v := .agg (bk x0)) rfl (by kernel_rfl) (by kernel_rfl) (by kernel_rfl) (fun _ _ _ h => h) (yieldsIf_exec (by rfl) (fun w' hSw => exec_load w.heap.size 0 x0 _ w' rfl rfl (hSw.1) Try.underlying23 rfl (by kernel_rfl))) (by assumption) ?_
    (try simp only [Act.put, List.setIfInBounds_toArray, List.set_cons_zero, List.set_cons_succ])
    refine wpAnyH_take (i := 1) (oi := ⟨some 8, _, _, _, _, _⟩) (v := .agg (bk x1)) rfl (by kernel_rfl) (by kernel_rfl) (by kernel_rfl) (fun _ _ _ h => h) (yieldsIf_exec (by rfl) (fun w' hSw => exec_load (w.heap.size + 1) 0 x1 _ w' rfl rfl (hSw.2.1) Try.underlying23 rfl (by kernel_rfl))) (by assumption) ?_
    (try simp only [Act.put, List.setIfInBounds_toArray, List.set_cons_zero, List.set_cons_succ])
    refine wpAnyH_take (i := 3) (oi := ⟨some 10, _, _, _, _, _⟩) (v := .agg (bk x0)) rfl (by kernel_rfl) (by kernel_rfl) (by kernel_rfl) (fun _ _ _ h => h) (yieldsIf_exec (by rfl) (fun w' hSw => exec_load w.heap.size 0 x0 _ w' rfl rfl (hSw.1) Try.underlying23 rfl (by kernel_rfl))) (by assumption) ?_
    (try simp only [Act.put, List.setIfInBounds_toArray, List.set_cons_zero, List.set_cons_succ])
    refine wpAnyH_take (i := 4) (oi := ⟨some 11, _, _, _, _, _⟩) (v := .agg (bk x1)) rfl (by kernel_rfl) (by kernel_rfl) (by kernel_rfl) (fun _ _ _ h => h) (yieldsIf_exec (by rfl) (fun w' hSw => exec_load (w.heap.size + 1) 0 x1 _ w' rfl rfl (hSw.2.1) Try.underlying23 rfl (by kernel_rfl))) (by assumption) ?_
    (try simp only [Act.put, List.setIfInBounds_toArray, List.set_cons_zero, List.set_cons_succ])
    refine wpAnyH_ready (rs := [2]) (by kernel_rfl) (by simp) ?_
    refine AllReadyH.cons (o := ⟨some 9, _, _, _, _, _⟩) rfl (fun K hK => ?_) AllReadyH.nil
    go_simp
    (go_at_call 16; (with_reducible refine (D01 _).mono ?_); rintro e w3 ⟨rfl, hb3⟩)
    go_wp2_with fail
    refine hK.out _ _ (⟨hHeld.1.below hb3, hHeld.2.1.below hb3, hHeld.2.2.below hb3⟩) (fun hHeld => ?_)
    clear hK K
    (try simp only [Act.put, List.setIfInBounds_toArray, List.set_cons_zero, List.set_cons_succ])
    refine wpAnyH_ready (rs := [5]) (by kernel_rfl) (by simp) ?_
    refine AllReadyH.cons (o := ⟨some 12, _, _, _, _, _⟩) rfl (fun K hK => ?_) AllReadyH.nil
    go_simp
    (go_at_call 17; (with_reducible refine (E01 _).mono ?_); rintro e w4 ⟨rfl, hb4⟩)
    go_wp2_with fail
    refine hK.out _ _ (⟨hHeld.1.below hb4, hHeld.2.1.below hb4, hHeld.2.2.below hb4⟩) (fun hHeld => ?_)
    clear hK K
    (try simp only [Act.put, List.setIfInBounds_toArray, List.set_cons_zero, List.set_cons_succ])
    refine wpAnyH_take (i := 6) (oi := ⟨some 13, _, _, _, _, _⟩) (v := ?_) rfl (by kernel_rfl) (by kernel_rfl) (by kernel_rfl) (fun _ _ _ h => h) (yieldsIf_exec (by rfl) ?_) (by assumption) ?_
    rotate_left
    · (intro w' hSw; clear hSw; go_simp; try (with_reducible rfl))
    (try simp only [Act.put, List.setIfInBounds_toArray, List.set_cons_zero, List.set_cons_succ])
    refine wpAnyH_take (i := 7) (oi := ⟨some 14, _, _, _, _, _⟩) (v := ?_) rfl (by kernel_rfl) (by kernel_rfl) (by kernel_rfl) (fun _ _ _ h => h) (yieldsIf_exec (by rfl) ?_) (by assumption) ?_
    rotate_left
    · (intro w' hSw; clear hSw; go_simp; try (with_reducible rfl))
    (try simp only [Act.put, List.setIfInBounds_toArray, List.set_cons_zero, List.set_cons_succ])
    refine wpAnyH_take (i := 8) (oi := ⟨some 15, _, _, _, _, _⟩) (v := .agg (bk x0)) rfl (by kernel_rfl) (by kernel_rfl) (by kernel_rfl) (fun _ _ _ h => h) (yieldsIf_exec (by rfl) (fun w' hSw => exec_load w.heap.size 0 x0 _ w' rfl rfl (hSw.1) Try.underlying23 rfl (by kernel_rfl))) (by assumption) ?_
    (try simp only [Act.put, List.setIfInBounds_toArray, List.set_cons_zero, List.set_cons_succ])
    refine wpAnyH_take (i := 9) (oi := ⟨some 16, _, _, _, _, _⟩) (v := .agg (bk x0)) rfl (by kernel_rfl) (by kernel_rfl) (by kernel_rfl) (fun _ _ _ h => h) (yieldsIf_exec (by rfl) (fun w' hSw => exec_load w.heap.size 0 x0 _ w' rfl rfl (hSw.1) Try.underlying23 rfl (by kernel_rfl))) (by assumption) ?_
    (try simp only [Act.put, List.setIfInBounds_toArray, List.set_cons_zero, List.set_cons_succ])
    refine wpAnyH_ready (rs := [10]) (by kernel_rfl) (by simp) ?_
    refine AllReadyH.cons (o := ⟨some 17, _, _, _, _, _⟩) rfl (fun K hK => ?_) AllReadyH.nil
    go_simp
    (go_at_call 16; (with_reducible refine (D00 _).mono ?_); rintro e w5 ⟨rfl, hb5⟩)
    go_wp2_with fail
    refine hK.out _ _ (⟨hHeld.1.below hb5, hHeld.2.1.below hb5, hHeld.2.2.below hb5⟩) (fun hHeld => ?_)
    clear hK K
    (try simp only [Act.put, List.setIfInBounds_toArray, List.set_cons_zero, List.set_cons_succ])
    refine wpAnyH_take (i := 11) (oi := ⟨some 18, _, _, _, _, _⟩) (v := ?_) rfl (by kernel_rfl) (by kernel_rfl) (by kernel_rfl) (fun _ _ _ h => h) (yieldsIf_exec (by rfl) ?_) (by assumption) ?_
    rotate_left
    · (intro w' hSw; clear hSw; go_simp; try (with_reducible rfl))
    (try simp only [Act.put, List.setIfInBounds_toArray, List.set_cons_zero, List.set_cons_succ])
    refine wpAnyH_take (i := 12) (oi := ⟨some 19, _, _, _, _, _⟩) (v := ?_) rfl (by kernel_rfl) (by kernel_rfl) (by kernel_rfl) (fun _ _ _ h => h) (yieldsIf_exec (by rfl) ?_) (by assumption) ?_
    rotate_left
    · (intro w' hSw; clear hSw; go_simp; try (with_reducible rfl))
    (try simp only [Act.put, List.setIfInBounds_toArray, List.set_cons_zero, List.set_cons_succ])
    refine wpAnyH_done (by kernel_rfl) ?_ _
    refine NoPanic.normal ?_
    have hB : Below w.heap.size w w5 := b_cl (b_cl (b_cl (b_dr hB0) (Nat.le_refl _) hb3) (Nat.le_refl _) hb4) (Nat.le_refl _) hb5
    obtain ⟨ra, rb, rc⟩ := hHeld
    clear hb3 hb4 hb5 r0 r1 r2 hB0
    go_wp2_with (first
      | refine wpList_load_bk (by rfl) 23 _ rfl w.heap.size 0 rfl x0 _ ra Try.underlying23 rfl (by kernel_rfl) ?_
      | refine wpList_load_bk (by rfl) 23 _ rfl (w.heap.size + 1) 0 rfl x1 _ rb Try.underlying23 rfl (by kernel_rfl) ?_
      | refine wpList_load_bk (by rfl) 23 _ rfl (w.heap.size + 1 + 1) 0 rfl x2 _ rc Try.underlying23 rfl (by kernel_rfl) ?_
      | (go_at_call 16; (with_reducible refine (D01 _).mono ?_); rintro e w6 ⟨rfl, hb6⟩; replace ra := ra.below hb6; replace rb := rb.below hb6; replace rc := rc.below hb6; replace hB := b_cl hB (Nat.le_refl _) hb6; clear hb6)
      | (go_at_call 16; (with_reducible refine (D12 _).mono ?_); rintro e w6 ⟨rfl, hb6⟩; replace ra := ra.below hb6; replace rb := rb.below hb6; replace rc := rc.below hb6; replace hB := b_cl hB (Nat.le_refl _) hb6; clear hb6)
      | (go_at_call 16; (with_reducible refine (D10 _).mono ?_); rintro e w6 ⟨rfl, hb6⟩; replace ra := ra.below hb6; replace rb := rb.below hb6; replace rc := rc.below hb6; replace hB := b_cl hB (Nat.le_refl _) hb6; clear hb6)
      | refine wpList_neq_bk (by rfl) rfl x0 x1 true rfl rfl heq ?_
      | (go_at_call 13; (with_reducible refine (alive7_any _).mono ?_); rintro e w7 ⟨rfl, hb7⟩; replace hB := b_cl hB (Nat.le_refl _) hb7))
    go_ret
    exact ⟨rfl, hB⟩
  simp only [if_pos h12] at D12
  simp only [if_pos (h01.trans h12)] at D02
  clear h12
  by_cases h10 : Tig x1 x0
  case neg =>
    simp only [if_neg h10] at D10
    clear h01 h10
    go_enter Try.func5, Try.ntmps5
    go_wp2_with fail
    refine wp_region_noPanic ?_
    refine wp_region_held_drew (S := fun w' => RdI w' w.heap.size 0 x0 ∧ RdI w' (w.heap.size + 1) 0 x1 ∧ RdI w' (w.heap.size + 1 + 1) 0 x2) (by kernel_rfl) ?_ (fun hHeld => ?_)
    · exact ⟨r0.below (b_dr (Below.refl _ _)), r1.below (b_dr (Below.refl _ _)), r2.below (b_dr (Below.refl _ _))⟩
    refine wpAnyH_take (i := 0) (oi := ⟨some 7, _, _, _, _, _⟩) (v := .agg (bk x0)) rfl (by kernel_rfl) (by kernel_rfl) (by kernel_rfl) (fun _ _ _ h => h) (yieldsIf_exec (by rfl) (fun w' hSw => exec_load w.heap.size 0 x0 _ w' rfl rfl (hSw.1) Try.underlying23 rfl (by kernel_rfl))) (by assumption) ?_
    (try simp only [Act.put, List.setIfInBounds_toArray, List.set_cons_zero, List.set_cons_succ])
    refine wpAnyH_take (i := 1) (oi := ⟨some 8, _, _, _, _, _⟩) (v := .agg (bk x1)) rfl (by kernel_rfl) (by kernel_rfl) (by kernel_rfl) (fun _ _ _ h => h) (yieldsIf_exec (by rfl) (fun w' hSw => exec_load (w.heap.size + 1) 0 x1 _ w' rfl rfl (hSw.2.1) Try.underlying23 rfl (by kernel_rfl))) (by assumption) ?_
    (try simp only [Act.put, List.setIfInBounds_toArray, List.set_cons_zero, List.set_cons_succ])
    refine wpAnyH_take (i := 3) (oi := ⟨some 10, _, _, _, _, _⟩) (v := .agg (bk x0)) rfl (by kernel_rfl) (by kernel_rfl) (by kernel_rfl) (fun _ _ _ h => h) (yieldsIf_exec (by rfl) (fun w' hSw => exec_load w.heap.size 0 x0 _ w' rfl rfl (hSw.1) Try.underlying23 rfl (by kernel_rfl))) (by assumption) ?_
    (try simp only [Act.put, List.setIfInBounds_toArray, List.set_cons_zero, List.set_cons_succ])
    refine wpAnyH_take (i := 4) (oi := ⟨some 11, _, _, _, _, _⟩) (v := .agg (bk x1)) rfl (by kernel_rfl) (by kernel_rfl) (by kernel_rfl) (fun _ _ _ h => h) (yieldsIf_exec (by rfl) (fun w' hSw => exec_load (w.heap.size + 1) 0 x1 _ w' rfl rfl (hSw.2.1) Try.underlying23 rfl (by kernel_rfl))) (by assumption) ?_
    (try simp only [Act.put, List.setIfInBounds_toArray, List.set_cons_zero, List.set_cons_succ])
    refine wpAnyH_ready (rs := [2]) (by kernel_rfl) (by simp) ?_
    refine AllReadyH.cons (o := ⟨some 9, _, _, _, _, _⟩) rfl (fun K hK => ?_) AllReadyH.nil
    go_simp
    (go_at_call 16; (with_reducible refine (D01 _).mono ?_); rintro e w3 ⟨rfl, hb3⟩)
    go_wp2_with fail
    refine hK.out _ _ (⟨hHeld.1.below hb3, hHeld.2.1.below hb3, hHeld.2.2.below hb3⟩) (fun hHeld => ?_)
    clear hK K
    (try simp only [Act.put, List.setIfInBounds_toArray, List.set_cons_zero, List.set_cons_succ])
    refine wpAnyH_ready (rs := [5]) (by kernel_rfl) (by simp) ?_
    refine AllReadyH.cons (o := ⟨some 12, _, _, _, _, _⟩) rfl (fun K hK => ?_) AllReadyH.nil
    go_simp
    (go_at_call 17; (with_reducible refine (E01 _).mono ?_); rintro e w4 ⟨rfl, hb4⟩)
    go_wp2_with fail
    refine hK.out _ _ (⟨hHeld.1.below hb4, hHeld.2.1.below hb4, hHeld.2.2.below hb4⟩) (fun hHeld => ?_)
    clear hK K
    (try simp only [Act.put, List.setIfInBounds_toArray, List.set_cons_zero, List.set_cons_succ])
    refine wpAnyH_take (i := 6) (oi := ⟨some 13, _, _, _, _, _⟩) (v := ?_) rfl (by kernel_rfl) (by kernel_rfl) (by kernel_rfl) (fun _ _ _ h => h) (yieldsIf_exec (by rfl) ?_) (by assumption) ?_
    rotate_left
    · (intro w' hSw; clear hSw; go_simp; try (with_reducible rfl))
    (try simp only [Act.put, List.setIfInBounds_toArray, List.set_cons_zero, List.set_cons_succ])
    refine wpAnyH_take (i := 7) (oi := ⟨some 14, _, _, _, _, _⟩) (v := ?_) rfl (by kernel_rfl) (by kernel_rfl) (by kernel_rfl) (fun _ _ _ h => h) (yieldsIf_exec (by rfl) ?_) (by assumption) ?_
    rotate_left
    · (intro w' hSw; clear hSw; go_simp; try (with_reducible rfl))
    (try simp only [Act.put, List.setIfInBounds_toArray, List.set_cons_zero, List.set_cons_succ])
    refine wpAnyH_take (i := 8) (oi := ⟨some 15, _, _, _, _, _⟩) (v := .agg (bk x0)) rfl (by kernel_rfl) (by kernel_rfl) (by kernel_rfl) (fun _ _ _ h => h) (yieldsIf_exec (by rfl) (fun w' hSw => exec_load w.heap.size 0 x0 _ w' rfl rfl (hSw.1) Try.underlying23 rfl (by kernel_rfl))) (by assumption) ?_
    (try simp only [Act.put, List.setIfInBounds_toArray, List.set_cons_zero, List.set_cons_succ])
    refine wpAnyH_take (i := 9) (oi := ⟨some 16, _, _, _, _, _⟩) (v := .agg (bk x0)) rfl (by kernel_rfl) (by kernel_rfl) (by kernel_rfl) (fun _ _ _ h => h) (yieldsIf_exec (by rfl) (fun w' hSw => exec_load w.heap.size 0 x0 _ w' rfl rfl (hSw.1) Try.underlying23 rfl (by kernel_rfl))) (by assumption) ?_
    (try simp only [Act.put, List.setIfInBounds_toArray, List.set_cons_zero, List.set_cons_succ])
    refine wpAnyH_ready (rs := [10]) (by kernel_rfl) (by simp) ?_
    refine AllReadyH.cons (o := ⟨some 17, _, _, _, _, _⟩) rfl (fun K hK => ?_) AllReadyH.nil
    go_simp
    (go_at_call 16; (with_reducible refine (D00 _).mono ?_); rintro e w5 ⟨rfl, hb5⟩)
    go_wp2_with fail
    refine hK.out _ _ (⟨hHeld.1.below hb5, hHeld.2.1.below hb5, hHeld.2.2.below hb5⟩) (fun hHeld => ?_)
    clear hK K
    (try simp only [Act.put, List.setIfInBounds_toArray, List.set_cons_zero, List.set_cons_succ])
    refine wpAnyH_take (i := 11) (oi := ⟨some 18, _, _, _, _, _⟩) (v := ?_) rfl (by kernel_rfl) (by kernel_rfl) (by kernel_rfl) (fun _ _ _ h => h) (yieldsIf_exec (by rfl) ?_) (by assumption) ?_
    rotate_left
    · (intro w' hSw; clear hSw; go_simp; try (with_reducible rfl))
    (try simp only [Act.put, List.setIfInBounds_toArray, List.set_cons_zero, List.set_cons_succ])
    refine wpAnyH_take (i := 12) (oi := ⟨some 19, _, _, _, _, _⟩) (v := ?_) rfl (by kernel_rfl) (by kernel_rfl) (by kernel_rfl) (fun _ _ _ h => h) (yieldsIf_exec (by rfl) ?_) (by assumption) ?_
    rotate_left
    · (intro w' hSw; clear hSw; go_simp; try (with_reducible rfl))
    (try simp only [Act.put, List.setIfInBounds_toArray, List.set_cons_zero, List.set_cons_succ])
    refine wpAnyH_done (by kernel_rfl) ?_ _
    refine NoPanic.normal ?_
    have hB : Below w.heap.size w w5 := b_cl (b_cl (b_cl (b_dr hB0) (Nat.le_refl _) hb3) (Nat.le_refl _) hb4) (Nat.le_refl _) hb5
    obtain ⟨ra, rb, rc⟩ := hHeld
    clear hb3 hb4 hb5 r0 r1 r2 hB0
    go_wp2_with (first
      | refine wpList_load_bk (by rfl) 23 _ rfl w.heap.size 0 rfl x0 _ ra Try.underlying23 rfl (by kernel_rfl) ?_
      | refine wpList_load_bk (by rfl) 23 _ rfl (w.heap.size + 1) 0 rfl x1 _ rb Try.underlying23 rfl (by kernel_rfl) ?_
      | refine wpList_load_bk (by rfl) 23 _ rfl (w.heap.size + 1 + 1) 0 rfl x2 _ rc Try.underlying23 rfl (by kernel_rfl) ?_
      | (go_at_call 16; (with_reducible refine (D01 _).mono ?_); rintro e w6 ⟨rfl, hb6⟩; replace ra := ra.below hb6; replace rb := rb.below hb6; replace rc := rc.below hb6; replace hB := b_cl hB (Nat.le_refl _) hb6; clear hb6)
      | (go_at_call 16; (with_reducible refine (D12 _).mono ?_); rintro e w6 ⟨rfl, hb6⟩; replace ra := ra.below hb6; replace rb := rb.below hb6; replace rc := rc.below hb6; replace hB := b_cl hB (Nat.le_refl _) hb6; clear hb6)
      | (go_at_call 16; (with_reducible refine (D02 _).mono ?_); rintro e w6 ⟨rfl, hb6⟩; replace ra := ra.below hb6; replace rb := rb.below hb6; replace rc := rc.below hb6; replace hB := b_cl hB (Nat.le_refl _) hb6; clear hb6)
      | (go_at_call 16; (with_reducible refine (D10 _).mono ?_); rintro e w6 ⟨rfl, hb6⟩; replace ra := ra.below hb6; replace rb := rb.below hb6; replace rc := rc.below hb6; replace hB := b_cl hB (Nat.le_refl _) hb6; clear hb6)
      | (go_at_call 13; (with_reducible refine (alive7_any _).mono ?_); rintro e w7 ⟨rfl, hb7⟩; replace hB := b_cl hB (Nat.le_refl _) hb7))
    go_ret
    exact ⟨rfl, hB⟩
  have heq := eqB_iff.2 (Tig.same h01 h10)
  simp only [if_pos h10] at D10
  clear h01 h10
  go_enter Try.func5, Try.ntmps5
  go_wp2_with fail
  refine wp_region_noPanic ?_
  refine wp_region_held_drew (S := fun w' => RdI w' w.heap.size 0 x0 ∧ RdI w' (w.heap.size + 1) 0 x1 ∧ RdI w' (w.heap.size + 1 + 1) 0 x2) (by kernel_rfl) ?_ (fun hHeld => ?_)
  · exact ⟨r0.below (b_dr (Below.refl _ _)), r1.below (b_dr (Below.refl _ _)), r2.below (b_dr (Below.refl _ _))⟩
  refine wpAnyH_take (i := 0) (oi := ⟨some 7, _, _, _, _, _⟩) (v := .agg (bk x0)) rfl (by kernel_rfl) (by kernel_rfl) (by kernel_rfl) (fun _ _ _ h => h) (yieldsIf_exec (by rfl) (fun w' hSw => exec_load w.heap.size 0 x0 _ w' rfl rfl (hSw.1) Try.underlying23 rfl (by kernel_rfl))) (by assumption) ?_
  (try simp only [Act.put, List.setIfInBounds_toArray, List.set_cons_zero, List.set_cons_succ])
  refine wpAnyH_take (i := 1) (oi := ⟨some 8, _, _, _, _, _⟩) (v := .agg (bk x1)) rfl (by kernel_rfl) (by kernel_rfl) (by kernel_rfl) (fun _ _ _ h => h) (yieldsIf_exec (by rfl) (fun w' hSw => exec_load (w.heap.size + 1) 0 x1 _ w' rfl rfl (hSw.2.1) Try.underlying23 rfl (by kernel_rfl))) (by assumption) ?_
  (try simp only [Act.put, List.setIfInBounds_toArray, List.set_cons_zero, List.set_cons_succ])
  refine wpAnyH_take (i := 3) (oi := ⟨some 10, _, _, _, _, _⟩) (v := .agg (bk x0)) rfl (by kernel_rfl) (by kernel_rfl) (by kernel_rfl) (fun _ _ _ h => h) (yieldsIf_exec (by rfl) (fun w' hSw => exec_load w.heap.size 0 x0 _ w' rfl rfl (hSw.1) Try.underlying23 rfl (by kernel_rfl))) (by assumption) ?_
  (try simp only [Act.put, List.setIfInBounds_toArray, List.set_cons_zero, List.set_cons_succ])
  refine wpAnyH_take (i := 4) (oi := ⟨some 11, _, _, _, _, _⟩) (v := .agg (bk x1)) rfl (by kernel_rfl) (by kernel_rfl) (by kernel_rfl) (fun _ _ _ h => h) (yieldsIf_exec (by rfl) (fun w' hSw => exec_load (w.heap.size + 1) 0 x1 _ w' rfl rfl (hSw.2.1) Try.underlying23 rfl (by kernel_rfl))) (by assumption) ?_
  (try simp only [Act.put, List.setIfInBounds_toArray, List.set_cons_zero, List.set_cons_succ])
  refine wpAnyH_ready (rs := [2]) (by kernel_rfl) (by simp) ?_
  refine AllReadyH.cons (o := ⟨some 9, _, _, _, _, _⟩) rfl (fun K hK => ?_) AllReadyH.nil
  go_simp
  (go_at_call 16; (with_reducible refine (D01 _).mono ?_); rintro e w3 ⟨rfl, hb3⟩)
  go_wp2_with fail
  refine hK.out _ _ (⟨hHeld.1.below hb3, hHeld.2.1.below hb3, hHeld.2.2.below hb3⟩) (fun hHeld => ?_)
  clear hK K
  (try simp only [Act.put, List.setIfInBounds_toArray, List.set_cons_zero, List.set_cons_succ])
  refine wpAnyH_ready (rs := [5]) (by kernel_rfl) (by simp) ?_
  refine AllReadyH.cons (o := ⟨some 12, _, _, _, _, _⟩) rfl (fun K hK => ?_) AllReadyH.nil
  go_simp
  (go_at_call 17; (with_reducible refine (E01 _).mono ?_); rintro e w4 ⟨rfl, hb4⟩)
  go_wp2_with fail
  refine hK.out _ _ (⟨hHeld.1.below hb4, hHeld.2.1.below hb4, hHeld.2.2.below hb4⟩) (fun hHeld => ?_)
  clear hK K
  (try simp only [Act.put, List.setIfInBounds_toArray, List.set_cons_zero, List.set_cons_succ])
  refine wpAnyH_take (i := 6) (oi := ⟨some 13, _, _, _, _, _⟩) (v := ?_) rfl (by kernel_rfl) (by kernel_rfl) (by kernel_rfl) (fun _ _ _ h => h) (yieldsIf_exec (by rfl) ?_) (by assumption) ?_
  rotate_left
  · (intro w' hSw; clear hSw; go_simp; try (with_reducible rfl))
  (try simp only [Act.put, List.setIfInBounds_toArray, List.set_cons_zero, List.set_cons_succ])
  refine wpAnyH_take (i := 7) (oi := ⟨some 14, _, _, _, _, _⟩) (v := ?_) rfl (by kernel_rfl) (by kernel_rfl) (by kernel_rfl) (fun _ _ _ h => h) (yieldsIf_exec (by rfl) ?_) (by assumption) ?_
  rotate_left
  · (intro w' hSw; clear hSw; go_simp; try (with_reducible rfl))
  (try simp only [Act.put, List.setIfInBounds_toArray, List.set_cons_zero, List.set_cons_succ])
  refine wpAnyH_take (i := 8) (oi := ⟨some 15, _, _, _, _, _⟩) (v := .agg (bk x0)) rfl (by kernel_rfl) (by kernel_rfl) (by kernel_rfl) (fun _ _ _ h => h) (yieldsIf_exec (by rfl) (fun w' hSw => exec_load w.heap.size 0 x0 _ w' rfl rfl (hSw.1) Try.underlying23 rfl (by kernel_rfl))) (by assumption) ?_
  (try simp only [Act.put, List.setIfInBounds_toArray, List.set_cons_zero, List.set_cons_succ])
  refine wpAnyH_take (i := 9) (oi := ⟨some 16, _, _, _, _, _⟩) (v := .agg (bk x0)) rfl (by kernel_rfl) (by kernel_rfl) (by kernel_rfl) (fun _ _ _ h => h) (yieldsIf_exec (by rfl) (fun w' hSw => exec_load w.heap.size 0 x0 _ w' rfl rfl (hSw.1) Try.underlying23 rfl (by kernel_rfl))) (by assumption) ?_
  (try simp only [Act.put, List.setIfInBounds_toArray, List.set_cons_zero, List.set_cons_succ])
  refine wpAnyH_ready (rs := [10]) (by kernel_rfl) (by simp) ?_
  refine AllReadyH.cons (o := ⟨some 17, _, _, _, _, _⟩) rfl (fun K hK => ?_) AllReadyH.nil
  go_simp
  (go_at_call 16; (with_reducible refine (D00 _).mono ?_); rintro e w5 ⟨rfl, hb5⟩)
  go_wp2_with fail
  refine hK.out _ _ (⟨hHeld.1.below hb5, hHeld.2.1.below hb5, hHeld.2.2.below hb5⟩) (fun hHeld => ?_)
  clear hK K
  (try simp only [Act.put, List.setIfInBounds_toArray, List.set_cons_zero, List.set_cons_succ])
  refine wpAnyH_take (i := 11) (oi := ⟨some 18, _, _, _, _, _⟩) (v := ?_) rfl (by kernel_rfl) (by kernel_rfl) (by kernel_rfl) (fun _ _ _ h => h) (yieldsIf_exec (by rfl) ?_) (by assumption) ?_
  rotate_left
  · (intro w' hSw; clear hSw; go_simp; try (with_reducible rfl))
  (try simp only [Act.put, List.setIfInBounds_toArray, List.set_cons_zero, List.set_cons_succ])
  refine wpAnyH_take (i := 12) (oi := ⟨some 19, _, _, _, _, _⟩) (v := ?_) rfl (by kernel_rfl) (by kernel_rfl) (by kernel_rfl) (fun _ _ _ h => h) (yieldsIf_exec (by rfl) ?_) (by assumption) ?_
  rotate_left
  · (intro w' hSw; clear hSw; go_simp; try (with_reducible rfl))
  (try simp only [Act.put, List.setIfInBounds_toArray, List.set_cons_zero, List.set_cons_succ])
  refine wpAnyH_done (by kernel_rfl) ?_ _
  refine NoPanic.normal ?_
  have hB : Below w.heap.size w w5 := b_cl (b_cl (b_cl (b_dr hB0) (Nat.le_refl _) hb3) (Nat.le_refl _) hb4) (Nat.le_refl _) hb5
  obtain ⟨ra, rb, rc⟩ := hHeld
  clear hb3 hb4 hb5 r0 r1 r2 hB0
  go_wp2_with (first
    | refine wpList_load_bk (by rfl) 23 _ rfl w.heap.size 0 rfl x0 _ ra Try.underlying23 rfl (by kernel_rfl) ?_
    | refine wpList_load_bk (by rfl) 23 _ rfl (w.heap.size + 1) 0 rfl x1 _ rb Try.underlying23 rfl (by kernel_rfl) ?_
    | refine wpList_load_bk (by rfl) 23 _ rfl (w.heap.size + 1 + 1) 0 rfl x2 _ rc Try.underlying23 rfl (by kernel_rfl) ?_
    | (go_at_call 16; (with_reducible refine (D01 _).mono ?_); rintro e w6 ⟨rfl, hb6⟩; replace ra := ra.below hb6; replace rb := rb.below hb6; replace rc := rc.below hb6; replace hB := b_cl hB (Nat.le_refl _) hb6; clear hb6)
    | (go_at_call 16; (with_reducible refine (D12 _).mono ?_); rintro e w6 ⟨rfl, hb6⟩; replace ra := ra.below hb6; replace rb := rb.below hb6; replace rc := rc.below hb6; replace hB := b_cl hB (Nat.le_refl _) hb6; clear hb6)
    | (go_at_call 16; (with_reducible refine (D02 _).mono ?_); rintro e w6 ⟨rfl, hb6⟩; replace ra := ra.below hb6; replace rb := rb.below hb6; replace rc := rc.below hb6; replace hB := b_cl hB (Nat.le_refl _) hb6; clear hb6)
    | (go_at_call 16; (with_reducible refine (D10 _).mono ?_); rintro e w6 ⟨rfl, hb6⟩; replace ra := ra.below hb6; replace rb := rb.below hb6; replace rc := rc.below hb6; replace hB := b_cl hB (Nat.le_refl _) hb6; clear hb6)
    | refine wpList_neq_bk (by rfl) rfl x0 x1 true rfl rfl heq ?_
    | (go_at_call 13; (with_reducible refine (alive7_any _).mono ?_); rintro e w7 ⟨rfl, hb7⟩; replace hB := b_cl hB (Nat.le_refl _) hb7))
  go_ret
  exact ⟨rfl, hB⟩

set_option maxRecDepth 100000 in
theorem lifted (os : Os) (started : os.Started) (H : Type) (enc : TypeId × Value → H) :
    ReturnsInHanded {} Try.checked os 5 .any (Rows.bookTighterSpec.pre6 enc Try.prog Try.f5 Rows.bookTighterRow.domain false) (Rows.bookTighterSpec.post enc Try.prog Try.f5 false true false false) := by
  refine returnsInHanded_of_change (C := Try.checked) own started (by kernel_rfl) Try.func5
    (ChangeSpec.witness6 (enc := enc) (C := Try.checked) false ⟨#[], #[.agg #[.int .i64 0, .int .i64 0, .int .i64 0, .int .i64 0, .int .i64 0, .int .i64 0, .int .i64 0, .int .i64 0, .int .i64 0, .int .i64 0, .int .i64 0, .int .i64 0, .int .i64 0, .int .i64 0, .int .i64 0, .int .i64 0, .int .i64 0, .int .i64 0, .int .i64 0], .agg #[.int .i64 0, .int .i64 0, .int .i64 0, .int .i64 0, .int .i64 0, .int .i64 0, .int .i64 0, .int .i64 0, .int .i64 0, .int .i64 0, .int .i64 0, .int .i64 0, .int .i64 0, .int .i64 0, .int .i64 0, .int .i64 0, .int .i64 0, .int .i64 0, .int .i64 0], .agg #[.int .i64 0, .int .i64 0, .int .i64 0, .int .i64 0, .int .i64 0, .int .i64 0, .int .i64 0, .int .i64 0, .int .i64 0, .int .i64 0, .int .i64 0, .int .i64 0, .int .i64 0, .int .i64 0, .int .i64 0, .int .i64 0, .int .i64 0, .int .i64 0, .int .i64 0]], []⟩ 8 (by kernel_rfl) (by kernel_rfl) (by kernel_rfl) (by kernel_rfl)) ?_
  intro W base args ds gs before hval0 hW hcnd _
  have hval : ∀ (j : Nat) t v, Try.f5.params[j]? = some t → args[j]? = some v → Value.okWide Try.prog W .any base t v := hval0
  have hW' := hW
  obtain ⟨p, q, hA0, hV, rfl, hfz, hnd⟩ := hW
  have hA : DataW.TrodAll enc Try.prog W 0 (fun _ => true) true Try.f5.params.toList args.toList ds p := hA0
  rw [Try.params5] at hA hval
  obtain ⟨v0, vs0, d0, ds0, p0, q0, hargs, rfl, rfl, h0, r0⟩ := trodAll_cons hA
  obtain ⟨v1, vs1, d1, ds1, p1, q1, rfl, rfl, rfl, h1, r1⟩ := trodAll_cons r0
  obtain ⟨v2, vs2, d2, ds2, p2, q2, rfl, rfl, rfl, h2, r2⟩ := trodAll_cons r1
  obtain ⟨rfl, rfl, rfl⟩ := trodAll_nil r2
  obtain rfl : args = #[v0, v1, v2] := by cases args; simp_all
  obtain ⟨rfl, rfl⟩ := trodVars_none hV
  have k0 := h0
  have lt0 : ∀ x ∈ p0, x.block < W.heap.size := by obtain ⟨m, hm⟩ := k0; exact DataW.trod_lt m _ _ _ hm
  obtain ⟨x0, rfl⟩ := open_book (hval 0 23 v0 rfl rfl) h0
  have k1 := h1
  have lt1 : ∀ x ∈ p1, x.block < W.heap.size := by obtain ⟨m, hm⟩ := k1; exact DataW.trod_lt m _ _ _ hm
  obtain ⟨x1, rfl⟩ := open_book (hval 1 23 v1 rfl rfl) h1
  have k2 := h2
  have lt2 : ∀ x ∈ p2, x.block < W.heap.size := by obtain ⟨m, hm⟩ := k2; exact DataW.trod_lt m _ _ _ hm
  obtain ⟨x2, rfl⟩ := open_book (hval 2 23 v2 rfl rfl) h2
  clear hA0 hval0
  refine (walk W x0 x1 x2).mono fun e W' ⟨he, bel⟩ => ?_
  subst he
  exact ⟨_, rfl, _, _, _, [], _, [], hW', trodAll_mk1 (shut_bool Try.underlying4 _), (trodAll_cons_mk (Below.trod laidOut (by kernel_rfl) (of_decide_eq_true (by kernel_rfl)) k0 bel lt0) (trodAll_cons_mk (Below.trod laidOut (by kernel_rfl) (of_decide_eq_true (by kernel_rfl)) k1 bel lt1) (trodAll_cons_mk (Below.trod laidOut (by kernel_rfl) (of_decide_eq_true (by kernel_rfl)) k2 bel lt2) trodAll_mk0))), rfl, bel.frame _, fun h => by cases h⟩

theorem over : Rows.bookTighterRow.holds Try.pinned (OpenSpec.ofChange Rows.bookTighterSpec) :=
  OpenClaim.holds_of_wide 5 Try.f5 rfl rfl rfl rfl rfl rfl rfl ⟨rfl, rfl, rfl, rfl, rfl⟩ rfl rfl rfl rfl rfl (by kernel_rfl) Try.func5 (by kernel_rfl)
    (of_decide_eq_true (by kernel_rfl)) (by unfold Func.isWrapper; first | (rw [if_pos (by decide +kernel)]; kernel_rfl) | (rw [if_neg (by decide +kernel)]; exact ⟨rfl, rfl⟩))
    (fun os started H enc _ => lifted os started H enc)

theorem proved : Rows.BookTighterSaid := over
#print axioms proved
end Go.Proofs.Ytomodamdlnkcmaa.bookTighter
