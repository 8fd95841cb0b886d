/- The example of layer 17 holds in every world. Conditions: none. -/
import Derived.Test.YtojdaigilagppaaRows
import Derived.Test.YtojdaigilagppaaBase
import Derived.Test.YtojdaigilagppaaRow
import Derived.Test.YtojdaigilagppaaBookRow
import Derived.Test.YtojdaigilagppaaBookLim
import Derived.Test.YtojdaigilagppaaBookLaws
import Derived.Test.YtojdaigilagppaaBox
import Derived.Test.YtojdaigilagppaaSpellMath
import Derived.Test.YtojdaigilagppaaMeterMath
import Derived.Test.YtojdaigilagppaaMeterChk
import Derived.Test.YtojdaigilagppaaBookLeaf
import Derived.Test.YtojdaigilagppaaBookAlive
import Derived.Test.YtojdaigilagppaaBelowC
import Derived.Test.YtojdaigilagppaaBelowMath
import Derived.WalkKit
import Derived.WalkSpells
import Derived.WalkSmall
import Derived.Below
import Derived.Lib.Hide
import Derived.BigQuiet
import Derived.OwnWalk
import Derived.Outline
import Derived.Maps.RangeWalk
import Derived.Deep.DeepCutAuto
import Derived.OrdersHeld
import Derived.Deep.RegionHeld3
namespace Go.Proofs.Ytojdaigilagppaa
open Go.RowKit

def exX : Mt := ⟨300, 100, false, 0, 0, 200, 0, false, 0, 0, false, 200, 0, 200⟩
def exY : Mt := ⟨300, 200, false, 0, 0, 200, 0, false, 0, 0, false, 200, 0, 200⟩
theorem ex_yes : Un euV exX exY := by
  refine ⟨⟨⟨rfl, rfl, rfl⟩, ⟨by decide, by decide, by decide, by decide, by decide, by decide⟩, ⟨by decide, by decide, by decide, by decide⟩, ⟨by decide, by decide⟩⟩, may_eu, ?_, ?_⟩ <;> (unfold MayM; decide)
theorem ex_no : ¬ Un euV exY exX := fun h => absurd h.1.sp.1 (by decide)

set_option maxRecDepth 100000 in
set_option maxHeartbeats 4000000 in
theorem alive17_any (w : World) :
    Calls Try.prog 8 #[] w fun e w' => e = .returned (.bool true) ∧ Below w.heap.size w w' := by
  have U1 := fun W => under17_any euV exX exY W
  have U2 := fun W => under17_any euV exY exX W
  simp only [tf_yes ex_yes] at U1
  simp only [tf_no ex_no] at U2
  go_enter Try.func8, Try.ntmps8
  go_upto_region 4 with (first
    | refine wpList_build_as rfl 25 _ rfl (mt exX) (by kernel_rfl) ?_
    | (refine wpList_store_box rfl 25 _ _ rfl w.heap.size (mt exX) rfl rfl 25 (mt .zero) (Bx.new (W := w) 25 (mt .zero) rfl) (by kernel_rfl) rfl (mt_one _) (fun wa ua => ?_); have xa := ua.box; have Ba : Below w.heap.size w wa := (b_al (Below.refl _ _) (Nat.le_refl _) _).trans (ua.bel _ (Nat.le_refl _)))
    | refine wpList_load_box (by rfl) 25 _ rfl (w.heap.size) rfl 25 (mt exX) _ xa Try.underlying25 rfl (by kernel_rfl) ?_
    | (refine wpList_store_box rfl 25 _ _ rfl wa.heap.size (mt exX) rfl rfl 25 (mt .zero) (Bx.new (W := wa) 25 (mt .zero) rfl) (by kernel_rfl) rfl (mt_one _) (fun wb ub => ?_); have xb := ub.bx (xa.alloc _) (Nat.ne_of_lt xa.lt); have yb := ub.box; have Bb : Below w.heap.size w wb := (b_al Ba (Nat.le_refl _) _).trans (ub.bel _ Ba.size))
    | (refine wpList_store_fld rfl 3 _ _ rfl wa.heap.size 1 (.int .i64 200) rfl rfl rfl 25 (mt exX) yb (by decide) (by kernel_rfl) (fun wc uc => ?_); have xc := uc.bx xb (Nat.ne_of_lt xa.lt); have yc : Bx wc wa.heap.size 25 (mt exY) := uc.box; have Bc : Below w.heap.size w wc := Bb.trans (uc.bel _ Ba.size)))
  (try go_frame)
  refine wp_region_noPanic ?_
  refine wp_region_held_drew (S := fun w' => Below wc.heap.size wc w') (by kernel_rfl) ?_ (fun hHeld => ?_)
  · exact b_dr (Below.refl _ _)
  refine wpAnyH_take (i := 1) (oi := ⟨some 7, _, _, _, _, _⟩) (v := .agg (mt exX)) rfl (by kernel_rfl) (by kernel_rfl) (by kernel_rfl) (fun _ _ _ h => h) (Or.inl ⟨by rfl, fun w' hSw => exec_load_box (w.heap.size) 25 (mt exX) _ w' rfl rfl (xc.keep hSw xc.lt) Try.underlying25 rfl (by kernel_rfl)⟩) (by assumption) ?_
  (try simp only [Act.put, List.setIfInBounds_toArray, List.set_cons_zero, List.set_cons_succ])
  refine wpAnyH_take (i := 2) (oi := ⟨some 8, _, _, _, _, _⟩) (v := .agg (mt exY)) rfl (by kernel_rfl) (by kernel_rfl) (by kernel_rfl) (fun _ _ _ h => h) (Or.inl ⟨by rfl, fun w' hSw => exec_load_box (wa.heap.size) 25 (mt exY) _ w' rfl rfl (yc.keep hSw yc.lt) Try.underlying25 rfl (by kernel_rfl)⟩) (by assumption) ?_
  (try simp only [Act.put, List.setIfInBounds_toArray, List.set_cons_zero, List.set_cons_succ])
  refine wpAnyH_ready (rs := [0]) (by kernel_rfl) (by simp) ?_
  refine AllReadyH.cons (o := ⟨some 6, _, _, _, _, _⟩) rfl (fun K hK => ?_) AllReadyH.nil
  go_simp
  (go_at_call 17; (with_reducible refine (refeurope_any _).mono ?_); rintro e w1 ⟨rfl, hb1⟩)
  go_wp2_with fail
  refine hK.out _ _ (b_cl hHeld (Nat.le_refl _) (by assumption)) (fun hHeld => ?_)
  clear hK K
  (try simp only [Act.put, List.setIfInBounds_toArray, List.set_cons_zero, List.set_cons_succ])
  refine wpAnyH_ready (rs := [3]) (by kernel_rfl) (by simp) ?_
  refine AllReadyH.cons (o := ⟨some 9, _, _, _, _, _⟩) rfl (fun K hK => ?_) AllReadyH.nil
  go_simp
  (go_at_call 6; (with_reducible refine (U1 _).mono ?_); rintro e w2 ⟨rfl, hb2⟩)
  go_wp2_with fail
  refine hK.out _ _ (b_cl hHeld (Nat.le_refl _) (by assumption)) (fun hHeld => ?_)
  clear hK K
  (try simp only [Act.put, List.setIfInBounds_toArray, List.set_cons_zero, List.set_cons_succ])
  refine wpAnyH_take (i := 4) (oi := ⟨some 10, _, _, _, _, _⟩) (v := ?_) rfl (by kernel_rfl) (by kernel_rfl) (by kernel_rfl) (fun _ _ _ h => h) (Or.inl ⟨by rfl, ?_⟩) (by assumption) ?_
  rotate_left
  · (intro w' hSw; clear hSw; go_simp; try (with_reducible rfl))
  (try simp only [Act.put, List.setIfInBounds_toArray, List.set_cons_zero, List.set_cons_succ])
  refine wpAnyH_take (i := 6) (oi := ⟨some 12, _, _, _, _, _⟩) (v := .agg (mt exY)) rfl (by kernel_rfl) (by kernel_rfl) (by kernel_rfl) (fun _ _ _ h => h) (Or.inl ⟨by rfl, fun w' hSw => exec_load_box (wa.heap.size) 25 (mt exY) _ w' rfl rfl (yc.keep hSw yc.lt) Try.underlying25 rfl (by kernel_rfl)⟩) (by assumption) ?_
  (try simp only [Act.put, List.setIfInBounds_toArray, List.set_cons_zero, List.set_cons_succ])
  refine wpAnyH_take (i := 7) (oi := ⟨some 13, _, _, _, _, _⟩) (v := .agg (mt exX)) rfl (by kernel_rfl) (by kernel_rfl) (by kernel_rfl) (fun _ _ _ h => h) (Or.inl ⟨by rfl, fun w' hSw => exec_load_box (w.heap.size) 25 (mt exX) _ w' rfl rfl (xc.keep hSw xc.lt) Try.underlying25 rfl (by kernel_rfl)⟩) (by assumption) ?_
  (try simp only [Act.put, List.setIfInBounds_toArray, List.set_cons_zero, List.set_cons_succ])
  refine wpAnyH_ready (rs := [5]) (by kernel_rfl) (by simp) ?_
  refine AllReadyH.cons (o := ⟨some 11, _, _, _, _, _⟩) rfl (fun K hK => ?_) AllReadyH.nil
  go_simp
  (go_at_call 17; (with_reducible refine (refeurope_any _).mono ?_); rintro e w3 ⟨rfl, hb3⟩)
  go_wp2_with fail
  refine hK.out _ _ (b_cl hHeld (Nat.le_refl _) (by assumption)) (fun hHeld => ?_)
  clear hK K
  (try simp only [Act.put, List.setIfInBounds_toArray, List.set_cons_zero, List.set_cons_succ])
  refine wpAnyH_ready (rs := [8]) (by kernel_rfl) (by simp) ?_
  refine AllReadyH.cons (o := ⟨some 14, _, _, _, _, _⟩) rfl (fun K hK => ?_) AllReadyH.nil
  go_simp
  (go_at_call 6; (with_reducible refine (U2 _).mono ?_); rintro e w4 ⟨rfl, hb4⟩)
  go_wp2_with fail
  refine hK.out _ _ (b_cl hHeld (Nat.le_refl _) (by assumption)) (fun hHeld => ?_)
  clear hK K
  (try simp only [Act.put, List.setIfInBounds_toArray, List.set_cons_zero, List.set_cons_succ])
  refine wpAnyH_take (i := 9) (oi := ⟨some 15, _, _, _, _, _⟩) (v := ?_) rfl (by kernel_rfl) (by kernel_rfl) (by kernel_rfl) (fun _ _ _ h => h) (Or.inl ⟨by rfl, ?_⟩) (by assumption) ?_
  rotate_left
  · (intro w' hSw; clear hSw; go_simp; try (with_reducible rfl))
  (try simp only [Act.put, List.setIfInBounds_toArray, List.set_cons_zero, List.set_cons_succ])
  refine wpAnyH_take (i := 10) (oi := ⟨some 16, _, _, _, _, _⟩) (v := ?_) rfl (by kernel_rfl) (by kernel_rfl) (by kernel_rfl) (fun _ _ _ h => h) (Or.inl ⟨by rfl, ?_⟩) (by assumption) ?_
  rotate_left
  · (intro w' hSw; clear hSw; go_simp; try (with_reducible rfl))
  (try simp only [Act.put, List.setIfInBounds_toArray, List.set_cons_zero, List.set_cons_succ])
  refine wpAnyH_take (i := 11) (oi := ⟨some 0, _, _, _, _, _⟩) (v := ?_) rfl (by kernel_rfl) (by kernel_rfl) (by kernel_rfl) (fun _ _ _ h => h) (Or.inl ⟨by rfl, ?_⟩) (by assumption) ?_
  rotate_left
  · (intro w' hSw; clear hSw; go_simp; try (with_reducible rfl))
  (try simp only [Act.put, List.setIfInBounds_toArray, List.set_cons_zero])
  refine wpAnyH_done (by kernel_rfl) ?_ _
  refine NoPanic.normal ?_
  go_wp2
  go_ret
  exact ⟨rfl, b_cl Bc (Nat.le_refl _) hHeld⟩

end Go.Proofs.Ytojdaigilagppaa
