/- The example of layer 24 holds in every world. Conditions: none. -/
import Derived.Test.YtglgifhpacmhiaaRows
import Derived.Test.YtglgifhpacmhiaaBase
import Derived.Test.YtglgifhpacmhiaaRow
import Derived.Test.YtglgifhpacmhiaaBookRow
import Derived.Test.YtglgifhpacmhiaaBookLim
import Derived.Test.YtglgifhpacmhiaaBookLaws
import Derived.Test.YtglgifhpacmhiaaRecMath
import Derived.Test.YtglgifhpacmhiaaBox
import Derived.Test.YtglgifhpacmhiaaBoxRes
import Derived.Test.YtglgifhpacmhiaaChg
import Derived.Test.YtglgifhpacmhiaaSpellMath
import Derived.Test.YtglgifhpacmhiaaMeterMath
import Derived.Test.YtglgifhpacmhiaaMeterChk
import Derived.Test.YtglgifhpacmhiaaBelowMath
import Derived.Test.YtglgifhpacmhiaaWide
import Derived.Test.YtglgifhpacmhiaaFrontMath
import Derived.Test.YtglgifhpacmhiaaFrontEq
import Derived.Test.YtglgifhpacmhiaaFrontMap
import Derived.Test.YtglgifhpacmhiaaFrontHeap
import Derived.Test.YtglgifhpacmhiaaBookLeaf
import Derived.Test.YtglgifhpacmhiaaBookAlive
import Derived.Test.YtglgifhpacmhiaaBelowC
import Derived.Test.YtglgifhpacmhiaaFrontLib
import Derived.Test.YtglgifhpacmhiaaFrontSet
import Derived.Test.YtglgifhpacmhiaaFrontFn
import Derived.Test.YtglgifhpacmhiaaFrontPut
import Derived.Test.YtglgifhpacmhiaaFrontRef
import Derived.WalkKit
import Derived.WalkSpells
import Derived.WalkSmall
import Derived.Below
import Derived.Lib.Hide
import Derived.BigQuiet
import Derived.OwnWalk
import Derived.Outline
import Derived.Maps.RangeWalk
import Derived.Deep.DeepCutAuto
import Derived.OrdersHeld
import Derived.Deep.RegionHeld3
namespace Go.Proofs.Ytglgifhpacmhiaa
open Go.RowKit

def exX24 : Mt := ⟨9, 2, false, 0, 0, 5, 0, false, 0, 0, false, 5, 0, 5⟩
def exY24 : Mt := ⟨9, 5, false, 0, 0, 5, 0, false, 0, 0, false, 5, 0, 5⟩
theorem ex24_yes : Un euV exX24 exY24 := by
  refine ⟨⟨⟨rfl, rfl, rfl⟩, ⟨by decide, by decide, by decide, by decide, by decide, by decide⟩, ⟨by decide, by decide, by decide, by decide⟩, ⟨by decide, by decide⟩⟩, may_eu, ?_, ?_⟩ <;> (unfold MayM; decide)
theorem ex24_no : ¬ Un euV exY24 exX24 := fun h => absurd h.1.sp.1 (by decide)
theorem ex24_ne : exY24 ≠ exX24 := fun h => absurd (congrArg Mt.acc h) (by decide)

theorem hit24_1 : hitF euV (allF [] rz) exY24 = false := rfl
theorem hit24_2 : hitF euV (allF [(rz, exY24)] rz) exX24 = false := by
  rw [allF_one, if_pos rfl]
  unfold hitF
  rw [List.any_cons, List.any_nil, tf_no (fun h => h.elim ex24_ne ex24_no)]
  rfl
theorem hit24_3 : hitF euV (allF [(rz, exX24)] rz) exY24 = true := by
  rw [allF_one, if_pos rfl]
  unfold hitF
  rw [List.any_cons, List.any_nil, tf_yes (.inr ex24_yes)]
  rfl
theorem put24_1 : putF euV [] rz exY24 = [(rz, exY24)] := by rw [putF_no hit24_1]; rfl
theorem put24_2 : putF euV [(rz, exY24)] rz exX24 = [(rz, exX24)] := by
  rw [putF_no hit24_2]
  unfold leftF
  rw [List.filter_cons_of_neg (by rw [tf_yes ex24_yes]; simp)]
  rfl

theorem ex24_first {w : World} {g : Nat} {B : List Nat} (h : Fr w g euV [] B) : Calls Try.prog 9 #[.pointer (some ⟨g, 0, none⟩), .agg (sp rz), .agg (mt exY24)] w fun e w' => e = .returned (.bool true) ∧ ∃ B', Fr w' g euV [(rz, exY24)] B' ∧ Ms w B w' B' := by
  have := put24_any h (by simp) rz exY24
  rw [hit24_1, put24_1] at this
  exact this
theorem ex24_second {w : World} {g : Nat} {B : List Nat} (h : Fr w g euV [(rz, exY24)] B) : Calls Try.prog 9 #[.pointer (some ⟨g, 0, none⟩), .agg (sp rz), .agg (mt exX24)] w fun e w' => e = .returned (.bool true) ∧ ∃ B', Fr w' g euV [(rz, exX24)] B' ∧ Ms w B w' B' := by
  have := put24_any h (by simp) rz exX24
  rw [hit24_2, put24_2] at this
  exact this
theorem ex24_third {w : World} {g : Nat} {B : List Nat} (h : Fr w g euV [(rz, exX24)] B) : Calls Try.prog 9 #[.pointer (some ⟨g, 0, none⟩), .agg (sp rz), .agg (mt exY24)] w fun e w' => e = .returned (.bool false) ∧ Below w.heap.size w w' :=
  put24_hit h (by simp) rz exY24 hit24_3

set_option maxRecDepth 100000 in
set_option maxHeartbeats 4000000 in
theorem alive24_any (w : World) : Calls Try.prog 5 #[] w fun e w' => e = .returned (.bool true) ∧ Below w.heap.size w w' := by
  go_enter Try.func5, Try.ntmps5
  go_upto_region 7 with (first
    | go_skip
    | (go_at_call 17; (with_reducible refine (refeurope_any _).mono ?_); rintro e w1 ⟨rfl, hb1⟩; have B1 := b_cl (Below.refl _ _) (Nat.le_refl _) hb1)
    | (go_at_call 6; refine (new24_ok euV may_eu _).mono ?_; rintro e w2 ⟨g, rfl, F2, hg2, hb2⟩; have B2 := b_cl B1 (Nat.le_refl _) hb2; have hg : g < w2.heap.size := F2.lt.1)
    | refine wpList_build_as rfl 36 _ rfl (mt exX24) (by kernel_rfl) ?_
    | (refine wpList_store_box rfl 36 _ _ rfl w2.heap.size (mt exX24) rfl rfl 36 (mt .zero) (Bx.new (W := w2) 36 (mt .zero) rfl) (by kernel_rfl) rfl (mt_one _) (fun wa ua => ?_); have xa := ua.box; have Ba : Below w.heap.size w wa := (b_al B2 (Nat.le_refl _) _).trans (ua.bel _ B2.size); have Fa := (F2.alloc (.cells (mt .zero) 36)).kept (w' := wa) (fun q hq => ua.other q (by rw [List.mem_singleton] at hq; subst hq; omega)))
    | refine wpList_load_box (by rfl) 36 _ rfl (w2.heap.size) rfl 36 (mt exX24) _ xa Try.underlying36 rfl (by kernel_rfl) ?_
    | (refine wpList_store_box rfl 36 _ _ rfl wa.heap.size (mt exX24) rfl rfl 36 (mt .zero) (Bx.new (W := wa) 36 (mt .zero) rfl) (by kernel_rfl) rfl (mt_one _) (fun wb ub => ?_); have xb := ub.bx (xa.alloc _) (Nat.ne_of_lt xa.lt); have yb := ub.box; have Bb : Below w.heap.size w wb := (b_al Ba (Nat.le_refl _) _).trans (ub.bel _ Ba.size); have hga : g < wa.heap.size := Fa.lt.1; have Fb := (Fa.alloc (.cells (mt .zero) 36)).kept (w' := wb) (fun q hq => ub.other q (by rw [List.mem_singleton] at hq; subst hq; omega)))
    | (refine wpList_store_fld rfl 3 _ _ rfl wa.heap.size 1 (.int .i64 5) rfl rfl rfl 36 (mt exX24) yb (by decide) (by kernel_rfl) (fun wc uc => ?_); have xc := uc.bx xb (Nat.ne_of_lt xa.lt); have yc : Bx wc wa.heap.size 36 (mt exY24) := uc.box; have Bc : Below w.heap.size w wc := Bb.trans (uc.bel _ Ba.size); have Fc := Fb.kept (w' := wc) (fun q hq => uc.other q (by rw [List.mem_singleton] at hq; subst hq; omega))))
  (try go_frame)
  have ax0 : w2.heap.size ∉ [g] := by rw [List.mem_singleton]; omega
  have ay0 : wa.heap.size ∉ [g] := by rw [List.mem_singleton]; omega
  have bb0 : ∀ q ∈ [g], w.heap.size ≤ q := fun q hq => by rw [List.mem_singleton] at hq; have := B1.size; omega
  refine wp_region_noPanic ?_
  refine wp_region_held_drew (S := fun w' => Bx w' w2.heap.size 36 (mt exX24) ∧ Bx w' wa.heap.size 36 (mt exY24) ∧ Below w.heap.size w w') (by kernel_rfl) ?_ (fun hHeld => ?_)
  · exact ⟨xc.drew, yc.drew, b_dr Bc⟩
  refine wpAnyH_take (i := 0) (oi := ⟨some 19, _, _, _, _, _⟩) (v := ?_) rfl (by kernel_rfl) (by kernel_rfl) (by kernel_rfl) (fun _ _ _ h => h) (Or.inl ⟨by rfl, ?_⟩) (by assumption) ?_
  rotate_left
  · (intro w' hSw; clear hSw; go_simp; try (with_reducible rfl))
  (try simp only [Act.put, List.setIfInBounds_toArray, List.set_cons_zero, List.set_cons_succ])
  refine wpAnyH_take (i := 1) (oi := ⟨some 20, _, _, _, _, _⟩) (v := .agg (sp rz)) rfl (by kernel_rfl) (by kernel_rfl) (by kernel_rfl) (fun _ _ _ h => h) (Or.inl ⟨by rfl, fun w' hSw => exec_build (sp rz) w' rfl (by kernel_rfl)⟩) (by assumption) ?_
  (try simp only [Act.put, List.setIfInBounds_toArray, List.set_cons_zero, List.set_cons_succ])
  refine wpAnyH_take (i := 2) (oi := ⟨some 21, _, _, _, _, _⟩) (v := .agg (mt exY24)) rfl (by kernel_rfl) (by kernel_rfl) (by kernel_rfl) (fun _ _ _ h => h) (Or.inl ⟨by rfl, fun w' hSw => exec_load_box wa.heap.size 36 (mt exY24) _ w' rfl rfl hSw.2.1 Try.underlying36 rfl (by kernel_rfl)⟩) (by assumption) ?_
  (try simp only [Act.put, List.setIfInBounds_toArray, List.set_cons_zero, List.set_cons_succ])
  refine wpAnyH_ready (rs := [3]) (by kernel_rfl) (by simp) ?_
  refine AllReadyH.cons (o := ⟨some 22, _, _, _, _, _⟩) rfl (fun K hK => ?_) AllReadyH.nil
  go_simp
  (go_at_call 9; refine (ex24_first (Fc.below (b_dr (Below.refl _ _)))).mono ?_; rintro e wp1 ⟨rfl, B1, F1, M1⟩)
  have ax1 := M1.apart ax0 hHeld.1.lt
  have ay1 := M1.apart ay0 hHeld.2.1.lt
  have bb1 : ∀ q ∈ B1, w.heap.size ≤ q := fun q hq => (M1.new q hq).elim (bb0 q) (fun h => Nat.le_trans hHeld.2.2.size h)
  go_wp2_with fail
  refine hK.out _ _ ⟨M1.bx hHeld.1 ax0, M1.bx hHeld.2.1 ay0, hHeld.2.2.trans (M1.bel _ bb0 hHeld.2.2.size)⟩ (fun hHeld => ?_)
  clear hK K
  (try simp only [Act.put, List.setIfInBounds_toArray, List.set_cons_zero, List.set_cons_succ])
  refine wpAnyH_take (i := 4) (oi := ⟨some 23, _, _, _, _, _⟩) (v := ?_) rfl (by kernel_rfl) (by kernel_rfl) (by kernel_rfl) (fun _ _ _ h => h) (Or.inl ⟨by rfl, ?_⟩) (by assumption) ?_
  rotate_left
  · (intro w' hSw; clear hSw; go_simp; try (with_reducible rfl))
  (try simp only [Act.put, List.setIfInBounds_toArray, List.set_cons_zero, List.set_cons_succ])
  refine wpAnyH_take (i := 5) (oi := ⟨some 24, _, _, _, _, _⟩) (v := ?_) rfl (by kernel_rfl) (by kernel_rfl) (by kernel_rfl) (fun _ _ _ h => h) (Or.inl ⟨by rfl, ?_⟩) (by assumption) ?_
  rotate_left
  · (intro w' hSw; clear hSw; go_simp; try (with_reducible rfl))
  (try simp only [Act.put, List.setIfInBounds_toArray, List.set_cons_zero, List.set_cons_succ])
  refine wpAnyH_take (i := 6) (oi := ⟨some 25, _, _, _, _, _⟩) (v := .agg (sp rz)) rfl (by kernel_rfl) (by kernel_rfl) (by kernel_rfl) (fun _ _ _ h => h) (Or.inl ⟨by rfl, fun w' hSw => exec_build (sp rz) w' rfl (by kernel_rfl)⟩) (by assumption) ?_
  (try simp only [Act.put, List.setIfInBounds_toArray, List.set_cons_zero, List.set_cons_succ])
  refine wpAnyH_take (i := 7) (oi := ⟨some 26, _, _, _, _, _⟩) (v := .agg (mt exX24)) rfl (by kernel_rfl) (by kernel_rfl) (by kernel_rfl) (fun _ _ _ h => h) (Or.inl ⟨by rfl, fun w' hSw => exec_load_box w2.heap.size 36 (mt exX24) _ w' rfl rfl hSw.1 Try.underlying36 rfl (by kernel_rfl)⟩) (by assumption) ?_
  (try simp only [Act.put, List.setIfInBounds_toArray, List.set_cons_zero, List.set_cons_succ])
  refine wpAnyH_ready (rs := [8]) (by kernel_rfl) (by simp) ?_
  refine AllReadyH.cons (o := ⟨some 27, _, _, _, _, _⟩) rfl (fun K hK => ?_) AllReadyH.nil
  go_simp
  (go_at_call 9; refine (ex24_second F1).mono ?_; rintro e wp2 ⟨rfl, B2, F2, M2⟩)
  have ax2 := M2.apart ax1 hHeld.1.lt
  have ay2 := M2.apart ay1 hHeld.2.1.lt
  have bb2 : ∀ q ∈ B2, w.heap.size ≤ q := fun q hq => (M2.new q hq).elim (bb1 q) (fun h => Nat.le_trans hHeld.2.2.size h)
  go_wp2_with fail
  refine hK.out _ _ ⟨M2.bx hHeld.1 ax1, M2.bx hHeld.2.1 ay1, hHeld.2.2.trans (M2.bel _ bb1 hHeld.2.2.size)⟩ (fun hHeld => ?_)
  clear hK K
  (try simp only [Act.put, List.setIfInBounds_toArray, List.set_cons_zero, List.set_cons_succ])
  refine wpAnyH_take (i := 9) (oi := ⟨some 28, _, _, _, _, _⟩) (v := ?_) rfl (by kernel_rfl) (by kernel_rfl) (by kernel_rfl) (fun _ _ _ h => h) (Or.inl ⟨by rfl, ?_⟩) (by assumption) ?_
  rotate_left
  · (intro w' hSw; clear hSw; go_simp; try (with_reducible rfl))
  (try simp only [Act.put, List.setIfInBounds_toArray, List.set_cons_zero, List.set_cons_succ])
  refine wpAnyH_take (i := 10) (oi := ⟨some 29, _, _, _, _, _⟩) (v := ?_) rfl (by kernel_rfl) (by kernel_rfl) (by kernel_rfl) (fun _ _ _ h => h) (Or.inl ⟨by rfl, ?_⟩) (by assumption) ?_
  rotate_left
  · (intro w' hSw; clear hSw; go_simp; try (with_reducible rfl))
  (try simp only [Act.put, List.setIfInBounds_toArray, List.set_cons_zero, List.set_cons_succ])
  refine wpAnyH_take (i := 11) (oi := ⟨some 30, _, _, _, _, _⟩) (v := ?_) rfl (by kernel_rfl) (by kernel_rfl) (by kernel_rfl) (fun _ _ _ h => h) (Or.inl ⟨by rfl, ?_⟩) (by assumption) ?_
  rotate_left
  · (intro w' hSw; clear hSw; go_simp; try (with_reducible rfl))
  (try simp only [Act.put, List.setIfInBounds_toArray, List.set_cons_zero, List.set_cons_succ])
  refine wpAnyH_take (i := 12) (oi := ⟨some 31, _, _, _, _, _⟩) (v := .agg (sp rz)) rfl (by kernel_rfl) (by kernel_rfl) (by kernel_rfl) (fun _ _ _ h => h) (Or.inl ⟨by rfl, fun w' hSw => exec_build (sp rz) w' rfl (by kernel_rfl)⟩) (by assumption) ?_
  (try simp only [Act.put, List.setIfInBounds_toArray, List.set_cons_zero, List.set_cons_succ])
  refine wpAnyH_take (i := 13) (oi := ⟨some 32, _, _, _, _, _⟩) (v := .agg (mt exY24)) rfl (by kernel_rfl) (by kernel_rfl) (by kernel_rfl) (fun _ _ _ h => h) (Or.inl ⟨by rfl, fun w' hSw => exec_load_box wa.heap.size 36 (mt exY24) _ w' rfl rfl hSw.2.1 Try.underlying36 rfl (by kernel_rfl)⟩) (by assumption) ?_
  (try simp only [Act.put, List.setIfInBounds_toArray, List.set_cons_zero, List.set_cons_succ])
  refine wpAnyH_ready (rs := [14]) (by kernel_rfl) (by simp) ?_
  refine AllReadyH.cons (o := ⟨some 33, _, _, _, _, _⟩) rfl (fun K hK => ?_) AllReadyH.nil
  go_simp
  (go_at_call 9; refine (ex24_third F2).mono ?_; rintro e w3 ⟨rfl, hb3⟩)
  have F3 := F2.below hb3
  go_wp2_with fail
  refine hK.out _ _ ⟨hHeld.1.below hb3, hHeld.2.1.below hb3, b_cl hHeld.2.2 (Nat.le_refl _) hb3⟩ (fun hHeld => ?_)
  clear hK K
  (try simp only [Act.put, List.setIfInBounds_toArray, List.set_cons_zero, List.set_cons_succ])
  refine wpAnyH_take (i := 15) (oi := ⟨some 34, _, _, _, _, _⟩) (v := ?_) rfl (by kernel_rfl) (by kernel_rfl) (by kernel_rfl) (fun _ _ _ h => h) (Or.inl ⟨by rfl, ?_⟩) (by assumption) ?_
  rotate_left
  · (intro w' hSw; clear hSw; go_simp; try (with_reducible rfl))
  (try simp only [Act.put, List.setIfInBounds_toArray, List.set_cons_zero, List.set_cons_succ])
  refine wpAnyH_take (i := 16) (oi := ⟨some 35, _, _, _, _, _⟩) (v := ?_) rfl (by kernel_rfl) (by kernel_rfl) (by kernel_rfl) (fun _ _ _ h => h) (Or.inl ⟨by rfl, ?_⟩) (by assumption) ?_
  rotate_left
  · (intro w' hSw; clear hSw; go_simp; try (with_reducible rfl))
  (try simp only [Act.put, List.setIfInBounds_toArray, List.set_cons_zero, List.set_cons_succ])
  refine wpAnyH_take (i := 17) (oi := ⟨some 36, _, _, _, _, _⟩) (v := ?_) rfl (by kernel_rfl) (by kernel_rfl) (by kernel_rfl) (fun _ _ _ h => h) (Or.inl ⟨by rfl, ?_⟩) (by assumption) ?_
  rotate_left
  · (intro w' hSw; clear hSw; go_simp; try (with_reducible rfl))
  (try simp only [Act.put, List.setIfInBounds_toArray, List.set_cons_zero, List.set_cons_succ])
  refine wpAnyH_take (i := 18) (oi := ⟨some 37, _, _, _, _, _⟩) (v := ?_) rfl (by kernel_rfl) (by kernel_rfl) (by kernel_rfl) (fun _ _ _ h => h) (Or.inl ⟨by rfl, ?_⟩) (by assumption) ?_
  rotate_left
  · (intro w' hSw; clear hSw; go_simp; try (with_reducible rfl))
  (try simp only [Act.put, List.setIfInBounds_toArray, List.set_cons_zero, List.set_cons_succ])
  refine wpAnyH_take (i := 19) (oi := ⟨some 38, _, _, _, _, _⟩) (v := .agg (sp rz)) rfl (by kernel_rfl) (by kernel_rfl) (by kernel_rfl) (fun _ _ _ h => h) (Or.inl ⟨by rfl, fun w' hSw => exec_build (sp rz) w' rfl (by kernel_rfl)⟩) (by assumption) ?_
  (try simp only [Act.put, List.setIfInBounds_toArray, List.set_cons_zero, List.set_cons_succ])
  refine wpAnyH_take (i := 21) (oi := ⟨some 40, _, _, _, _, _⟩) (v := .agg (mt exX24)) rfl (by kernel_rfl) (by kernel_rfl) (by kernel_rfl) (fun _ _ _ h => h) (Or.inl ⟨by rfl, fun w' hSw => exec_load_box w2.heap.size 36 (mt exX24) _ w' rfl rfl hSw.1 Try.underlying36 rfl (by kernel_rfl)⟩) (by assumption) ?_
  (try simp only [Act.put, List.setIfInBounds_toArray, List.set_cons_zero, List.set_cons_succ])
  refine wpAnyH_ready (rs := [20, 22]) (by kernel_rfl) (by simp) ?_
  refine AllReadyH.cons (o := ⟨some 39, _, _, _, _, _⟩) rfl (fun K hK => ?_) (AllReadyH.cons (o := ⟨some 41, _, _, _, _, _⟩) rfl (fun K hK => ?_) AllReadyH.nil)
  ·
    go_simp
    (go_at_call 10; refine (all24_any (F3) (by simp) rz).mono ?_; rintro e w4 ⟨v4, rfl, o4, hb4⟩)
    rw [allF_one, if_pos rfl] at o4
    obtain ⟨A4, c4, rfl, r4, _⟩ := o4.read
    go_wp2_with fail
    refine hK.out _ _ ⟨hHeld.1.below hb4, hHeld.2.1.below hb4, b_cl hHeld.2.2 (Nat.le_refl _) hb4⟩ (fun hHeld => ?_)
    clear hK K
    (try simp only [Act.put, List.setIfInBounds_toArray, List.set_cons_zero, List.set_cons_succ])
    refine wpAnyH_ready (rs := [22]) (by kernel_rfl) (by simp) ?_
    refine AllReadyH.cons (o := ⟨some 41, _, _, _, _, _⟩) rfl (fun K hK => ?_) AllReadyH.nil
    refine wp_one (k := mtW) 37 Try.underlying37 info_mtr (by decide) exX24 (fill_mt exX24) _ rfl rfl ?_
    have XN : Bx (w4.alloc (.cells (mtW.enc exX24).toArray mtW.T)) w4.heap.size mtW.T (mtW.enc exX24).toArray := Bx.new _ _ rfl
    refine hK.out _ _ ⟨hHeld.1.alloc _, hHeld.2.1.alloc _, b_al hHeld.2.2 (Nat.le_refl _) _⟩ (fun hHeld => ?_)
    clear hK K
    (try simp only [Act.put, List.setIfInBounds_toArray, List.set_cons_zero, List.set_cons_succ])
    refine wpAnyH_ready (rs := [23]) (by kernel_rfl) (by simp) ?_
    refine AllReadyH.cons (o := ⟨some 42, _, _, _, _, _⟩) rfl (fun K hK => ?_) AllReadyH.nil
    go_simp
    (go_at_call 13; refine (same24_any A4 (some ⟨w4.heap.size, 0, none⟩) c4 1 1 [exX24] _ rfl (r4.below (b_al (Below.refl _ _) (Nat.le_refl _) _)) (RdG.one XN) (by omega)).mono ?_; rintro e w6 ⟨rfl, hb6⟩)
    go_wp2_with fail
    refine hK.out _ _ ⟨hHeld.1.below hb6, hHeld.2.1.below hb6, b_cl hHeld.2.2 (Nat.le_refl _) hb6⟩ (fun hHeld => ?_)
    clear hK K
    (try simp only [Act.put, List.setIfInBounds_toArray, List.set_cons_zero, List.set_cons_succ])
    refine wpAnyH_take (i := 24) (oi := ⟨some 43, _, _, _, _, _⟩) (v := ?_) rfl (by kernel_rfl) (by kernel_rfl) (by kernel_rfl) (fun _ _ _ h => h) (Or.inl ⟨by rfl, ?_⟩) (by assumption) ?_
    rotate_left
    · (intro w' hSw; clear hSw; go_simp; try (with_reducible rfl))
    (try simp only [Act.put, List.setIfInBounds_toArray, List.set_cons_zero, List.set_cons_succ])
    refine wpAnyH_take (i := 25) (oi := ⟨some 0, _, _, _, _, _⟩) (v := ?_) rfl (by kernel_rfl) (by kernel_rfl) (by kernel_rfl) (fun _ _ _ h => h) (Or.inl ⟨by rfl, ?_⟩) (by assumption) ?_
    rotate_left
    · (intro w' hSw; clear hSw; go_simp; try (with_reducible rfl))
    (try simp only [Act.put, List.setIfInBounds_toArray, List.set_cons_zero])
    refine wpAnyH_done (by kernel_rfl) ?_ _
    refine NoPanic.normal ?_
    go_wp2
    go_ret
    exact ⟨rfl, hHeld.2.2⟩
  ·
    refine wp_one (k := mtW) 37 Try.underlying37 info_mtr (by decide) exX24 (fill_mt exX24) _ rfl rfl ?_
    have XN : Bx (w3.alloc (.cells (mtW.enc exX24).toArray mtW.T)) w3.heap.size mtW.T (mtW.enc exX24).toArray := Bx.new _ _ rfl
    refine hK.out _ _ ⟨hHeld.1.alloc _, hHeld.2.1.alloc _, b_al hHeld.2.2 (Nat.le_refl _) _⟩ (fun hHeld => ?_)
    clear hK K
    (try simp only [Act.put, List.setIfInBounds_toArray, List.set_cons_zero, List.set_cons_succ])
    refine wpAnyH_ready (rs := [20]) (by kernel_rfl) (by simp) ?_
    refine AllReadyH.cons (o := ⟨some 39, _, _, _, _, _⟩) rfl (fun K hK => ?_) AllReadyH.nil
    go_simp
    (go_at_call 10; refine (all24_any (F3.alloc _) (by simp) rz).mono ?_; rintro e w4 ⟨v4, rfl, o4, hb4⟩)
    rw [allF_one, if_pos rfl] at o4
    obtain ⟨A4, c4, rfl, r4, _⟩ := o4.read
    go_wp2_with fail
    refine hK.out _ _ ⟨hHeld.1.below hb4, hHeld.2.1.below hb4, b_cl hHeld.2.2 (Nat.le_refl _) hb4⟩ (fun hHeld => ?_)
    clear hK K
    (try simp only [Act.put, List.setIfInBounds_toArray, List.set_cons_zero, List.set_cons_succ])
    refine wpAnyH_ready (rs := [23]) (by kernel_rfl) (by simp) ?_
    refine AllReadyH.cons (o := ⟨some 42, _, _, _, _, _⟩) rfl (fun K hK => ?_) AllReadyH.nil
    go_simp
    (go_at_call 13; refine (same24_any A4 (some ⟨w3.heap.size, 0, none⟩) c4 1 1 [exX24] _ rfl (r4) ((RdG.one XN).below hb4) (by omega)).mono ?_; rintro e w6 ⟨rfl, hb6⟩)
    go_wp2_with fail
    refine hK.out _ _ ⟨hHeld.1.below hb6, hHeld.2.1.below hb6, b_cl hHeld.2.2 (Nat.le_refl _) hb6⟩ (fun hHeld => ?_)
    clear hK K
    (try simp only [Act.put, List.setIfInBounds_toArray, List.set_cons_zero, List.set_cons_succ])
    refine wpAnyH_take (i := 24) (oi := ⟨some 43, _, _, _, _, _⟩) (v := ?_) rfl (by kernel_rfl) (by kernel_rfl) (by kernel_rfl) (fun _ _ _ h => h) (Or.inl ⟨by rfl, ?_⟩) (by assumption) ?_
    rotate_left
    · (intro w' hSw; clear hSw; go_simp; try (with_reducible rfl))
    (try simp only [Act.put, List.setIfInBounds_toArray, List.set_cons_zero, List.set_cons_succ])
    refine wpAnyH_take (i := 25) (oi := ⟨some 0, _, _, _, _, _⟩) (v := ?_) rfl (by kernel_rfl) (by kernel_rfl) (by kernel_rfl) (fun _ _ _ h => h) (Or.inl ⟨by rfl, ?_⟩) (by assumption) ?_
    rotate_left
    · (intro w' hSw; clear hSw; go_simp; try (with_reducible rfl))
    (try simp only [Act.put, List.setIfInBounds_toArray, List.set_cons_zero])
    refine wpAnyH_done (by kernel_rfl) ?_ _
    refine NoPanic.normal ?_
    go_wp2
    go_ret
    exact ⟨rfl, hHeld.2.2⟩

end Go.Proofs.Ytglgifhpacmhiaa
