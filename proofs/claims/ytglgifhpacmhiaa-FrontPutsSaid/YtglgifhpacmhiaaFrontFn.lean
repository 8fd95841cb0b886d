/- What New, meets and All of a front return. Conditions: the front has its meters; at most ten thousand million. -/
import Derived.Test.YtglgifhpacmhiaaRows
import Derived.Test.YtglgifhpacmhiaaBase
import Derived.Test.YtglgifhpacmhiaaRow
import Derived.Test.YtglgifhpacmhiaaBookRow
import Derived.Test.YtglgifhpacmhiaaBookLim
import Derived.Test.YtglgifhpacmhiaaBookLaws
import Derived.Test.YtglgifhpacmhiaaRecMath
import Derived.Test.YtglgifhpacmhiaaBox
import Derived.Test.YtglgifhpacmhiaaBoxRes
import Derived.Test.YtglgifhpacmhiaaChg
import Derived.Test.YtglgifhpacmhiaaSpellMath
import Derived.Test.YtglgifhpacmhiaaMeterMath
import Derived.Test.YtglgifhpacmhiaaMeterChk
import Derived.Test.YtglgifhpacmhiaaBelowMath
import Derived.Test.YtglgifhpacmhiaaWide
import Derived.Test.YtglgifhpacmhiaaFrontMath
import Derived.Test.YtglgifhpacmhiaaFrontEq
import Derived.Test.YtglgifhpacmhiaaFrontMap
import Derived.Test.YtglgifhpacmhiaaFrontHeap
import Derived.Test.YtglgifhpacmhiaaBelowC
import Derived.Test.YtglgifhpacmhiaaFrontClo
import Derived.Test.YtglgifhpacmhiaaFrontLib
import Derived.Test.YtglgifhpacmhiaaFrontSet
import Derived.WalkKit
import Derived.WalkSpells
import Derived.WalkSmall
import Derived.Below
import Derived.Lib.Hide
import Derived.BigQuiet
import Derived.OwnWalk
import Derived.Outline
import Derived.Maps.RangeWalk
import Derived.Deep.DeepCutAuto
import Derived.OrdersHeld
import Derived.Deep.RegionHeld3
namespace Go.Proofs.Ytglgifhpacmhiaa
open Go.RowKit

theorem new24_bad (x : Nat → Int) (h : ¬ May x) (w : World) : Calls Try.prog 6 #[.agg (bk x)] w fun e w' => e = .returned (.tuple #[.pointer none, .int .i64 14]) ∧ Below w.heap.size w w' := by
  have XB : Bx (w.alloc (.cells (bk x) 23)) w.heap.size 23 (bk x) := Bx.new _ _ rfl
  have B0 : Below w.heap.size w (w.alloc (.cells (bk x) 23)) := b_al (Below.refl _ _) (Nat.le_refl _) _
  have C1 := fun W => check7_any x W
  simp only [if_neg h] at C1
  clear h
  go_enter Try.func6, Try.ntmps6
  go_wp2_with (first
    | go_skip
    | refine wpList_load_box (by rfl) 23 _ rfl (w.heap.size) rfl 23 (bk x) _ XB Try.underlying23 rfl (by kernel_rfl) ?_
    | (go_at_call 18; (with_reducible refine (C1 _).mono ?_); rintro e w1 ⟨rfl, hb1⟩))
  go_ret2
  exact ⟨rfl, b_cl B0 (Nat.le_refl _) hb1⟩

theorem new24_ok (x : Nat → Int) (h : May x) (w : World) : Calls Try.prog 6 #[.agg (bk x)] w fun e w' => ∃ g, e = .returned (.tuple #[.pointer (some ⟨g, 0, none⟩), .int .i64 0]) ∧ Fr w' g x [] [g] ∧ w.heap.size ≤ g ∧ Below w.heap.size w w' := by
  have XB : Bx (w.alloc (.cells (bk x) 23)) w.heap.size 23 (bk x) := Bx.new _ _ rfl
  have B0 : Below w.heap.size w (w.alloc (.cells (bk x) 23)) := b_al (Below.refl _ _) (Nat.le_refl _) _
  have C1 := fun W => check7_any x W
  simp only [if_pos h] at C1
  clear h
  go_enter Try.func6, Try.ntmps6
  go_wp2_with (first
    | go_skip
    | refine wpList_load_box (by rfl) 23 _ rfl (w.heap.size) rfl 23 (bk x) _ (by assumption) Try.underlying23 rfl (by kernel_rfl) ?_
    | refine wpList_build_as rfl 55 _ rfl (fc x none) (by kernel_rfl) ?_
    | ((go_at_call 18; (with_reducible refine (C1 _).mono ?_); rintro e w1 ⟨rfl, hb1⟩); have XB1 := XB.below hb1; have HB1 := Lib.hid (b_cl B0 (Nat.le_refl _) hb1); clear C1 hb1))
  go_ret2
  exact ⟨_, rfl, .inl ⟨Bx.new _ _ rfl, rfl, rfl⟩, HB1.out.size, b_al HB1.out (Nat.le_refl _) _⟩

theorem OwnG.lt2 {α : Type} {k : Wd α} {base b n c : Nat} {w : World} {l : List α} (h : OwnG k base w (.slice (some ⟨b, 0, none⟩) n c) l) : b < w.heap.size := (h.lt rfl).2

set_option maxRecDepth 100000 in
set_option maxHeartbeats 4000000 in
theorem meets24_any {w : World} {g : Nat} {x : Nat → Int} {y : List Ad} {B : List Nat} (h : Fr w g x y B) (hl : y.length ≤ 10000000000) (s : Rc) (m : Mt) :
    Calls Try.prog 20 #[.pointer (some ⟨g, 0, none⟩), .agg (sp s), .agg (mt m)] w fun e w' => e = .returned (.bool (hitF x (allF y s) m)) ∧ Below w.heap.size w w' := by
  obtain ⟨mp, v, hg, HL, hv⟩ := h.look s
  have XG := ((hg.alloc (.cells #[.pointer (some ⟨g, 0, none⟩)] 28)).alloc (.cells (sp s) 26)).alloc (.cells (mt m) 36)
  have XF : Bx (((w.alloc (.cells #[.pointer (some ⟨g, 0, none⟩)] 28)).alloc (.cells (sp s) 26)).alloc (.cells (mt m) 36)) w.heap.size 28 #[.pointer (some ⟨g, 0, none⟩)] := ((Bx.new (W := w) _ _ rfl).alloc _).alloc _
  have XS : Bx (((w.alloc (.cells #[.pointer (some ⟨g, 0, none⟩)] 28)).alloc (.cells (sp s) 26)).alloc (.cells (mt m) 36)) (w.heap.size + 1) 26 (sp s) := (Bx.new (W := (w.alloc (.cells #[.pointer (some ⟨g, 0, none⟩)] 28))) _ _ (by simp)).alloc _
  have XM : Bx (((w.alloc (.cells #[.pointer (some ⟨g, 0, none⟩)] 28)).alloc (.cells (sp s) 26)).alloc (.cells (mt m) 36)) (w.heap.size + 1 + 1) 36 (mt m) := Bx.new (W := ((w.alloc (.cells #[.pointer (some ⟨g, 0, none⟩)] 28)).alloc (.cells (sp s) 26))) _ _ (by simp)
  have B0 : Below w.heap.size w (((w.alloc (.cells #[.pointer (some ⟨g, 0, none⟩)] 28)).alloc (.cells (sp s) 26)).alloc (.cells (mt m) 36)) := b_al (b_al (b_al (Below.refl _ _) (Nat.le_refl _) _) (Nat.le_refl _) _) (Nat.le_refl _) _
  rcases hv with ⟨rfl, e0⟩ | ⟨q, c, rfl, _, ho⟩
  · rw [e0]
    clear h hg e0
    go_enter Try.func20, Try.ntmps20
    go_upto_region 1 with fail
    (try go_frame)
    generalize (((w.alloc (.cells #[.pointer (some ⟨g, 0, none⟩)] 28)).alloc (.cells (sp s) 26)).alloc (.cells (mt m) 36)) = w0 at *
    refine wp_region_noPanic ?_
    refine wp_region_held_drew (S := fun w' => Below w0.heap.size w0 w') (by kernel_rfl) ?_ (fun hHeld => ?_)
    · exact b_dr (Below.refl _ _)
    refine wpAnyH_take (i := 0) (oi := ⟨some 7, _, _, _, _, _⟩) (v := ?_) rfl (by kernel_rfl) (by kernel_rfl) (by kernel_rfl) (fun _ _ _ h => h) (Or.inl ⟨by rfl, ?_⟩) (by assumption) ?_
    rotate_left
    · (intro w' hSw; have q := (XF.keep hSw XF.lt).cell (k := 0) rfl; clear hSw; go_simp; try (with_reducible rfl))
    (try simp only [Act.put, List.setIfInBounds_toArray, List.set_cons_zero, List.set_cons_succ])
    refine wpAnyH_take (i := 1) (oi := ⟨some 8, _, _, _, _, _⟩) (v := ?_) rfl (by kernel_rfl) (by kernel_rfl) (by kernel_rfl) (fun _ _ _ h => h) (Or.inl ⟨by rfl, ?_⟩) (by assumption) ?_
    rotate_left
    · (intro w' hSw; clear hSw; go_simp; try (with_reducible rfl))
    (try simp only [Act.put, List.setIfInBounds_toArray, List.set_cons_zero, List.set_cons_succ])
    refine wpAnyH_take (i := 2) (oi := ⟨some 9, _, _, _, _, _⟩) (v := ?_) rfl (by kernel_rfl) (by kernel_rfl) (by kernel_rfl) (fun _ _ _ h => h) (Or.inl ⟨by rfl, ?_⟩) (by assumption) ?_
    rotate_left
    · (intro w' hSw; clear hSw; go_simp; try (with_reducible rfl))
    (try simp only [Act.put, List.setIfInBounds_toArray, List.set_cons_zero, List.set_cons_succ])
    refine wpAnyH_take (i := 3) (oi := ⟨some 10, _, _, _, _, _⟩) (v := ?_) rfl (by kernel_rfl) (by kernel_rfl) (by kernel_rfl) (fun _ _ _ h => h) (Or.inl ⟨by rfl, ?_⟩) (by assumption) ?_
    rotate_left
    · (intro w' hSw; have q := (XG.keep hSw XG.lt).cell (k := 19) (fc_map x mp); clear hSw; go_simp; try (with_reducible rfl))
    (try simp only [Act.put, List.setIfInBounds_toArray, List.set_cons_zero, List.set_cons_succ])
    refine wpAnyH_take (i := 4) (oi := ⟨some 11, _, _, _, _, _⟩) (v := .agg (sp s)) rfl (by kernel_rfl) (by kernel_rfl) (by kernel_rfl) (fun _ _ _ h => h) (Or.inl ⟨by rfl, fun w' hSw => exec_load_box (w.heap.size + 1) 26 (sp s) _ w' rfl rfl (XS.keep hSw XS.lt) Try.underlying26 rfl (by kernel_rfl)⟩) (by assumption) ?_
    (try simp only [Act.put, List.setIfInBounds_toArray, List.set_cons_zero, List.set_cons_succ])
    refine wpAnyH_take (i := 5) (oi := ⟨some 12, _, _, _, _, _⟩) (v := .slice none 0 0) rfl (by kernel_rfl) (by kernel_rfl) (by kernel_rfl) (fun _ _ _ h => h) (Or.inl ⟨by rfl, fun w' hSw => exec_lookup w' rfl rfl rfl (HL w' (B0.trans (hSw.mono B0.size)))⟩) (by assumption) ?_
    (try simp only [Act.put, List.setIfInBounds_toArray, List.set_cons_zero, List.set_cons_succ])
    refine wpAnyH_take (i := 6) (oi := ⟨some 13, _, _, _, _, _⟩) (v := .func (.func 37) #[] #[.pointer (some ⟨w.heap.size + 1 + 1, 0, none⟩), .pointer (some ⟨w.heap.size, 0, none⟩)]) rfl (by kernel_rfl) (by kernel_rfl) (by kernel_rfl) (fun _ _ _ h => h) (Or.inl ⟨by rfl, fun w' hSw => exec_makeFunc w' rfl (by simp) (by simp only [List.map_toArray, List.map_cons, List.map_nil]; rfl)⟩) (by assumption) ?_
    (try simp only [Act.put, List.setIfInBounds_toArray, List.set_cons_zero, List.set_cons_succ])
    refine wpAnyH_ready (rs := [7]) (by kernel_rfl) (by simp) ?_
    refine AllReadyH.cons (o := ⟨some 14, _, _, _, _, _⟩) rfl (fun K hK => ?_) AllReadyH.nil
    go_simp
    (go_at_call 36; refine (containsm_nil 0 _ _).mono ?_; rintro e w1 ⟨rfl, hb1⟩)
    go_wp2_with fail
    refine hK.out _ _ (b_cl hHeld (Nat.le_refl _) (by assumption)) (fun hHeld => ?_)
    clear hK K
    (try simp only [Act.put, List.setIfInBounds_toArray, List.set_cons_zero, List.set_cons_succ])
    refine wpAnyH_take (i := 8) (oi := ⟨some 6, _, _, _, _, _⟩) (v := ?_) rfl (by kernel_rfl) (by kernel_rfl) (by kernel_rfl) (fun _ _ _ h => h) (Or.inl ⟨by rfl, ?_⟩) (by assumption) ?_
    rotate_left
    · (intro w' hSw; clear hSw; go_simp; try (with_reducible rfl))
    (try simp only [Act.put, List.setIfInBounds_toArray, List.set_cons_zero, List.set_cons_succ])
    refine wpAnyH_done (by kernel_rfl) ?_ _
    refine NoPanic.normal ?_
    go_wp2
    go_ret
    exact ⟨rfl, b_cl B0 (Nat.le_refl _) hHeld⟩
  · have hle := allF_le y s
    obtain ⟨n, hn⟩ : ∃ n, (allF y s).length = n := ⟨_, rfl⟩
    rw [hn] at HL ho hle
    have HO := Lib.hid ho
    have HN := Lib.hid hn
    clear h hg ho hn
    go_enter Try.func20, Try.ntmps20
    go_upto_region 1 with fail
    (try go_frame)
    generalize (((w.alloc (.cells #[.pointer (some ⟨g, 0, none⟩)] 28)).alloc (.cells (sp s) 26)).alloc (.cells (mt m) 36)) = w0 at *
    refine wp_region_noPanic ?_
    refine wp_region_held_drew (S := fun w' => Below w0.heap.size w0 w') (by kernel_rfl) ?_ (fun hHeld => ?_)
    · exact b_dr (Below.refl _ _)
    refine wpAnyH_take (i := 0) (oi := ⟨some 7, _, _, _, _, _⟩) (v := ?_) rfl (by kernel_rfl) (by kernel_rfl) (by kernel_rfl) (fun _ _ _ h => h) (Or.inl ⟨by rfl, ?_⟩) (by assumption) ?_
    rotate_left
    · (intro w' hSw; have q := (XF.keep hSw XF.lt).cell (k := 0) rfl; clear hSw; go_simp; try (with_reducible rfl))
    (try simp only [Act.put, List.setIfInBounds_toArray, List.set_cons_zero, List.set_cons_succ])
    refine wpAnyH_take (i := 1) (oi := ⟨some 8, _, _, _, _, _⟩) (v := ?_) rfl (by kernel_rfl) (by kernel_rfl) (by kernel_rfl) (fun _ _ _ h => h) (Or.inl ⟨by rfl, ?_⟩) (by assumption) ?_
    rotate_left
    · (intro w' hSw; clear hSw; go_simp; try (with_reducible rfl))
    (try simp only [Act.put, List.setIfInBounds_toArray, List.set_cons_zero, List.set_cons_succ])
    refine wpAnyH_take (i := 2) (oi := ⟨some 9, _, _, _, _, _⟩) (v := ?_) rfl (by kernel_rfl) (by kernel_rfl) (by kernel_rfl) (fun _ _ _ h => h) (Or.inl ⟨by rfl, ?_⟩) (by assumption) ?_
    rotate_left
    · (intro w' hSw; clear hSw; go_simp; try (with_reducible rfl))
    (try simp only [Act.put, List.setIfInBounds_toArray, List.set_cons_zero, List.set_cons_succ])
    refine wpAnyH_take (i := 3) (oi := ⟨some 10, _, _, _, _, _⟩) (v := ?_) rfl (by kernel_rfl) (by kernel_rfl) (by kernel_rfl) (fun _ _ _ h => h) (Or.inl ⟨by rfl, ?_⟩) (by assumption) ?_
    rotate_left
    · (intro w' hSw; have q := (XG.keep hSw XG.lt).cell (k := 19) (fc_map x mp); clear hSw; go_simp; try (with_reducible rfl))
    (try simp only [Act.put, List.setIfInBounds_toArray, List.set_cons_zero, List.set_cons_succ])
    refine wpAnyH_take (i := 4) (oi := ⟨some 11, _, _, _, _, _⟩) (v := .agg (sp s)) rfl (by kernel_rfl) (by kernel_rfl) (by kernel_rfl) (fun _ _ _ h => h) (Or.inl ⟨by rfl, fun w' hSw => exec_load_box (w.heap.size + 1) 26 (sp s) _ w' rfl rfl (XS.keep hSw XS.lt) Try.underlying26 rfl (by kernel_rfl)⟩) (by assumption) ?_
    (try simp only [Act.put, List.setIfInBounds_toArray, List.set_cons_zero, List.set_cons_succ])
    refine wpAnyH_take (i := 5) (oi := ⟨some 12, _, _, _, _, _⟩) (v := .slice (some ⟨q, 0, none⟩) n c) rfl (by kernel_rfl) (by kernel_rfl) (by kernel_rfl) (fun _ _ _ h => h) (Or.inl ⟨by rfl, fun w' hSw => exec_lookup w' rfl rfl rfl (HL w' (B0.trans (hSw.mono B0.size)))⟩) (by assumption) ?_
    (try simp only [Act.put, List.setIfInBounds_toArray, List.set_cons_zero, List.set_cons_succ])
    refine wpAnyH_take (i := 6) (oi := ⟨some 13, _, _, _, _, _⟩) (v := .func (.func 37) #[] #[.pointer (some ⟨w.heap.size + 1 + 1, 0, none⟩), .pointer (some ⟨w.heap.size, 0, none⟩)]) rfl (by kernel_rfl) (by kernel_rfl) (by kernel_rfl) (fun _ _ _ h => h) (Or.inl ⟨by rfl, fun w' hSw => exec_makeFunc w' rfl (by simp) (by simp only [List.map_toArray, List.map_cons, List.map_nil]; rfl)⟩) (by assumption) ?_
    (try simp only [Act.put, List.setIfInBounds_toArray, List.set_cons_zero, List.set_cons_succ])
    refine wpAnyH_ready (rs := [7]) (by kernel_rfl) (by simp) ?_
    refine AllReadyH.cons (o := ⟨some 14, _, _, _, _, _⟩) rfl (fun K hK => ?_) AllReadyH.nil
    go_simp
    (go_at_call 36; refine (containsm_of 37 #[.pointer (some ⟨w.heap.size + 1 + 1, 0, none⟩), .pointer (some ⟨w.heap.size, 0, none⟩)] (fun o => tf (o = m ∨ Un x o m)) (enters_of Try.func37 (by kernel_rfl) rfl) q n c (allF y s) _ HN.out (by omega) (HO.out.below (b_tr B0 hHeld)).lt2 (HO.out.below (b_tr B0 hHeld)).rd (fun W u hb => (meets1_any x u m _ _ g mp W (XM.keep (hHeld.trans (hb.mono hHeld.size)) XM.lt) (XF.keep (hHeld.trans (hb.mono hHeld.size)) XF.lt) (XG.keep (hHeld.trans (hb.mono hHeld.size)) XG.lt)).mono fun e w' ⟨he, hb2⟩ => ⟨he, hb.trans (hb2.mono hb.size)⟩)).mono ?_; rintro e w1 ⟨rfl, hb1⟩)
    go_wp2_with fail
    refine hK.out _ _ (b_cl hHeld (Nat.le_refl _) (by assumption)) (fun hHeld => ?_)
    clear hK K
    (try simp only [Act.put, List.setIfInBounds_toArray, List.set_cons_zero, List.set_cons_succ])
    refine wpAnyH_take (i := 8) (oi := ⟨some 6, _, _, _, _, _⟩) (v := ?_) rfl (by kernel_rfl) (by kernel_rfl) (by kernel_rfl) (fun _ _ _ h => h) (Or.inl ⟨by rfl, ?_⟩) (by assumption) ?_
    rotate_left
    · (intro w' hSw; clear hSw; go_simp; try (with_reducible rfl))
    (try simp only [Act.put, List.setIfInBounds_toArray, List.set_cons_zero, List.set_cons_succ])
    refine wpAnyH_done (by kernel_rfl) ?_ _
    refine NoPanic.normal ?_
    go_wp2
    go_ret
    exact ⟨rfl, b_cl B0 (Nat.le_refl _) hHeld⟩

theorem all24_nil (s : Rc) (w : World) : Calls Try.prog 10 #[.pointer none, .agg (sp s)] w fun e w' => e = .returned (.slice none 0 0) ∧ Below w.heap.size w w' := by
  have B0 : Below w.heap.size w (w.alloc (.cells (sp s) 26)) := b_al (Below.refl _ _) (Nat.le_refl _) _
  go_enter Try.func10, Try.ntmps10
  go_wp2
  go_ret
  exact ⟨rfl, B0⟩

set_option maxRecDepth 100000 in
set_option maxHeartbeats 4000000 in
theorem all24_any {w : World} {g : Nat} {x : Nat → Int} {y : List Ad} {B : List Nat} (h : Fr w g x y B) (hl : y.length ≤ 10000000000) (s : Rc) :
    Calls Try.prog 10 #[.pointer (some ⟨g, 0, none⟩), .agg (sp s)] w fun e w' => ∃ v, e = .returned v ∧ OwnG mtW w.heap.size w' v (allF y s) ∧ Below w.heap.size w w' := by
  obtain ⟨mp, v, hg, HL, hv⟩ := h.look s
  have XG := hg.alloc (.cells (sp s) 26)
  have XS : Bx (w.alloc (.cells (sp s) 26)) w.heap.size 26 (sp s) := Bx.new _ _ rfl
  have B0 : Below w.heap.size w (w.alloc (.cells (sp s) 26)) := b_al (Below.refl _ _) (Nat.le_refl _) _
  rcases hv with ⟨rfl, e0⟩ | ⟨q, c, rfl, _, ho⟩
  · rw [e0]
    clear h hg e0
    go_enter Try.func10, Try.ntmps10
    go_upto_region 3 with fail
    (try go_frame)
    generalize (w.alloc (.cells (sp s) 26)) = w0 at *
    refine wp_region_noPanic ?_
    refine wp_region_held_drew (S := fun w' => Below w0.heap.size w0 w') (by kernel_rfl) ?_ (fun hHeld => ?_)
    · exact b_dr (Below.refl _ _)
    refine wpAnyH_take (i := 0) (oi := ⟨some 7, _, _, _, _, _⟩) (v := ?_) rfl (by kernel_rfl) (by kernel_rfl) (by kernel_rfl) (fun _ _ _ h => h) (Or.inl ⟨by rfl, ?_⟩) (by assumption) ?_
    rotate_left
    · (intro w' hSw; clear hSw; go_simp; try (with_reducible rfl))
    (try simp only [Act.put, List.setIfInBounds_toArray, List.set_cons_zero, List.set_cons_succ])
    refine wpAnyH_take (i := 1) (oi := ⟨some 8, _, _, _, _, _⟩) (v := ?_) rfl (by kernel_rfl) (by kernel_rfl) (by kernel_rfl) (fun _ _ _ h => h) (Or.inl ⟨by rfl, ?_⟩) (by assumption) ?_
    rotate_left
    · (intro w' hSw; clear hSw; go_simp; try (with_reducible rfl))
    (try simp only [Act.put, List.setIfInBounds_toArray, List.set_cons_zero, List.set_cons_succ])
    refine wpAnyH_take (i := 2) (oi := ⟨some 9, _, _, _, _, _⟩) (v := ?_) rfl (by kernel_rfl) (by kernel_rfl) (by kernel_rfl) (fun _ _ _ h => h) (Or.inl ⟨by rfl, ?_⟩) (by assumption) ?_
    rotate_left
    · (intro w' hSw; clear hSw; go_simp; try (with_reducible rfl))
    (try simp only [Act.put, List.setIfInBounds_toArray, List.set_cons_zero, List.set_cons_succ])
    refine wpAnyH_take (i := 3) (oi := ⟨some 10, _, _, _, _, _⟩) (v := ?_) rfl (by kernel_rfl) (by kernel_rfl) (by kernel_rfl) (fun _ _ _ h => h) (Or.inl ⟨by rfl, ?_⟩) (by assumption) ?_
    rotate_left
    · (intro w' hSw; have q := (XG.keep hSw XG.lt).cell (k := 19) (fc_map x mp); clear hSw; go_simp; try (with_reducible rfl))
    (try simp only [Act.put, List.setIfInBounds_toArray, List.set_cons_zero, List.set_cons_succ])
    refine wpAnyH_take (i := 4) (oi := ⟨some 11, _, _, _, _, _⟩) (v := .agg (sp s)) rfl (by kernel_rfl) (by kernel_rfl) (by kernel_rfl) (fun _ _ _ h => h) (Or.inl ⟨by rfl, fun w' hSw => exec_load_box (w.heap.size) 26 (sp s) _ w' rfl rfl (XS.keep hSw XS.lt) Try.underlying26 rfl (by kernel_rfl)⟩) (by assumption) ?_
    (try simp only [Act.put, List.setIfInBounds_toArray, List.set_cons_zero, List.set_cons_succ])
    refine wpAnyH_take (i := 5) (oi := ⟨some 12, _, _, _, _, _⟩) (v := .slice none 0 0) rfl (by kernel_rfl) (by kernel_rfl) (by kernel_rfl) (fun _ _ _ h => h) (Or.inl ⟨by rfl, fun w' hSw => exec_lookup w' rfl rfl rfl (HL w' (B0.trans (hSw.mono B0.size)))⟩) (by assumption) ?_
    (try simp only [Act.put, List.setIfInBounds_toArray, List.set_cons_zero, List.set_cons_succ])
    refine wpAnyH_ready (rs := [6]) (by kernel_rfl) (by simp) ?_
    refine AllReadyH.cons (o := ⟨some 13, _, _, _, _, _⟩) rfl (fun K hK => ?_) AllReadyH.nil
    go_simp
    have hz0 := hHeld.size
    (go_at_call 23; refine (clonem_any none 0 0 [] _ rfl (RdG.nil _ _ _) (.inl rfl) (fun _ => ⟨rfl, rfl⟩) (by omega)).mono ?_; rintro e w1 ⟨v1, rfl, o1, hb1⟩)
    have HV1 := Lib.hid (o1.more (Nat.le_trans B0.size hz0))
    clear o1
    go_wp2_with fail
    refine hK.out _ _ (b_cl hHeld (Nat.le_refl _) hb1) (fun hHeld => ?_)
    clear hK K
    (try simp only [Act.put, List.setIfInBounds_toArray, List.set_cons_zero, List.set_cons_succ])
    refine wpAnyH_take (i := 7) (oi := ⟨some 4, _, _, _, _, _⟩) (v := ?_) rfl (by kernel_rfl) (by kernel_rfl) (by kernel_rfl) (fun _ _ _ h => h) (Or.inl ⟨by rfl, ?_⟩) (by assumption) ?_
    rotate_left
    · (intro w' hSw; clear hSw; go_simp; try (with_reducible rfl))
    (try simp only [Act.put, List.setIfInBounds_toArray, List.set_cons_zero, List.set_cons_succ])
    refine wpAnyH_done (by kernel_rfl) ?_ _
    refine NoPanic.normal ?_
    go_wp2
    go_ret
    exact ⟨_, rfl, HV1.out, b_cl B0 (Nat.le_refl _) hHeld⟩
  · have hle := allF_le y s
    obtain ⟨n, hn⟩ : ∃ n, (allF y s).length = n := ⟨_, rfl⟩
    rw [hn] at HL ho hle
    have HO := Lib.hid ho
    have HN := Lib.hid hn
    clear h hg ho hn
    go_enter Try.func10, Try.ntmps10
    go_upto_region 3 with fail
    (try go_frame)
    generalize (w.alloc (.cells (sp s) 26)) = w0 at *
    refine wp_region_noPanic ?_
    refine wp_region_held_drew (S := fun w' => Below w0.heap.size w0 w') (by kernel_rfl) ?_ (fun hHeld => ?_)
    · exact b_dr (Below.refl _ _)
    refine wpAnyH_take (i := 0) (oi := ⟨some 7, _, _, _, _, _⟩) (v := ?_) rfl (by kernel_rfl) (by kernel_rfl) (by kernel_rfl) (fun _ _ _ h => h) (Or.inl ⟨by rfl, ?_⟩) (by assumption) ?_
    rotate_left
    · (intro w' hSw; clear hSw; go_simp; try (with_reducible rfl))
    (try simp only [Act.put, List.setIfInBounds_toArray, List.set_cons_zero, List.set_cons_succ])
    refine wpAnyH_take (i := 1) (oi := ⟨some 8, _, _, _, _, _⟩) (v := ?_) rfl (by kernel_rfl) (by kernel_rfl) (by kernel_rfl) (fun _ _ _ h => h) (Or.inl ⟨by rfl, ?_⟩) (by assumption) ?_
    rotate_left
    · (intro w' hSw; clear hSw; go_simp; try (with_reducible rfl))
    (try simp only [Act.put, List.setIfInBounds_toArray, List.set_cons_zero, List.set_cons_succ])
    refine wpAnyH_take (i := 2) (oi := ⟨some 9, _, _, _, _, _⟩) (v := ?_) rfl (by kernel_rfl) (by kernel_rfl) (by kernel_rfl) (fun _ _ _ h => h) (Or.inl ⟨by rfl, ?_⟩) (by assumption) ?_
    rotate_left
    · (intro w' hSw; clear hSw; go_simp; try (with_reducible rfl))
    (try simp only [Act.put, List.setIfInBounds_toArray, List.set_cons_zero, List.set_cons_succ])
    refine wpAnyH_take (i := 3) (oi := ⟨some 10, _, _, _, _, _⟩) (v := ?_) rfl (by kernel_rfl) (by kernel_rfl) (by kernel_rfl) (fun _ _ _ h => h) (Or.inl ⟨by rfl, ?_⟩) (by assumption) ?_
    rotate_left
    · (intro w' hSw; have q := (XG.keep hSw XG.lt).cell (k := 19) (fc_map x mp); clear hSw; go_simp; try (with_reducible rfl))
    (try simp only [Act.put, List.setIfInBounds_toArray, List.set_cons_zero, List.set_cons_succ])
    refine wpAnyH_take (i := 4) (oi := ⟨some 11, _, _, _, _, _⟩) (v := .agg (sp s)) rfl (by kernel_rfl) (by kernel_rfl) (by kernel_rfl) (fun _ _ _ h => h) (Or.inl ⟨by rfl, fun w' hSw => exec_load_box (w.heap.size) 26 (sp s) _ w' rfl rfl (XS.keep hSw XS.lt) Try.underlying26 rfl (by kernel_rfl)⟩) (by assumption) ?_
    (try simp only [Act.put, List.setIfInBounds_toArray, List.set_cons_zero, List.set_cons_succ])
    refine wpAnyH_take (i := 5) (oi := ⟨some 12, _, _, _, _, _⟩) (v := .slice (some ⟨q, 0, none⟩) n c) rfl (by kernel_rfl) (by kernel_rfl) (by kernel_rfl) (fun _ _ _ h => h) (Or.inl ⟨by rfl, fun w' hSw => exec_lookup w' rfl rfl rfl (HL w' (B0.trans (hSw.mono B0.size)))⟩) (by assumption) ?_
    (try simp only [Act.put, List.setIfInBounds_toArray, List.set_cons_zero, List.set_cons_succ])
    refine wpAnyH_ready (rs := [6]) (by kernel_rfl) (by simp) ?_
    refine AllReadyH.cons (o := ⟨some 13, _, _, _, _, _⟩) rfl (fun K hK => ?_) AllReadyH.nil
    go_simp
    have hz0 := hHeld.size
    (go_at_call 23; refine (clonem_any (some ⟨q, 0, none⟩) c n (allF y s) _ HN.out (HO.out.below (b_tr B0 hHeld)).rd (.inr ⟨_, _, rfl⟩) (fun e => by cases e) (by omega)).mono ?_; rintro e w1 ⟨v1, rfl, o1, hb1⟩)
    have HV1 := Lib.hid (o1.more (Nat.le_trans B0.size hz0))
    clear o1
    go_wp2_with fail
    refine hK.out _ _ (b_cl hHeld (Nat.le_refl _) hb1) (fun hHeld => ?_)
    clear hK K
    (try simp only [Act.put, List.setIfInBounds_toArray, List.set_cons_zero, List.set_cons_succ])
    refine wpAnyH_take (i := 7) (oi := ⟨some 4, _, _, _, _, _⟩) (v := ?_) rfl (by kernel_rfl) (by kernel_rfl) (by kernel_rfl) (fun _ _ _ h => h) (Or.inl ⟨by rfl, ?_⟩) (by assumption) ?_
    rotate_left
    · (intro w' hSw; clear hSw; go_simp; try (with_reducible rfl))
    (try simp only [Act.put, List.setIfInBounds_toArray, List.set_cons_zero, List.set_cons_succ])
    refine wpAnyH_done (by kernel_rfl) ?_ _
    refine NoPanic.normal ?_
    go_wp2
    go_ret
    exact ⟨_, rfl, HV1.out, b_cl B0 (Nat.le_refl _) hHeld⟩

end Go.Proofs.Ytglgifhpacmhiaa
