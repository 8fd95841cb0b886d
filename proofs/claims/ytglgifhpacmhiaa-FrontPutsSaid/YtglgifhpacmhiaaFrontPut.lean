/- What Put of a front returns, and what it leaves. Conditions: the front has its meters; at most a thousand million. -/
import Derived.Test.YtglgifhpacmhiaaRows
import Derived.Test.YtglgifhpacmhiaaBase
import Derived.Test.YtglgifhpacmhiaaRow
import Derived.Test.YtglgifhpacmhiaaBookRow
import Derived.Test.YtglgifhpacmhiaaBookLim
import Derived.Test.YtglgifhpacmhiaaBookLaws
import Derived.Test.YtglgifhpacmhiaaRecMath
import Derived.Test.YtglgifhpacmhiaaBox
import Derived.Test.YtglgifhpacmhiaaBoxRes
import Derived.Test.YtglgifhpacmhiaaChg
import Derived.Test.YtglgifhpacmhiaaSpellMath
import Derived.Test.YtglgifhpacmhiaaMeterMath
import Derived.Test.YtglgifhpacmhiaaMeterChk
import Derived.Test.YtglgifhpacmhiaaBelowMath
import Derived.Test.YtglgifhpacmhiaaWide
import Derived.Test.YtglgifhpacmhiaaFrontMath
import Derived.Test.YtglgifhpacmhiaaFrontEq
import Derived.Test.YtglgifhpacmhiaaFrontMap
import Derived.Test.YtglgifhpacmhiaaFrontHeap
import Derived.Test.YtglgifhpacmhiaaBelowC
import Derived.Test.YtglgifhpacmhiaaFrontClo
import Derived.Test.YtglgifhpacmhiaaFrontLib
import Derived.Test.YtglgifhpacmhiaaFrontSet
import Derived.Test.YtglgifhpacmhiaaFrontFn
import Derived.WalkKit
import Derived.Carry
import Derived.WalkSpells
import Derived.WalkSmall
import Derived.Below
import Derived.Lib.Hide
import Derived.BigQuiet
import Derived.OwnWalk
import Derived.Outline
import Derived.Maps.RangeWalk
import Derived.Deep.DeepCutAuto
import Derived.OrdersHeld
import Derived.Deep.RegionHeld3
namespace Go.Proofs.Ytglgifhpacmhiaa
open Go.RowKit

theorem put24_nil (s : Rc) (m : Mt) (w : World) : Calls Try.prog 9 #[.pointer none, .agg (sp s), .agg (mt m)] w fun e w' => e = .returned (.bool false) ∧ Below w.heap.size w w' := by
  have B0 : Below w.heap.size w (((w.alloc (.cells #[.pointer none] 28)).alloc (.cells (sp s) 26)).alloc (.cells (mt m) 36)) := b_al (b_al (b_al (Below.refl _ _) (Nat.le_refl _) _) (Nat.le_refl _) _) (Nat.le_refl _) _
  go_enter Try.func9, Try.ntmps9
  go_wp2
  go_ret
  exact ⟨rfl, B0⟩

/-- What a map without entries is. -/
theorem FrM.new {w : World} {b : Nat} (h : Mp w b []) : FrM w b [] [] := ⟨h, (fun _ h => by cases h), (fun _ h => by cases h), List.nodup_nil, (fun _ h => by cases h), (fun _ h => by cases h)⟩

set_option maxRecDepth 100000 in
set_option maxHeartbeats 4000000 in
theorem put24_hit {w : World} {g : Nat} {x : Nat → Int} {y : List Ad} {B : List Nat} (h : Fr w g x y B) (hl : y.length ≤ 1000000000) (s : Rc) (m : Mt) (hh : hitF x (allF y s) m = true) :
    Calls Try.prog 9 #[.pointer (some ⟨g, 0, none⟩), .agg (sp s), .agg (mt m)] w fun e w' => e = .returned (.bool false) ∧ Below w.heap.size w w' := by
  have XF : Bx (((w.alloc (.cells #[.pointer (some ⟨g, 0, none⟩)] 28)).alloc (.cells (sp s) 26)).alloc (.cells (mt m) 36)) (w.heap.size) 28 #[.pointer (some ⟨g, 0, none⟩)] := ((Bx.new (W := w) _ _ rfl).alloc _).alloc _
  have XS : Bx (((w.alloc (.cells #[.pointer (some ⟨g, 0, none⟩)] 28)).alloc (.cells (sp s) 26)).alloc (.cells (mt m) 36)) (w.heap.size + 1) 26 (sp s) := (Bx.new (W := (w.alloc (.cells #[.pointer (some ⟨g, 0, none⟩)] 28))) _ _ (by simp)).alloc _
  have XM : Bx (((w.alloc (.cells #[.pointer (some ⟨g, 0, none⟩)] 28)).alloc (.cells (sp s) 26)).alloc (.cells (mt m) 36)) (w.heap.size + 1 + 1) 36 (mt m) := Bx.new (W := ((w.alloc (.cells #[.pointer (some ⟨g, 0, none⟩)] 28)).alloc (.cells (sp s) 26))) _ _ (by simp)
  have B0 : Below w.heap.size w (((w.alloc (.cells #[.pointer (some ⟨g, 0, none⟩)] 28)).alloc (.cells (sp s) 26)).alloc (.cells (mt m) 36)) := b_al (b_al (b_al (Below.refl _ _) (Nat.le_refl _) _) (Nat.le_refl _) _) (Nat.le_refl _) _
  have CM := meets24_any (((h.alloc (.cells #[.pointer (some ⟨g, 0, none⟩)] 28)).alloc (.cells (sp s) 26)).alloc (.cells (mt m) 36)) (by omega) s m
  rw [hh] at CM
  clear h hh
  go_enter Try.func9, Try.ntmps9
  go_wp2_with (first
    | go_skip
    | refine wpList_load_box (by rfl) 26 _ rfl (w.heap.size + 1) rfl 26 (sp s) _ XS Try.underlying26 rfl (by kernel_rfl) ?_
    | refine wpList_load_box (by rfl) 36 _ rfl (w.heap.size + 1 + 1) rfl 36 (mt m) _ XM Try.underlying36 rfl (by kernel_rfl) ?_
    | (go_at_call 20; (with_reducible refine CM.mono ?_); rintro e w1 ⟨rfl, hb1⟩; have XF1 := XF.below hb1; have XS1 := XS.below hb1; have XM1 := XM.below hb1; have B1 := b_cl B0 (Nat.le_refl _) hb1; clear hb1 CM XF XS XM B0))
  go_ret
  exact ⟨rfl, B1⟩

theorem FrM.below {w w' : World} {b : Nat} {E : List En} {y : List Ad} (h : FrM w b E y) (hb : Below w.heap.size w w') : FrM w' b E y :=
  h.kept (hb.block b h.mp.lt) fun q hq => by
    obtain ⟨cur, h1⟩ := h.row hq
    exact hb.block q.blk h1.lt

set_option maxRecDepth 100000 in
set_option maxHeartbeats 4000000 in
theorem put24_miss {w : World} {g b : Nat} {x : Nat → Int} {y : List Ad} {E : List En} (hg : Bx w g 55 (fc x (some b))) (hm : FrM w b E y) (hl : y.length ≤ 1000000000) (s : Rc) (m : Mt) (hh : hitF x (allF y s) m = false) (ha : atK (E.map En.kv) s = none) (ha0 : allF y s = []) :
    Calls Try.prog 9 #[.pointer (some ⟨g, 0, none⟩), .agg (sp s), .agg (mt m)] w fun e w' => e = .returned (.bool true) ∧ ∃ B', Fr w' g x (putF x y s m) B' ∧ Ms w (g :: b :: E.map (·.blk)) w' B' := by
  have h : Fr w g x y (g :: b :: E.map (·.blk)) := .inr ⟨b, E, hg, hm, rfl⟩
  have XF : Bx (((w.alloc (.cells #[.pointer (some ⟨g, 0, none⟩)] 28)).alloc (.cells (sp s) 26)).alloc (.cells (mt m) 36)) (w.heap.size) 28 #[.pointer (some ⟨g, 0, none⟩)] := ((Bx.new (W := w) _ _ rfl).alloc _).alloc _
  have XS : Bx (((w.alloc (.cells #[.pointer (some ⟨g, 0, none⟩)] 28)).alloc (.cells (sp s) 26)).alloc (.cells (mt m) 36)) (w.heap.size + 1) 26 (sp s) := (Bx.new (W := (w.alloc (.cells #[.pointer (some ⟨g, 0, none⟩)] 28))) _ _ (by simp)).alloc _
  have XM : Bx (((w.alloc (.cells #[.pointer (some ⟨g, 0, none⟩)] 28)).alloc (.cells (sp s) 26)).alloc (.cells (mt m) 36)) (w.heap.size + 1 + 1) 36 (mt m) := Bx.new (W := ((w.alloc (.cells #[.pointer (some ⟨g, 0, none⟩)] 28)).alloc (.cells (sp s) 26))) _ _ (by simp)
  have B0 : Below w.heap.size w (((w.alloc (.cells #[.pointer (some ⟨g, 0, none⟩)] 28)).alloc (.cells (sp s) 26)).alloc (.cells (mt m) 36)) := b_al (b_al (b_al (Below.refl _ _) (Nat.le_refl _) _) (Nat.le_refl _) _) (Nat.le_refl _) _
  have XG := (((hg.alloc (.cells #[.pointer (some ⟨g, 0, none⟩)] 28)).alloc (.cells (sp s) 26)).alloc (.cells (mt m) 36))
  have CM := meets24_any (((h.alloc (.cells #[.pointer (some ⟨g, 0, none⟩)] 28)).alloc (.cells (sp s) 26)).alloc (.cells (mt m) 36)) (by omega) s m
  rw [hh] at CM
  have hlt := h.blocks
  have HH := Lib.hid hh
  have hgl := hg.lt
  have hbl := hm.mp.lt
  have hbg : g ≠ b := hm.mp.not_bx hg
  have hbf : w.heap.size ≠ b := by omega
  have hbs : w.heap.size + 1 ≠ b := by omega
  have hbm : w.heap.size + 1 + 1 ≠ b := by omega
  have HM1 := Lib.hid hm
  have HA := Lib.hid ha
  have HA0 := Lib.hid ha0
  clear ha ha0
  have eM : ∀ W : World, (binOp .eql 53 (.map (some b)) (.map none)).run Try.prog W = .ok (.bool false) W := fun W => run_eql_map_nil W _ _ _ (some b) Try.underlying53
  clear h hg hm hh hlt
  go_enter Try.func9, Try.ntmps9
  go_upto_region 5 with (first
    | go_skip
    | refine wpList_load_box (by rfl) 26 _ rfl (w.heap.size + 1) rfl 26 (sp s) _ XS Try.underlying26 rfl (by kernel_rfl) ?_
    | refine wpList_load_box (by rfl) 36 _ rfl (w.heap.size + 1 + 1) rfl 36 (mt m) _ XM Try.underlying36 rfl (by kernel_rfl) ?_
    | (go_at_call 20; (with_reducible refine CM.mono ?_); rintro e w1 ⟨rfl, hb1⟩; have XF1 := XF.below hb1; have XS1 := XS.below hb1; have XM1 := XM.below hb1; have B1 := b_cl B0 (Nat.le_refl _) hb1; have XG1 := XG.below hb1; have q1 := XF1.cell (k := 0) rfl; have q2 := XG1.cell (k := 19) (fc_map x (some b)); have HM := Lib.hid (HM1.out.below B1); have HS := Lib.hid (Ms.of_below (B := g :: b :: E.map (·.blk)) B1); clear hb1 CM XF XS XM XG B0 B1 HM1))
  obtain ⟨wc, hwc⟩ : ∃ wc : World, wc = w1 := ⟨_, rfl⟩
  subst hwc
  have XFc := XF1
  have XSc := XS1
  have XMc := XM1
  have XGc := XG1
  clear q1 q2 XF1 XS1 XM1 XG1
  (try go_frame)
  refine wp_region_noPanic ?_
  refine wp_region_held_drew (S := fun w' => Below wc.heap.size wc w') (by kernel_rfl) ?_ (fun hHeld => ?_)
  · exact b_dr (Below.refl _ _)
  refine wpAnyH_take (i := 0) (oi := ⟨some 25, _, _, _, _, _⟩) (v := ?_) rfl (by kernel_rfl) (by kernel_rfl) (by kernel_rfl) (fun _ _ _ h => h) (Or.inl ⟨by rfl, ?_⟩) (by assumption) ?_
  rotate_left
  · (intro w' hSw; have q := (XFc.keep hSw XFc.lt).cell (k := 0) rfl; clear hSw; go_simp; try (with_reducible rfl))
  (try simp only [Act.put, List.setIfInBounds_toArray, List.set_cons_zero, List.set_cons_succ])
  refine wpAnyH_take (i := 1) (oi := ⟨some 26, _, _, _, _, _⟩) (v := ?_) rfl (by kernel_rfl) (by kernel_rfl) (by kernel_rfl) (fun _ _ _ h => h) (Or.inl ⟨by rfl, ?_⟩) (by assumption) ?_
  rotate_left
  · (intro w' hSw; clear hSw; go_simp; try (with_reducible rfl))
  (try simp only [Act.put, List.setIfInBounds_toArray, List.set_cons_zero, List.set_cons_succ])
  refine wpAnyH_take (i := 2) (oi := ⟨some 27, _, _, _, _, _⟩) (v := ?_) rfl (by kernel_rfl) (by kernel_rfl) (by kernel_rfl) (fun _ _ _ h => h) (Or.inl ⟨by rfl, ?_⟩) (by assumption) ?_
  rotate_left
  · (intro w' hSw; clear hSw; go_simp; try (with_reducible rfl))
  (try simp only [Act.put, List.setIfInBounds_toArray, List.set_cons_zero, List.set_cons_succ])
  refine wpAnyH_take (i := 3) (oi := ⟨some 28, _, _, _, _, _⟩) (v := ?_) rfl (by kernel_rfl) (by kernel_rfl) (by kernel_rfl) (fun _ _ _ h => h) (Or.inl ⟨by rfl, ?_⟩) (by assumption) ?_
  rotate_left
  · (intro w' hSw; have q := (XGc.keep hSw XGc.lt).cell (k := 19) (fc_map x (some b)); clear hSw; go_simp; try (with_reducible rfl))
  (try simp only [Act.put, List.setIfInBounds_toArray, List.set_cons_zero, List.set_cons_succ])
  refine wpAnyH_take (i := 4) (oi := ⟨some 29, _, _, _, _, _⟩) (v := .agg (sp s)) rfl (by kernel_rfl) (by kernel_rfl) (by kernel_rfl) (fun _ _ _ h => h) (Or.inl ⟨by rfl, fun w' hSw => exec_load_box (w.heap.size + 1) 26 (sp s) _ w' rfl rfl (XSc.keep hSw XSc.lt) Try.underlying26 rfl (by kernel_rfl)⟩) (by assumption) ?_
  (try simp only [Act.put, List.setIfInBounds_toArray, List.set_cons_zero, List.set_cons_succ])
  refine wpAnyH_take (i := 5) (oi := ⟨some 30, _, _, _, _, _⟩) (v := .slice none 0 0) rfl (by kernel_rfl) (by kernel_rfl) (by kernel_rfl) (fun _ _ _ h => h) (Or.inl ⟨by rfl, fun w' hSw => exec_lookup w' rfl rfl rfl (by have hq := run_lookup_sp (HM.out.mp.below hSw) s; rw [HA.out] at hq; exact hq)⟩) (by assumption) ?_
  (try simp only [Act.put, List.setIfInBounds_toArray, List.set_cons_zero, List.set_cons_succ])
  refine wpAnyH_take (i := 6) (oi := ⟨some 31, _, _, _, _, _⟩) (v := .func (.func 22) #[] #[.pointer (some ⟨w.heap.size, 0, none⟩), .pointer (some ⟨w.heap.size + 1 + 1, 0, none⟩)]) rfl (by kernel_rfl) (by kernel_rfl) (by kernel_rfl) (fun _ _ _ h => h) (Or.inl ⟨by rfl, fun w' hSw => exec_makeFunc w' rfl (by simp) (by simp only [List.map_toArray, List.map_cons, List.map_nil]; rfl)⟩) (by assumption) ?_
  (try simp only [Act.put, List.setIfInBounds_toArray, List.set_cons_zero, List.set_cons_succ])
  refine wpAnyH_ready (rs := [7]) (by kernel_rfl) (by simp) ?_
  refine AllReadyH.cons (o := ⟨some 32, _, _, _, _, _⟩) rfl (fun K hK => ?_) AllReadyH.nil
  go_simp
  (go_at_call 21; refine (deletem_nil _ _).mono ?_; rintro e w5 ⟨rfl, e5⟩)
  have hHx : Below wc.heap.size wc w5 := e5 ▸ hHeld
  clear e5
  go_wp2_with fail
  refine hK.out _ _ hHx (fun hHeld => ?_)
  clear hK K
  (try simp only [Act.put, List.setIfInBounds_toArray, List.set_cons_zero, List.set_cons_succ])
  refine wpAnyH_take (i := 8) (oi := ⟨some 7, _, _, _, _, _⟩) (v := ?_) rfl (by kernel_rfl) (by kernel_rfl) (by kernel_rfl) (fun _ _ _ h => h) (Or.inl ⟨by rfl, ?_⟩) (by assumption) ?_
  rotate_left
  · (intro w' hSw; clear hSw; go_simp; try (with_reducible rfl))
  (try simp only [Act.put, List.setIfInBounds_toArray, List.set_cons_zero, List.set_cons_succ])
  refine wpAnyH_done (by kernel_rfl) ?_ _
  refine NoPanic.normal ?_
  have hs5 := hHeld.size
  have XF5 := XFc.below hHeld
  have XS5 := XSc.below hHeld
  have XM5 := XMc.below hHeld
  have XG5 := XGc.below hHeld
  have HP5 := Lib.hid (HM.out.mp.below hHeld)
  have HC5 := Lib.hid hHeld
  clear hHeld XFc XSc XMc XGc
  go_upto_region 6 with fail
  (try go_frame)
  refine wp_region_noPanic ?_
  refine wp_region_held_drew (S := fun w' => w5.heap.size ≤ w'.heap.size ∧ ∀ k, k ≠ b → k ≠ b → k < w5.heap.size → w'.heap[k]? = w5.heap[k]?) (by kernel_rfl) ?_ (fun hHeld => ?_)
  · exact ⟨Nat.le_refl _, fun _ _ _ _ => rfl⟩
  refine wpAnyH_take (i := 0) (oi := ⟨some 33, _, _, _, _, _⟩) (v := ?_) rfl (by kernel_rfl) (by kernel_rfl) (by kernel_rfl) (fun _ _ _ h => h) (Or.inl ⟨by rfl, ?_⟩) (by assumption) ?_
  rotate_left
  · (intro w' hSw; have q := (show Bx w' _ _ _ from (hSw.2 _ hbf hbf XF5.lt).trans XF5).cell (k := 0) rfl; clear hSw; go_simp; try (with_reducible rfl))
  (try simp only [Act.put, List.setIfInBounds_toArray, List.set_cons_zero, List.set_cons_succ])
  refine wpAnyH_take (i := 1) (oi := ⟨some 34, _, _, _, _, _⟩) (v := ?_) rfl (by kernel_rfl) (by kernel_rfl) (by kernel_rfl) (fun _ _ _ h => h) (Or.inl ⟨by rfl, ?_⟩) (by assumption) ?_
  rotate_left
  · (intro w' hSw; clear hSw; go_simp; try (with_reducible rfl))
  (try simp only [Act.put, List.setIfInBounds_toArray, List.set_cons_zero, List.set_cons_succ])
  refine wpAnyH_take (i := 2) (oi := ⟨some 35, _, _, _, _, _⟩) (v := ?_) rfl (by kernel_rfl) (by kernel_rfl) (by kernel_rfl) (fun _ _ _ h => h) (Or.inl ⟨by rfl, ?_⟩) (by assumption) ?_
  rotate_left
  · (intro w' hSw; clear hSw; go_simp; try (with_reducible rfl))
  (try simp only [Act.put, List.setIfInBounds_toArray, List.set_cons_zero, List.set_cons_succ])
  refine wpAnyH_take (i := 3) (oi := ⟨some 36, _, _, _, _, _⟩) (v := ?_) rfl (by kernel_rfl) (by kernel_rfl) (by kernel_rfl) (fun _ _ _ h => h) (Or.inl ⟨by rfl, ?_⟩) (by assumption) ?_
  rotate_left
  · (intro w' hSw; have q := (show Bx w' _ _ _ from (hSw.2 _ hbg hbg XG5.lt).trans XG5).cell (k := 19) (fc_map x (some b)); clear hSw; go_simp; try (with_reducible rfl))
  (try simp only [Act.put, List.setIfInBounds_toArray, List.set_cons_zero, List.set_cons_succ])
  refine wpAnyH_take (i := 4) (oi := ⟨some 37, _, _, _, _, _⟩) (v := .agg (sp s)) rfl (by kernel_rfl) (by kernel_rfl) (by kernel_rfl) (fun _ _ _ h => h) (Or.inl ⟨by rfl, fun w' hSw => exec_load_box (w.heap.size + 1) 26 (sp s) _ w' rfl rfl (show Bx w' _ _ _ from (hSw.2 _ hbs hbs XS5.lt).trans XS5) Try.underlying26 rfl (by kernel_rfl)⟩) (by assumption) ?_
  (try simp only [Act.put, List.setIfInBounds_toArray, List.set_cons_zero, List.set_cons_succ])
  refine wpAnyH_take (i := 5) (oi := ⟨some 38, _, _, _, _, _⟩) (v := ?_) rfl (by kernel_rfl) (by kernel_rfl) (by kernel_rfl) (fun _ _ _ h => h) (Or.inl ⟨by rfl, ?_⟩) (by assumption) ?_
  rotate_left
  · (intro w' hSw; clear hSw; go_simp; try (with_reducible rfl))
  (try simp only [Act.put, List.setIfInBounds_toArray, List.set_cons_zero, List.set_cons_succ])
  refine wpAnyH_take (i := 6) (oi := ⟨some 39, _, _, _, _, _⟩) (v := .agg (mt m)) rfl (by kernel_rfl) (by kernel_rfl) (by kernel_rfl) (fun _ _ _ h => h) (Or.inl ⟨by rfl, fun w' hSw => exec_load_box (w.heap.size + 1 + 1) 36 (mt m) _ w' rfl rfl (show Bx w' _ _ _ from (hSw.2 _ hbm hbm XM5.lt).trans XM5) Try.underlying36 rfl (by kernel_rfl)⟩) (by assumption) ?_
  (try simp only [Act.put, List.setIfInBounds_toArray, List.set_cons_zero, List.set_cons_succ])
  refine wpAnyH_ready (rs := [7]) (by kernel_rfl) (by simp) ?_
  refine AllReadyH.cons (o := ⟨some 40, _, _, _, _, _⟩) rfl (fun K hK => ?_) AllReadyH.nil
  refine wp_one (k := mtW) 37 Try.underlying37 info_mtr (by decide) m (fill_mt m) _ rfl rfl ?_
  have XN : Bx (w5.drew.alloc (.cells (mtW.enc m).toArray mtW.T)) w5.heap.size mtW.T (mtW.enc m).toArray := Bx.new _ _ rfl
  refine hK.out _ _ ⟨by simp, fun k _ _ hk => heap_alloc_old w5.drew _ hk⟩ (fun hHeld => ?_)
  clear hK K
  (try simp only [Act.put, List.setIfInBounds_toArray, List.set_cons_zero, List.set_cons_succ])
  refine wpAnyH_ready (rs := [8]) (by kernel_rfl) (by simp) ?_
  refine AllReadyH.cons (o := ⟨some 41, _, _, _, _, _⟩) rfl (fun K hK => ?_) AllReadyH.nil
  refine wp_appG (k := mtW) 37 Try.underlying37 info_mtr rfl (by decide) _ _ rfl w5.heap.size (.slice none 0 0) [] rfl (OwnG.nil _ _ _) (some ⟨w5.heap.size, 0, none⟩) 1 1 [m] rfl rfl (RdG.one XN) (fun e => by cases e) (fun e => by cases e) (by simp) (by simp) (fun v7 w7 o7 g7 a7 _ => ?_)
  have hz7 : w5.heap.size + 1 ≤ w7.heap.size := by have := g7.size; simpa using this
  have K7 : ∀ k, k ≠ b → k < w5.heap.size → w7.heap[k]? = w5.heap[k]? := fun k k1 k2 => (g7.block k (by simp; omega) (fun e => by cases e)).trans (heap_alloc_old w5.drew _ k2)
  have HP7 := Lib.hid (HP5.out.kept ((g7.block b (by have := HP5.out.lt; simp; omega) (fun e => by cases e)).trans (heap_alloc_old w5.drew _ HP5.out.lt)))
  refine hK.out _ _ ⟨by omega, fun k k1 _ k2 => K7 k k1 k2⟩ (fun hHeld => ?_)
  clear hK K
  (try simp only [Act.put, List.setIfInBounds_toArray, List.set_cons_zero, List.set_cons_succ])
  refine wpAnyH_ready (rs := [9]) (by kernel_rfl) (by simp) ?_
  refine AllReadyH.cons (o := ⟨none, _, _, _, _, _⟩) rfl (fun K hK => ?_) AllReadyH.nil
  obtain ⟨q7, c7, hv7⟩ : ∃ q7 c7, v7 = .slice (some ⟨q7, 0, none⟩) ([] ++ [m]).length c7 := by
    rcases o7.form with ⟨h1, _⟩ | h1
    · simp at h1
    · exact h1
  subst hv7
  have hq7 := a7 q7 rfl
  refine wp_update_sp _ _ _ rfl b (E.map En.kv) s _ rfl rfl rfl HP7.out (fun w8 mp8 u8 => ?_)
  have HX8 := Lib.hid (u8.other g hbg)
  refine hK.out _ _ ⟨by rw [u8.size]; omega, fun k k1 k2 k3 => (u8.other k k2).trans (K7 k k1 k3)⟩ (fun hHeld => ?_)
  clear hK K
  (try simp only [Act.put])
  refine wpAnyH_done (by kernel_rfl) ?_ _
  refine NoPanic.normal ?_
  go_wp2
  go_ret
  have hq7' : wc.heap.size ≤ q7 := by
    rcases hq7 with h1 | h1
    · cases h1
    · have h1 : w5.drew.heap.size + 1 ≤ q7 := by simpa using h1
      have h1 : w5.heap.size + 1 ≤ q7 := h1
      omega
  have hq7b : q7 ≠ b := by have := HM.out.mp.lt; omega
  have HR : restF x (allF y s) m ++ [m] = [] ++ [m] := by rw [HA0.out]; rfl
  obtain ⟨B', f1, f2⟩ := Fr.put_end (w8 := w8) (q7 := q7) (c7 := c7) (s := s) (m := m) (n7 := ([] ++ [m] : List Mt).length) HS.out HM.out HH.out (by rw [HR]) ((HX8.out).trans ((K7 g hbg XG5.lt).trans XG5)) mp8 (by rw [HR]; exact (o7.re).kept fun k hk => by injection hk with hk; have hk : q7 = k := hk; rw [← hk]; exact u8.other q7 hq7b) (by rw [u8.size]; omega)
    (.inr hq7')
    (fun k k1 k2 k3 => (u8.other k k1).trans ((K7 k k1 (by omega)).trans (HC5.out.block k k3)))
    (fun n n1 n2 n3 => ((HC5.out.mono n3).trans (b_al (b_dr (Below.refl _ _)) (by omega) _)).trans (((Below.refl n _).grown g7 (by simp; omega) (fun k e => by cases e)).trans (u8.bel n n1)))
  exact ⟨rfl, B', f1, f2⟩

set_option maxRecDepth 100000 in
set_option maxHeartbeats 4000000 in
theorem put24_there {w : World} {g b : Nat} {x : Nat → Int} {y : List Ad} {E : List En} (hg : Bx w g 55 (fc x (some b))) (hm : FrM w b E y) (hl : y.length ≤ 1000000000) (s : Rc) (m : Mt) (hh : hitF x (allF y s) m = false) (q : En) (hq : q ∈ E) (hk : q.key = s) :
    Calls Try.prog 9 #[.pointer (some ⟨g, 0, none⟩), .agg (sp s), .agg (mt m)] w fun e w' => e = .returned (.bool true) ∧ ∃ B', Fr w' g x (putF x y s m) B' ∧ Ms w (g :: b :: E.map (·.blk)) w' B' := by
  have h : Fr w g x y (g :: b :: E.map (·.blk)) := .inr ⟨b, E, hg, hm, rfl⟩
  have XF : Bx (((w.alloc (.cells #[.pointer (some ⟨g, 0, none⟩)] 28)).alloc (.cells (sp s) 26)).alloc (.cells (mt m) 36)) (w.heap.size) 28 #[.pointer (some ⟨g, 0, none⟩)] := ((Bx.new (W := w) _ _ rfl).alloc _).alloc _
  have XS : Bx (((w.alloc (.cells #[.pointer (some ⟨g, 0, none⟩)] 28)).alloc (.cells (sp s) 26)).alloc (.cells (mt m) 36)) (w.heap.size + 1) 26 (sp s) := (Bx.new (W := (w.alloc (.cells #[.pointer (some ⟨g, 0, none⟩)] 28))) _ _ (by simp)).alloc _
  have XM : Bx (((w.alloc (.cells #[.pointer (some ⟨g, 0, none⟩)] 28)).alloc (.cells (sp s) 26)).alloc (.cells (mt m) 36)) (w.heap.size + 1 + 1) 36 (mt m) := Bx.new (W := ((w.alloc (.cells #[.pointer (some ⟨g, 0, none⟩)] 28)).alloc (.cells (sp s) 26))) _ _ (by simp)
  have B0 : Below w.heap.size w (((w.alloc (.cells #[.pointer (some ⟨g, 0, none⟩)] 28)).alloc (.cells (sp s) 26)).alloc (.cells (mt m) 36)) := b_al (b_al (b_al (Below.refl _ _) (Nat.le_refl _) _) (Nat.le_refl _) _) (Nat.le_refl _) _
  have XG := (((hg.alloc (.cells #[.pointer (some ⟨g, 0, none⟩)] 28)).alloc (.cells (sp s) 26)).alloc (.cells (mt m) 36))
  have CM := meets24_any (((h.alloc (.cells #[.pointer (some ⟨g, 0, none⟩)] 28)).alloc (.cells (sp s) 26)).alloc (.cells (mt m) 36)) (by omega) s m
  rw [hh] at CM
  have hlt := h.blocks
  have HH := Lib.hid hh
  have hgl := hg.lt
  have hbl := hm.mp.lt
  have hbg : g ≠ b := hm.mp.not_bx hg
  have hbf : w.heap.size ≠ b := by omega
  have hbs : w.heap.size + 1 ≠ b := by omega
  have hbm : w.heap.size + 1 + 1 ≠ b := by omega
  have HM1 := Lib.hid hm
  have hqg : g ≠ q.blk := (hm.blk_g hg hq).symm
  have hbq : b ≠ q.blk := (hm.blk_b hq).symm
  have hql : q.blk < w.heap.size := hlt q.blk (by simp; exact .inr (.inr ⟨q, hq, rfl⟩))
  have hqf : w.heap.size ≠ q.blk := by omega
  have hqs : w.heap.size + 1 ≠ q.blk := by omega
  have hqm : w.heap.size + 1 + 1 ≠ q.blk := by omega
  have HQ := Lib.hid (show q ∈ E ∧ q.key = s from ⟨hq, hk⟩)
  have ho := hm.own q hq
  have hql2 : q.l = allF y s := by rw [← hk]; exact hm.all q hq
  unfold En.v at ho
  rw [hql2] at ho
  have hle := allF_le y s
  have ha := hm.at_mem hq
  unfold En.v at ha
  rw [hql2, hk] at ha
  obtain ⟨n, hn⟩ : ∃ n, (allF y s).length = n := ⟨_, rfl⟩
  rw [hn] at ho ha hle
  have HA := Lib.hid ha
  have HN := Lib.hid hn
  have HO1 := Lib.hid ho
  clear ho ha hn hq hk hql2
  have eM : ∀ W : World, (binOp .eql 53 (.map (some b)) (.map none)).run Try.prog W = .ok (.bool false) W := fun W => run_eql_map_nil W _ _ _ (some b) Try.underlying53
  clear h hg hm hh hlt
  go_enter Try.func9, Try.ntmps9
  go_upto_region 5 with (first
    | go_skip
    | refine wpList_load_box (by rfl) 26 _ rfl (w.heap.size + 1) rfl 26 (sp s) _ XS Try.underlying26 rfl (by kernel_rfl) ?_
    | refine wpList_load_box (by rfl) 36 _ rfl (w.heap.size + 1 + 1) rfl 36 (mt m) _ XM Try.underlying36 rfl (by kernel_rfl) ?_
    | (go_at_call 20; (with_reducible refine CM.mono ?_); rintro e w1 ⟨rfl, hb1⟩; have XF1 := XF.below hb1; have XS1 := XS.below hb1; have XM1 := XM.below hb1; have B1 := b_cl B0 (Nat.le_refl _) hb1; have XG1 := XG.below hb1; have q1 := XF1.cell (k := 0) rfl; have q2 := XG1.cell (k := 19) (fc_map x (some b)); have HM := Lib.hid (HM1.out.below B1); have HS := Lib.hid (Ms.of_below (B := g :: b :: E.map (·.blk)) B1); have HO := Lib.hid (HO1.out.below B1); clear hb1 CM XF XS XM XG B0 B1 HM1 HO1))
  obtain ⟨wc, hwc⟩ : ∃ wc : World, wc = w1 := ⟨_, rfl⟩
  subst hwc
  have XFc := XF1
  have XSc := XS1
  have XMc := XM1
  have XGc := XG1
  clear q1 q2 XF1 XS1 XM1 XG1
  (try go_frame)
  refine wp_region_noPanic ?_
  refine wp_region_held_drew (S := fun w' => wc.heap.size ≤ w'.heap.size ∧ ∀ k, k ≠ q.blk → k < wc.heap.size → w'.heap[k]? = wc.heap[k]?) (by kernel_rfl) ?_ (fun hHeld => ?_)
  · exact ⟨Nat.le_refl _, fun _ _ _ => rfl⟩
  refine wpAnyH_take (i := 0) (oi := ⟨some 25, _, _, _, _, _⟩) (v := ?_) rfl (by kernel_rfl) (by kernel_rfl) (by kernel_rfl) (fun _ _ _ h => h) (Or.inl ⟨by rfl, ?_⟩) (by assumption) ?_
  rotate_left
  · (intro w' hSw; have q := (show Bx w' _ _ _ from (hSw.2 _ hqf XFc.lt).trans XFc).cell (k := 0) rfl; clear hSw; go_simp; try (with_reducible rfl))
  (try simp only [Act.put, List.setIfInBounds_toArray, List.set_cons_zero, List.set_cons_succ])
  refine wpAnyH_take (i := 1) (oi := ⟨some 26, _, _, _, _, _⟩) (v := ?_) rfl (by kernel_rfl) (by kernel_rfl) (by kernel_rfl) (fun _ _ _ h => h) (Or.inl ⟨by rfl, ?_⟩) (by assumption) ?_
  rotate_left
  · (intro w' hSw; clear hSw; go_simp; try (with_reducible rfl))
  (try simp only [Act.put, List.setIfInBounds_toArray, List.set_cons_zero, List.set_cons_succ])
  refine wpAnyH_take (i := 2) (oi := ⟨some 27, _, _, _, _, _⟩) (v := ?_) rfl (by kernel_rfl) (by kernel_rfl) (by kernel_rfl) (fun _ _ _ h => h) (Or.inl ⟨by rfl, ?_⟩) (by assumption) ?_
  rotate_left
  · (intro w' hSw; clear hSw; go_simp; try (with_reducible rfl))
  (try simp only [Act.put, List.setIfInBounds_toArray, List.set_cons_zero, List.set_cons_succ])
  refine wpAnyH_take (i := 3) (oi := ⟨some 28, _, _, _, _, _⟩) (v := ?_) rfl (by kernel_rfl) (by kernel_rfl) (by kernel_rfl) (fun _ _ _ h => h) (Or.inl ⟨by rfl, ?_⟩) (by assumption) ?_
  rotate_left
  · (intro w' hSw; have q := (show Bx w' _ _ _ from (hSw.2 _ hqg XGc.lt).trans XGc).cell (k := 19) (fc_map x (some b)); clear hSw; go_simp; try (with_reducible rfl))
  (try simp only [Act.put, List.setIfInBounds_toArray, List.set_cons_zero, List.set_cons_succ])
  refine wpAnyH_take (i := 4) (oi := ⟨some 29, _, _, _, _, _⟩) (v := .agg (sp s)) rfl (by kernel_rfl) (by kernel_rfl) (by kernel_rfl) (fun _ _ _ h => h) (Or.inl ⟨by rfl, fun w' hSw => exec_load_box (w.heap.size + 1) 26 (sp s) _ w' rfl rfl (show Bx w' _ _ _ from (hSw.2 _ hqs XSc.lt).trans XSc) Try.underlying26 rfl (by kernel_rfl)⟩) (by assumption) ?_
  (try simp only [Act.put, List.setIfInBounds_toArray, List.set_cons_zero, List.set_cons_succ])
  refine wpAnyH_take (i := 5) (oi := ⟨some 30, _, _, _, _, _⟩) (v := .slice (some ⟨q.blk, 0, none⟩) n q.cap) rfl (by kernel_rfl) (by kernel_rfl) (by kernel_rfl) (fun _ _ _ h => h) (Or.inl ⟨by rfl, fun w' hSw => exec_lookup w' rfl rfl rfl (by have hq := run_lookup_sp (HM.out.mp.kept (hSw.2 b hbq HM.out.mp.lt)) s; rw [HA.out] at hq; exact hq)⟩) (by assumption) ?_
  (try simp only [Act.put, List.setIfInBounds_toArray, List.set_cons_zero, List.set_cons_succ])
  refine wpAnyH_take (i := 6) (oi := ⟨some 31, _, _, _, _, _⟩) (v := .func (.func 22) #[] #[.pointer (some ⟨w.heap.size, 0, none⟩), .pointer (some ⟨w.heap.size + 1 + 1, 0, none⟩)]) rfl (by kernel_rfl) (by kernel_rfl) (by kernel_rfl) (fun _ _ _ h => h) (Or.inl ⟨by rfl, fun w' hSw => exec_makeFunc w' rfl (by simp) (by simp only [List.map_toArray, List.map_cons, List.map_nil]; rfl)⟩) (by assumption) ?_
  (try simp only [Act.put, List.setIfInBounds_toArray, List.set_cons_zero, List.set_cons_succ])
  refine wpAnyH_ready (rs := [7]) (by kernel_rfl) (by simp) ?_
  refine AllReadyH.cons (o := ⟨some 32, _, _, _, _, _⟩) rfl (fun K hK => ?_) AllReadyH.nil
  go_simp
  have hHs := hHeld.1
  have o4 := HO.out.kept (w' := wc.drew) fun _ _ => rfl
  (go_at_call 21; refine (deletem_of 22 #[.pointer (some ⟨w.heap.size, 0, none⟩), .pointer (some ⟨w.heap.size + 1 + 1, 0, none⟩)] (fun u => tf (Un x m u)) (enters_of Try.func22 (by kernel_rfl) rfl) q.blk q.blk n q.cap (allF y s) _ HN.out (by omega) o4 (fun W u h1 h2 => put1_any x u m (w.heap.size + 1 + 1) (w.heap.size) g (some b) W ((h1 _ hqm XMc.lt).trans XMc) ((h1 _ hqf XFc.lt).trans XFc) ((h1 _ hqg XGc.lt).trans XGc))).mono ?_; rintro e w5 ⟨i, rfl, o5, cs5, c5⟩)
  have HO5 := Lib.hid o5
  have HB5 : Hid (∀ n, n ≤ q.blk → n ≤ wc.heap.size → Below n wc w5) := Lib.hid (fun n n1 n2 => b_un (c5.bel n n1 n2))
  clear o5 o4
  go_wp2_with fail
  refine hK.out _ _ ⟨c5.size, fun k k1 k2 => c5.other k k1 k2⟩ (fun hHeld => ?_)
  clear hK K
  (try simp only [Act.put, List.setIfInBounds_toArray, List.set_cons_zero, List.set_cons_succ])
  refine wpAnyH_take (i := 8) (oi := ⟨some 7, _, _, _, _, _⟩) (v := ?_) rfl (by kernel_rfl) (by kernel_rfl) (by kernel_rfl) (fun _ _ _ h => h) (Or.inl ⟨by rfl, ?_⟩) (by assumption) ?_
  rotate_left
  · (intro w' hSw; clear hSw; go_simp; try (with_reducible rfl))
  (try simp only [Act.put, List.setIfInBounds_toArray, List.set_cons_zero, List.set_cons_succ])
  refine wpAnyH_done (by kernel_rfl) ?_ _
  refine NoPanic.normal ?_
  have hs5 := hHeld.1
  have XF5 : Bx w5 _ _ _ := (hHeld.2 _ hqf XFc.lt).trans XFc
  have XS5 : Bx w5 _ _ _ := (hHeld.2 _ hqs XSc.lt).trans XSc
  have XM5 : Bx w5 _ _ _ := (hHeld.2 _ hqm XMc.lt).trans XMc
  have XG5 : Bx w5 _ _ _ := (hHeld.2 _ hqg XGc.lt).trans XGc
  have HP5 := Lib.hid (HM.out.mp.kept (hHeld.2 b hbq HM.out.mp.lt))
  have HC5 : Hid (∀ k, k ≠ q.blk → k < wc.heap.size → w5.heap[k]? = wc.heap[k]?) := Lib.hid hHeld.2
  clear hHeld XFc XSc XMc XGc
  go_upto_region 6 with fail
  (try go_frame)
  refine wp_region_noPanic ?_
  refine wp_region_held_drew (S := fun w' => w5.heap.size ≤ w'.heap.size ∧ ∀ k, k ≠ q.blk → k ≠ b → k < w5.heap.size → w'.heap[k]? = w5.heap[k]?) (by kernel_rfl) ?_ (fun hHeld => ?_)
  · exact ⟨Nat.le_refl _, fun _ _ _ _ => rfl⟩
  refine wpAnyH_take (i := 0) (oi := ⟨some 33, _, _, _, _, _⟩) (v := ?_) rfl (by kernel_rfl) (by kernel_rfl) (by kernel_rfl) (fun _ _ _ h => h) (Or.inl ⟨by rfl, ?_⟩) (by assumption) ?_
  rotate_left
  · (intro w' hSw; have q := (show Bx w' _ _ _ from (hSw.2 _ hqf hbf XF5.lt).trans XF5).cell (k := 0) rfl; clear hSw; go_simp; try (with_reducible rfl))
  (try simp only [Act.put, List.setIfInBounds_toArray, List.set_cons_zero, List.set_cons_succ])
  refine wpAnyH_take (i := 1) (oi := ⟨some 34, _, _, _, _, _⟩) (v := ?_) rfl (by kernel_rfl) (by kernel_rfl) (by kernel_rfl) (fun _ _ _ h => h) (Or.inl ⟨by rfl, ?_⟩) (by assumption) ?_
  rotate_left
  · (intro w' hSw; clear hSw; go_simp; try (with_reducible rfl))
  (try simp only [Act.put, List.setIfInBounds_toArray, List.set_cons_zero, List.set_cons_succ])
  refine wpAnyH_take (i := 2) (oi := ⟨some 35, _, _, _, _, _⟩) (v := ?_) rfl (by kernel_rfl) (by kernel_rfl) (by kernel_rfl) (fun _ _ _ h => h) (Or.inl ⟨by rfl, ?_⟩) (by assumption) ?_
  rotate_left
  · (intro w' hSw; clear hSw; go_simp; try (with_reducible rfl))
  (try simp only [Act.put, List.setIfInBounds_toArray, List.set_cons_zero, List.set_cons_succ])
  refine wpAnyH_take (i := 3) (oi := ⟨some 36, _, _, _, _, _⟩) (v := ?_) rfl (by kernel_rfl) (by kernel_rfl) (by kernel_rfl) (fun _ _ _ h => h) (Or.inl ⟨by rfl, ?_⟩) (by assumption) ?_
  rotate_left
  · (intro w' hSw; have q := (show Bx w' _ _ _ from (hSw.2 _ hqg hbg XG5.lt).trans XG5).cell (k := 19) (fc_map x (some b)); clear hSw; go_simp; try (with_reducible rfl))
  (try simp only [Act.put, List.setIfInBounds_toArray, List.set_cons_zero, List.set_cons_succ])
  refine wpAnyH_take (i := 4) (oi := ⟨some 37, _, _, _, _, _⟩) (v := .agg (sp s)) rfl (by kernel_rfl) (by kernel_rfl) (by kernel_rfl) (fun _ _ _ h => h) (Or.inl ⟨by rfl, fun w' hSw => exec_load_box (w.heap.size + 1) 26 (sp s) _ w' rfl rfl (show Bx w' _ _ _ from (hSw.2 _ hqs hbs XS5.lt).trans XS5) Try.underlying26 rfl (by kernel_rfl)⟩) (by assumption) ?_
  (try simp only [Act.put, List.setIfInBounds_toArray, List.set_cons_zero, List.set_cons_succ])
  refine wpAnyH_take (i := 5) (oi := ⟨some 38, _, _, _, _, _⟩) (v := ?_) rfl (by kernel_rfl) (by kernel_rfl) (by kernel_rfl) (fun _ _ _ h => h) (Or.inl ⟨by rfl, ?_⟩) (by assumption) ?_
  rotate_left
  · (intro w' hSw; clear hSw; go_simp; try (with_reducible rfl))
  (try simp only [Act.put, List.setIfInBounds_toArray, List.set_cons_zero, List.set_cons_succ])
  refine wpAnyH_take (i := 6) (oi := ⟨some 39, _, _, _, _, _⟩) (v := .agg (mt m)) rfl (by kernel_rfl) (by kernel_rfl) (by kernel_rfl) (fun _ _ _ h => h) (Or.inl ⟨by rfl, fun w' hSw => exec_load_box (w.heap.size + 1 + 1) 36 (mt m) _ w' rfl rfl (show Bx w' _ _ _ from (hSw.2 _ hqm hbm XM5.lt).trans XM5) Try.underlying36 rfl (by kernel_rfl)⟩) (by assumption) ?_
  (try simp only [Act.put, List.setIfInBounds_toArray, List.set_cons_zero, List.set_cons_succ])
  refine wpAnyH_ready (rs := [7]) (by kernel_rfl) (by simp) ?_
  refine AllReadyH.cons (o := ⟨some 40, _, _, _, _, _⟩) rfl (fun K hK => ?_) AllReadyH.nil
  refine wp_one (k := mtW) 37 Try.underlying37 info_mtr (by decide) m (fill_mt m) _ rfl rfl ?_
  have XN : Bx (w5.drew.alloc (.cells (mtW.enc m).toArray mtW.T)) w5.heap.size mtW.T (mtW.enc m).toArray := Bx.new _ _ rfl
  refine hK.out _ _ ⟨by simp, fun k _ _ hk => heap_alloc_old w5.drew _ hk⟩ (fun hHeld => ?_)
  clear hK K
  (try simp only [Act.put, List.setIfInBounds_toArray, List.set_cons_zero, List.set_cons_succ])
  refine wpAnyH_ready (rs := [8]) (by kernel_rfl) (by simp) ?_
  refine AllReadyH.cons (o := ⟨some 41, _, _, _, _, _⟩) rfl (fun K hK => ?_) AllReadyH.nil
  refine wp_appG (k := mtW) 37 Try.underlying37 info_mtr rfl (by decide) _ _ rfl q.blk (.slice (some ⟨q.blk, 0, none⟩) i q.cap) (restF x (allF y s) m) rfl (OwnG.alloc (OwnG.drew HO5.out) _) (some ⟨w5.heap.size, 0, none⟩) 1 1 [m] rfl rfl (RdG.one XN) (fun e => by cases e) (fun e => by cases e) (by have h1 : (restF x (allF y s) m).length ≤ (allF y s).length := List.length_filter_le _ _; have h2 := allF_le y s; omega) (Nat.le_of_lt (Nat.lt_of_lt_of_le (show q.blk < w5.heap.size from (HO5.out.lt rfl).2) (by simp))) (fun v7 w7 o7 g7 a7 _ => ?_)
  have hz7 : w5.heap.size + 1 ≤ w7.heap.size := by have := g7.size; simpa using this
  have K7 : ∀ k, k ≠ q.blk → k < w5.heap.size → w7.heap[k]? = w5.heap[k]? := fun k k1 k2 => (g7.block k (by simp; omega) (fun e => k1 (Option.some.inj e))).trans (heap_alloc_old w5.drew _ k2)
  have HP7 := Lib.hid (HP5.out.kept ((g7.block b (by have := HP5.out.lt; simp; omega) (fun e => hbq (Option.some.inj e))).trans (heap_alloc_old w5.drew _ HP5.out.lt)))
  refine hK.out _ _ ⟨by omega, fun k k1 _ k2 => K7 k k1 k2⟩ (fun hHeld => ?_)
  clear hK K
  (try simp only [Act.put, List.setIfInBounds_toArray, List.set_cons_zero, List.set_cons_succ])
  refine wpAnyH_ready (rs := [9]) (by kernel_rfl) (by simp) ?_
  refine AllReadyH.cons (o := ⟨none, _, _, _, _, _⟩) rfl (fun K hK => ?_) AllReadyH.nil
  obtain ⟨q7, c7, hv7⟩ : ∃ q7 c7, v7 = .slice (some ⟨q7, 0, none⟩) (restF x (allF y s) m ++ [m]).length c7 := by
    rcases o7.form with ⟨h1, _⟩ | h1
    · simp at h1
    · exact h1
  subst hv7
  have hq7 := a7 q7 rfl
  refine wp_update_sp _ _ _ rfl b (E.map En.kv) s _ rfl rfl rfl HP7.out (fun w8 mp8 u8 => ?_)
  have HX8 := Lib.hid (u8.other g hbg)
  refine hK.out _ _ ⟨by rw [u8.size]; omega, fun k k1 k2 k3 => (u8.other k k2).trans (K7 k k1 k3)⟩ (fun hHeld => ?_)
  clear hK K
  (try simp only [Act.put])
  refine wpAnyH_done (by kernel_rfl) ?_ _
  refine NoPanic.normal ?_
  go_wp2
  go_ret
  have hq7' : q7 = q.blk ∨ wc.heap.size ≤ q7 := by
    rcases hq7 with h1 | h1
    · left; injection h1 with h1; exact h1.symm
    · right; have h1 : w5.drew.heap.size + 1 ≤ q7 := by simpa using h1
      have h1 : w5.heap.size + 1 ≤ q7 := h1
      omega
  have hq7b : q7 ≠ b := by
    have := HP5.out.lt
    have := HM.out.mp.lt
    rcases hq7' with h1 | h1
    · rw [h1]; exact fun e => hbq e.symm
    · omega
  obtain ⟨B', f1, f2⟩ := Fr.put_end (w8 := w8) (q7 := q7) (c7 := c7) HS.out HM.out HH.out rfl ((HX8.out).trans ((K7 g hqg XG5.lt).trans XG5)) mp8 ((o7.re).kept fun k hk => by injection hk with hk; have hk : q7 = k := hk; rw [← hk]; exact u8.other q7 hq7b) (by rw [u8.size]; omega)
    (hq7'.elim (fun e => .inl ⟨q, HQ.out.1, HQ.out.2, e.symm⟩) .inr)
    (fun k k1 k2 k3 => (u8.other k k1).trans ((K7 k (k2 q HQ.out.1 HQ.out.2) (by omega)).trans (HC5.out k (k2 q HQ.out.1 HQ.out.2) k3)))
    (fun n n1 n2 n3 => ((HB5.out n (n2 q HQ.out.1 HQ.out.2) n3).trans (b_al (b_dr (Below.refl _ _)) (by omega) _)).trans (((Below.refl n _).grown g7 (by simp; omega) (fun k e => by injection e with e; have e : q.blk = k := e; rw [← e]; exact n2 q HQ.out.1 HQ.out.2)).trans (u8.bel n n1)))
  exact ⟨rfl, B', f1, f2⟩

set_option maxRecDepth 100000 in
set_option maxHeartbeats 4000000 in
theorem put24_first {w : World} {g : Nat} {x : Nat → Int} (hg : Bx w g 55 (fc x none)) (s : Rc) (m : Mt) :
    Calls Try.prog 9 #[.pointer (some ⟨g, 0, none⟩), .agg (sp s), .agg (mt m)] w fun e w' => e = .returned (.bool true) ∧ ∃ B', Fr w' g x (putF x [] s m) B' ∧ Ms w [g] w' B' := by
  have h : Fr w g x [] [g] := .inl ⟨hg, rfl, rfl⟩
  obtain ⟨y, hy⟩ : ∃ y : List Ad, y = [] := ⟨_, rfl⟩
  rw [← hy] at h ⊢
  obtain ⟨E, hE⟩ : ∃ E : List En, E = [] := ⟨_, rfl⟩
  have hl : y.length ≤ 1000000000 := by rw [hy]; simp
  have hh : hitF x (allF y s) m = false := by rw [hy]; rfl
  have XF : Bx (((w.alloc (.cells #[.pointer (some ⟨g, 0, none⟩)] 28)).alloc (.cells (sp s) 26)).alloc (.cells (mt m) 36)) (w.heap.size) 28 #[.pointer (some ⟨g, 0, none⟩)] := ((Bx.new (W := w) _ _ rfl).alloc _).alloc _
  have XS : Bx (((w.alloc (.cells #[.pointer (some ⟨g, 0, none⟩)] 28)).alloc (.cells (sp s) 26)).alloc (.cells (mt m) 36)) (w.heap.size + 1) 26 (sp s) := (Bx.new (W := (w.alloc (.cells #[.pointer (some ⟨g, 0, none⟩)] 28))) _ _ (by simp)).alloc _
  have XM : Bx (((w.alloc (.cells #[.pointer (some ⟨g, 0, none⟩)] 28)).alloc (.cells (sp s) 26)).alloc (.cells (mt m) 36)) (w.heap.size + 1 + 1) 36 (mt m) := Bx.new (W := ((w.alloc (.cells #[.pointer (some ⟨g, 0, none⟩)] 28)).alloc (.cells (sp s) 26))) _ _ (by simp)
  have B0 : Below w.heap.size w (((w.alloc (.cells #[.pointer (some ⟨g, 0, none⟩)] 28)).alloc (.cells (sp s) 26)).alloc (.cells (mt m) 36)) := b_al (b_al (b_al (Below.refl _ _) (Nat.le_refl _) _) (Nat.le_refl _) _) (Nat.le_refl _) _
  have XG := (((hg.alloc (.cells #[.pointer (some ⟨g, 0, none⟩)] 28)).alloc (.cells (sp s) 26)).alloc (.cells (mt m) 36))
  have CM := meets24_any (((h.alloc (.cells #[.pointer (some ⟨g, 0, none⟩)] 28)).alloc (.cells (sp s) 26)).alloc (.cells (mt m) 36)) (by omega) s m
  rw [hh] at CM
  have hlt := h.blocks
  have HH := Lib.hid hh
  have hgl := hg.lt
  have HA := Lib.hid (show atK (E.map En.kv) s = none by rw [hE]; rfl)
  have HA0 := Lib.hid (show allF y s = [] by rw [hy]; rfl)
  have HY := Lib.hid hy
  have HE := Lib.hid hE
  have hmm := @run_makeMap Try.prog
  have eM : ∀ W : World, (binOp .eql 53 (.map none) (.map none)).run Try.prog W = .ok (.bool true) W := fun W => run_eql_map_nil W _ _ _ none Try.underlying53
  clear h hg hh hlt hy hE
  go_enter Try.func9, Try.ntmps9
  go_upto_region 5 with (first
    | go_skip
    | refine wpList_load_box (by rfl) 26 _ rfl (w.heap.size + 1) rfl 26 (sp s) _ XS Try.underlying26 rfl (by kernel_rfl) ?_
    | refine wpList_load_box (by rfl) 36 _ rfl (w.heap.size + 1 + 1) rfl 36 (mt m) _ XM Try.underlying36 rfl (by kernel_rfl) ?_
    | (go_at_call 20; (with_reducible refine CM.mono ?_); rintro e w1 ⟨rfl, hb1⟩; have XF1 := XF.below hb1; have XS1 := XS.below hb1; have XM1 := XM.below hb1; have B1 := b_cl B0 (Nat.le_refl _) hb1; have XG1 := XG.below hb1; have HB1 := Lib.hid B1; have q1 := XF1.cell (k := 0) rfl; have q2 := XG1.cell (k := 19) (fc_map x none); clear hb1 CM XF XS XM XG B0 B1)
    | (refine wpList_store_fld (by rfl) 53 _ _ rfl g 19 (.map (some w1.heap.size)) rfl rfl rfl 55 (fc x none) (XG1.alloc _) (by rw [fc_size]; decide) (by kernel_rfl) (fun w2 u2 => ?_); have XF2 := u2.bx (XF1.alloc _) (by omega); have XS2 := u2.bx (XS1.alloc _) (by omega); have XM2 := u2.bx (XM1.alloc _) (by omega)))
  have hs1 : w.heap.size + 1 + 1 < w1.heap.size := XM1.lt
  have hs2 : w2.heap.size = w1.heap.size + 1 := by rw [u2.size]; simp
  have XG2 : Bx w2 g 55 (fc x (some w1.heap.size)) := u2.box
  have hmp : Mp w2 w1.heap.size [] := (Mp.new w1).kept (u2.other _ (by omega))
  have HM : Hid (FrM w2 w1.heap.size E y) := Lib.hid (by rw [HE.out, HY.out]; exact FrM.new hmp)
  have HS : Hid (Ms w [g] w2 (g :: w1.heap.size :: E.map (·.blk))) := Lib.hid (by
    rw [HE.out]
    refine ⟨by have := HB1.out.size; omega, fun k hk hl => ?_, fun n hn hl => ?_, fun k hk => ?_⟩
    · rw [List.mem_singleton] at hk
      exact (u2.other k hk).trans ((heap_alloc_old w1 _ (Nat.lt_of_lt_of_le hl HB1.out.size)).trans (HB1.out.block k hl))
    · exact (b_al (HB1.out.mono hl) hl _).trans (u2.bel n (hn g (by simp)))
    · simp at hk
      rcases hk with rfl | rfl
      · exact .inl (by simp)
      · exact .inr (by omega))
  have hbg : g ≠ w1.heap.size := by omega
  have hbf : w.heap.size ≠ w1.heap.size := by omega
  have hbs : w.heap.size + 1 ≠ w1.heap.size := by omega
  have hbm : w.heap.size + 1 + 1 ≠ w1.heap.size := by omega
  clear u2 XF1 XS1 XM1 XG1 HB1 hmp hmm eM
  obtain ⟨wc, hwc⟩ : ∃ wc : World, wc = w2 := ⟨_, rfl⟩
  subst hwc
  have XFc := XF2
  have XSc := XS2
  have XMc := XM2
  have XGc := XG2
  clear q1 q2 XF2 XS2 XM2 XG2
  (try go_frame)
  refine wp_region_noPanic ?_
  refine wp_region_held_drew (S := fun w' => Below wc.heap.size wc w') (by kernel_rfl) ?_ (fun hHeld => ?_)
  · exact b_dr (Below.refl _ _)
  refine wpAnyH_take (i := 0) (oi := ⟨some 25, _, _, _, _, _⟩) (v := ?_) rfl (by kernel_rfl) (by kernel_rfl) (by kernel_rfl) (fun _ _ _ h => h) (Or.inl ⟨by rfl, ?_⟩) (by assumption) ?_
  rotate_left
  · (intro w' hSw; have q := (XFc.keep hSw XFc.lt).cell (k := 0) rfl; clear hSw; go_simp; try (with_reducible rfl))
  (try simp only [Act.put, List.setIfInBounds_toArray, List.set_cons_zero, List.set_cons_succ])
  refine wpAnyH_take (i := 1) (oi := ⟨some 26, _, _, _, _, _⟩) (v := ?_) rfl (by kernel_rfl) (by kernel_rfl) (by kernel_rfl) (fun _ _ _ h => h) (Or.inl ⟨by rfl, ?_⟩) (by assumption) ?_
  rotate_left
  · (intro w' hSw; clear hSw; go_simp; try (with_reducible rfl))
  (try simp only [Act.put, List.setIfInBounds_toArray, List.set_cons_zero, List.set_cons_succ])
  refine wpAnyH_take (i := 2) (oi := ⟨some 27, _, _, _, _, _⟩) (v := ?_) rfl (by kernel_rfl) (by kernel_rfl) (by kernel_rfl) (fun _ _ _ h => h) (Or.inl ⟨by rfl, ?_⟩) (by assumption) ?_
  rotate_left
  · (intro w' hSw; clear hSw; go_simp; try (with_reducible rfl))
  (try simp only [Act.put, List.setIfInBounds_toArray, List.set_cons_zero, List.set_cons_succ])
  refine wpAnyH_take (i := 3) (oi := ⟨some 28, _, _, _, _, _⟩) (v := ?_) rfl (by kernel_rfl) (by kernel_rfl) (by kernel_rfl) (fun _ _ _ h => h) (Or.inl ⟨by rfl, ?_⟩) (by assumption) ?_
  rotate_left
  · (intro w' hSw; have q := (XGc.keep hSw XGc.lt).cell (k := 19) (fc_map x (some (w1.heap.size))); clear hSw; go_simp; try (with_reducible rfl))
  (try simp only [Act.put, List.setIfInBounds_toArray, List.set_cons_zero, List.set_cons_succ])
  refine wpAnyH_take (i := 4) (oi := ⟨some 29, _, _, _, _, _⟩) (v := .agg (sp s)) rfl (by kernel_rfl) (by kernel_rfl) (by kernel_rfl) (fun _ _ _ h => h) (Or.inl ⟨by rfl, fun w' hSw => exec_load_box (w.heap.size + 1) 26 (sp s) _ w' rfl rfl (XSc.keep hSw XSc.lt) Try.underlying26 rfl (by kernel_rfl)⟩) (by assumption) ?_
  (try simp only [Act.put, List.setIfInBounds_toArray, List.set_cons_zero, List.set_cons_succ])
  refine wpAnyH_take (i := 5) (oi := ⟨some 30, _, _, _, _, _⟩) (v := .slice none 0 0) rfl (by kernel_rfl) (by kernel_rfl) (by kernel_rfl) (fun _ _ _ h => h) (Or.inl ⟨by rfl, fun w' hSw => exec_lookup w' rfl rfl rfl (by have hq := run_lookup_sp (HM.out.mp.below hSw) s; rw [HA.out] at hq; exact hq)⟩) (by assumption) ?_
  (try simp only [Act.put, List.setIfInBounds_toArray, List.set_cons_zero, List.set_cons_succ])
  refine wpAnyH_take (i := 6) (oi := ⟨some 31, _, _, _, _, _⟩) (v := .func (.func 22) #[] #[.pointer (some ⟨w.heap.size, 0, none⟩), .pointer (some ⟨w.heap.size + 1 + 1, 0, none⟩)]) rfl (by kernel_rfl) (by kernel_rfl) (by kernel_rfl) (fun _ _ _ h => h) (Or.inl ⟨by rfl, fun w' hSw => exec_makeFunc w' rfl (by simp) (by simp only [List.map_toArray, List.map_cons, List.map_nil]; rfl)⟩) (by assumption) ?_
  (try simp only [Act.put, List.setIfInBounds_toArray, List.set_cons_zero, List.set_cons_succ])
  refine wpAnyH_ready (rs := [7]) (by kernel_rfl) (by simp) ?_
  refine AllReadyH.cons (o := ⟨some 32, _, _, _, _, _⟩) rfl (fun K hK => ?_) AllReadyH.nil
  go_simp
  (go_at_call 21; refine (deletem_nil _ _).mono ?_; rintro e w5 ⟨rfl, e5⟩)
  have hHx : Below wc.heap.size wc w5 := e5 ▸ hHeld
  clear e5
  go_wp2_with fail
  refine hK.out _ _ hHx (fun hHeld => ?_)
  clear hK K
  (try simp only [Act.put, List.setIfInBounds_toArray, List.set_cons_zero, List.set_cons_succ])
  refine wpAnyH_take (i := 8) (oi := ⟨some 7, _, _, _, _, _⟩) (v := ?_) rfl (by kernel_rfl) (by kernel_rfl) (by kernel_rfl) (fun _ _ _ h => h) (Or.inl ⟨by rfl, ?_⟩) (by assumption) ?_
  rotate_left
  · (intro w' hSw; clear hSw; go_simp; try (with_reducible rfl))
  (try simp only [Act.put, List.setIfInBounds_toArray, List.set_cons_zero, List.set_cons_succ])
  refine wpAnyH_done (by kernel_rfl) ?_ _
  refine NoPanic.normal ?_
  have hs5 := hHeld.size
  have XF5 := XFc.below hHeld
  have XS5 := XSc.below hHeld
  have XM5 := XMc.below hHeld
  have XG5 := XGc.below hHeld
  have HP5 := Lib.hid (HM.out.mp.below hHeld)
  have HC5 := Lib.hid hHeld
  clear hHeld XFc XSc XMc XGc
  go_upto_region 6 with fail
  (try go_frame)
  refine wp_region_noPanic ?_
  refine wp_region_held_drew (S := fun w' => w5.heap.size ≤ w'.heap.size ∧ ∀ k, k ≠ w1.heap.size → k ≠ w1.heap.size → k < w5.heap.size → w'.heap[k]? = w5.heap[k]?) (by kernel_rfl) ?_ (fun hHeld => ?_)
  · exact ⟨Nat.le_refl _, fun _ _ _ _ => rfl⟩
  refine wpAnyH_take (i := 0) (oi := ⟨some 33, _, _, _, _, _⟩) (v := ?_) rfl (by kernel_rfl) (by kernel_rfl) (by kernel_rfl) (fun _ _ _ h => h) (Or.inl ⟨by rfl, ?_⟩) (by assumption) ?_
  rotate_left
  · (intro w' hSw; have q := (show Bx w' _ _ _ from (hSw.2 _ hbf hbf XF5.lt).trans XF5).cell (k := 0) rfl; clear hSw; go_simp; try (with_reducible rfl))
  (try simp only [Act.put, List.setIfInBounds_toArray, List.set_cons_zero, List.set_cons_succ])
  refine wpAnyH_take (i := 1) (oi := ⟨some 34, _, _, _, _, _⟩) (v := ?_) rfl (by kernel_rfl) (by kernel_rfl) (by kernel_rfl) (fun _ _ _ h => h) (Or.inl ⟨by rfl, ?_⟩) (by assumption) ?_
  rotate_left
  · (intro w' hSw; clear hSw; go_simp; try (with_reducible rfl))
  (try simp only [Act.put, List.setIfInBounds_toArray, List.set_cons_zero, List.set_cons_succ])
  refine wpAnyH_take (i := 2) (oi := ⟨some 35, _, _, _, _, _⟩) (v := ?_) rfl (by kernel_rfl) (by kernel_rfl) (by kernel_rfl) (fun _ _ _ h => h) (Or.inl ⟨by rfl, ?_⟩) (by assumption) ?_
  rotate_left
  · (intro w' hSw; clear hSw; go_simp; try (with_reducible rfl))
  (try simp only [Act.put, List.setIfInBounds_toArray, List.set_cons_zero, List.set_cons_succ])
  refine wpAnyH_take (i := 3) (oi := ⟨some 36, _, _, _, _, _⟩) (v := ?_) rfl (by kernel_rfl) (by kernel_rfl) (by kernel_rfl) (fun _ _ _ h => h) (Or.inl ⟨by rfl, ?_⟩) (by assumption) ?_
  rotate_left
  · (intro w' hSw; have q := (show Bx w' _ _ _ from (hSw.2 _ hbg hbg XG5.lt).trans XG5).cell (k := 19) (fc_map x (some (w1.heap.size))); clear hSw; go_simp; try (with_reducible rfl))
  (try simp only [Act.put, List.setIfInBounds_toArray, List.set_cons_zero, List.set_cons_succ])
  refine wpAnyH_take (i := 4) (oi := ⟨some 37, _, _, _, _, _⟩) (v := .agg (sp s)) rfl (by kernel_rfl) (by kernel_rfl) (by kernel_rfl) (fun _ _ _ h => h) (Or.inl ⟨by rfl, fun w' hSw => exec_load_box (w.heap.size + 1) 26 (sp s) _ w' rfl rfl (show Bx w' _ _ _ from (hSw.2 _ hbs hbs XS5.lt).trans XS5) Try.underlying26 rfl (by kernel_rfl)⟩) (by assumption) ?_
  (try simp only [Act.put, List.setIfInBounds_toArray, List.set_cons_zero, List.set_cons_succ])
  refine wpAnyH_take (i := 5) (oi := ⟨some 38, _, _, _, _, _⟩) (v := ?_) rfl (by kernel_rfl) (by kernel_rfl) (by kernel_rfl) (fun _ _ _ h => h) (Or.inl ⟨by rfl, ?_⟩) (by assumption) ?_
  rotate_left
  · (intro w' hSw; clear hSw; go_simp; try (with_reducible rfl))
  (try simp only [Act.put, List.setIfInBounds_toArray, List.set_cons_zero, List.set_cons_succ])
  refine wpAnyH_take (i := 6) (oi := ⟨some 39, _, _, _, _, _⟩) (v := .agg (mt m)) rfl (by kernel_rfl) (by kernel_rfl) (by kernel_rfl) (fun _ _ _ h => h) (Or.inl ⟨by rfl, fun w' hSw => exec_load_box (w.heap.size + 1 + 1) 36 (mt m) _ w' rfl rfl (show Bx w' _ _ _ from (hSw.2 _ hbm hbm XM5.lt).trans XM5) Try.underlying36 rfl (by kernel_rfl)⟩) (by assumption) ?_
  (try simp only [Act.put, List.setIfInBounds_toArray, List.set_cons_zero, List.set_cons_succ])
  refine wpAnyH_ready (rs := [7]) (by kernel_rfl) (by simp) ?_
  refine AllReadyH.cons (o := ⟨some 40, _, _, _, _, _⟩) rfl (fun K hK => ?_) AllReadyH.nil
  refine wp_one (k := mtW) 37 Try.underlying37 info_mtr (by decide) m (fill_mt m) _ rfl rfl ?_
  have XN : Bx (w5.drew.alloc (.cells (mtW.enc m).toArray mtW.T)) w5.heap.size mtW.T (mtW.enc m).toArray := Bx.new _ _ rfl
  refine hK.out _ _ ⟨by simp, fun k _ _ hk => heap_alloc_old w5.drew _ hk⟩ (fun hHeld => ?_)
  clear hK K
  (try simp only [Act.put, List.setIfInBounds_toArray, List.set_cons_zero, List.set_cons_succ])
  refine wpAnyH_ready (rs := [8]) (by kernel_rfl) (by simp) ?_
  refine AllReadyH.cons (o := ⟨some 41, _, _, _, _, _⟩) rfl (fun K hK => ?_) AllReadyH.nil
  refine wp_appG (k := mtW) 37 Try.underlying37 info_mtr rfl (by decide) _ _ rfl w5.heap.size (.slice none 0 0) [] rfl (OwnG.nil _ _ _) (some ⟨w5.heap.size, 0, none⟩) 1 1 [m] rfl rfl (RdG.one XN) (fun e => by cases e) (fun e => by cases e) (by simp) (by simp) (fun v7 w7 o7 g7 a7 _ => ?_)
  have hz7 : w5.heap.size + 1 ≤ w7.heap.size := by have := g7.size; simpa using this
  have K7 : ∀ k, k ≠ w1.heap.size → k < w5.heap.size → w7.heap[k]? = w5.heap[k]? := fun k k1 k2 => (g7.block k (by simp; omega) (fun e => by cases e)).trans (heap_alloc_old w5.drew _ k2)
  have HP7 := Lib.hid (HP5.out.kept ((g7.block (w1.heap.size) (by have := HP5.out.lt; simp; omega) (fun e => by cases e)).trans (heap_alloc_old w5.drew _ HP5.out.lt)))
  refine hK.out _ _ ⟨by omega, fun k k1 _ k2 => K7 k k1 k2⟩ (fun hHeld => ?_)
  clear hK K
  (try simp only [Act.put, List.setIfInBounds_toArray, List.set_cons_zero, List.set_cons_succ])
  refine wpAnyH_ready (rs := [9]) (by kernel_rfl) (by simp) ?_
  refine AllReadyH.cons (o := ⟨none, _, _, _, _, _⟩) rfl (fun K hK => ?_) AllReadyH.nil
  obtain ⟨q7, c7, hv7⟩ : ∃ q7 c7, v7 = .slice (some ⟨q7, 0, none⟩) ([] ++ [m]).length c7 := by
    rcases o7.form with ⟨h1, _⟩ | h1
    · simp at h1
    · exact h1
  subst hv7
  have hq7 := a7 q7 rfl
  refine wp_update_sp _ _ _ rfl (w1.heap.size) (E.map En.kv) s _ rfl rfl rfl HP7.out (fun w8 mp8 u8 => ?_)
  have HX8 := Lib.hid (u8.other g hbg)
  refine hK.out _ _ ⟨by rw [u8.size]; omega, fun k k1 k2 k3 => (u8.other k k2).trans (K7 k k1 k3)⟩ (fun hHeld => ?_)
  clear hK K
  (try simp only [Act.put])
  refine wpAnyH_done (by kernel_rfl) ?_ _
  refine NoPanic.normal ?_
  go_wp2
  go_ret
  have hq7' : wc.heap.size ≤ q7 := by
    rcases hq7 with h1 | h1
    · cases h1
    · have h1 : w5.drew.heap.size + 1 ≤ q7 := by simpa using h1
      have h1 : w5.heap.size + 1 ≤ q7 := h1
      omega
  have hq7b : q7 ≠ w1.heap.size := by have := HM.out.mp.lt; omega
  have HR : restF x (allF y s) m ++ [m] = [] ++ [m] := by rw [HA0.out]; rfl
  obtain ⟨B', f1, f2⟩ := Fr.put_end (w8 := w8) (q7 := q7) (c7 := c7) (s := s) (m := m) (n7 := ([] ++ [m] : List Mt).length) HS.out HM.out HH.out (by rw [HR]) ((HX8.out).trans ((K7 g hbg XG5.lt).trans XG5)) mp8 (by rw [HR]; exact (o7.re).kept fun k hk => by injection hk with hk; have hk : q7 = k := hk; rw [← hk]; exact u8.other q7 hq7b) (by rw [u8.size]; omega)
    (.inr hq7')
    (fun k k1 k2 k3 => (u8.other k k1).trans ((K7 k k1 (by omega)).trans (HC5.out.block k k3)))
    (fun n n1 n2 n3 => ((HC5.out.mono n3).trans (b_al (b_dr (Below.refl _ _)) (by omega) _)).trans (((Below.refl n _).grown g7 (by simp; omega) (fun k e => by cases e)).trans (u8.bel n n1)))
  exact ⟨rfl, B', f1, f2⟩

/-- Put: whether it did, and what the front has then. -/
theorem put24_any {w : World} {g : Nat} {x : Nat → Int} {y : List Ad} {B : List Nat} (h : Fr w g x y B) (hl : y.length ≤ 1000000000) (s : Rc) (m : Mt) :
    Calls Try.prog 9 #[.pointer (some ⟨g, 0, none⟩), .agg (sp s), .agg (mt m)] w fun e w' => e = .returned (.bool (!hitF x (allF y s) m)) ∧ ∃ B', Fr w' g x (putF x y s m) B' ∧ Ms w B w' B' := by
  cases hh : hitF x (allF y s) m with
  | true => exact (put24_hit h hl s m hh).mono fun e w' ⟨he, hb⟩ => ⟨he, B, by rw [putF_hit hh]; exact h.below hb, Ms.of_below hb⟩
  | false =>
    rcases h with ⟨h1, rfl, rfl⟩ | ⟨b, E, h1, h2, rfl⟩
    · exact put24_first h1 s m
    · rcases h2.find s with ⟨q, hq, hk⟩ | ⟨ha, ha0⟩
      · exact put24_there h1 h2 hl s m hh q hq hk
      · exact put24_miss h1 h2 hl s m hh ha ha0

end Go.Proofs.Ytglgifhpacmhiaa
