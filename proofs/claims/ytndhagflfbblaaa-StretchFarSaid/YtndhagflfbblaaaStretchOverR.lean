/- What the document's Over of layer 14 returns. Conditions: none. -/
import Derived.Test.YtndhagflfbblaaaRows
import Derived.Test.YtndhagflfbblaaaBase
import Derived.Test.YtndhagflfbblaaaBookRow
import Derived.Test.YtndhagflfbblaaaBookLim
import Derived.Test.YtndhagflfbblaaaBookMayR
import Derived.Test.YtndhagflfbblaaaBookLaws
import Derived.Test.YtndhagflfbblaaaBox
import Derived.Test.YtndhagflfbblaaaSpellMath
import Derived.Test.YtndhagflfbblaaaMeterMath
import Derived.Test.YtndhagflfbblaaaMeterSt
import Derived.Test.YtndhagflfbblaaaMeterChk
import Derived.Test.YtndhagflfbblaaaMeterMayR
import Derived.Test.YtndhagflfbblaaaMeterRStep
import Derived.Test.YtndhagflfbblaaaStretchMath
import Derived.Test.YtndhagflfbblaaaStretchOn
import Derived.Test.YtndhagflfbblaaaStretchSt
import Derived.Test.YtndhagflfbblaaaStretchFarM
import Derived.Test.YtndhagflfbblaaaStretchChk
import Derived.Test.YtndhagflfbblaaaStretchOnC
import Derived.Test.YtndhagflfbblaaaStretchFirst
import Derived.Test.YtndhagflfbblaaaStretchOverC
import Derived.Test.YtndhagflfbblaaaStretchLeast
import Derived.Test.YtndhagflfbblaaaStretchStR
import Derived.Test.YtndhagflfbblaaaStretchOverG
import Derived.WalkKit
import Derived.WalkSpells
import Derived.WalkSmall
import Derived.Below
import Derived.Lib.Hide
import Derived.Shelf.Abstract
import Derived.BigQuiet
import Derived.OwnWalk
import Derived.Outline
import Derived.Deep.DeepCutAuto
import Derived.StillTailTactics
import Derived.Maps.RangeWalk
import Derived.OrdersHeld
import Derived.Deep.RegionHeld3
import Derived.Great.BuildSlice
namespace Go.Proofs.Ytndhagflfbblaaa
open Go.RowKit

set_option maxRecDepth 100000 in
set_option maxHeartbeats 8000000 in
open Classical in
theorem refover14_any (x : Nat → Int) (m : Mt) (k n : Int) (w : World) :
    Calls Try.prog 8 #[.agg (bk x), .agg (mt m), .int .i64 k, .int .i64 n] w fun e w' => e = .returned (.tuple #[.agg (mt (overV x m k n).1), .agg (tn (overV x m k n).2.1), .int .i64 (overV x m k n).2.2]) ∧ Below w.heap.size w w' := by
  have C1 := fun W => refmay_any x W
  have C2 := fun W => refmay13_any m W
  have C := RfS.new w x m
  by_cases hx : May x
  case neg =>
    have he : err14 x m k = 14 := by unfold err14; rw [if_neg hx]
    have hv : overV x m k n = (.zero, zeroF, 14) := by unfold overV; rw [he, if_neg (by decide)]
    rw [hv]
    simp only [if_neg hx] at C1
    clear hx hv he C2
    go_enter Try.func8, Try.ntmps8
    go_upto_region 3 with (first | refine wpList_load_bk (by rfl) 23 _ rfl _ _ rfl x _ C.rd Try.underlying23 rfl (by kernel_rfl) ?_ | (go_at_call 19; (with_reducible refine (C1 _).mono ?_); rintro e w1 ⟨rfl, hb1⟩; replace C := C.below hb1; clear hb1))
    (try go_frame)
    have CD := C.drew
    refine wp_region_noPanic ?_
    refine wp_region_held_drew (S := fun w' => Bx w' (w.heap.size + 4) 28 (tn zeroF) ∧ Bx w' (w.heap.size + 1) 25 (mt m)) (by kernel_rfl) ?_ (fun hHeld => ?_)
    · exact ⟨CD.fst, CD.cur⟩
    refine wpAnyH_take (i := 0) (oi := ⟨some 21, _, _, _, _, _⟩) (v := .agg (mt .zero)) rfl (by kernel_rfl) (by kernel_rfl) (by kernel_rfl) (fun _ _ _ h => h) (Or.inl ⟨by rfl, fun w' hSw => exec_build _ _ rfl (by kernel_rfl)⟩) (by assumption) ?_
    (try simp only [Act.put, List.setIfInBounds_toArray, List.set_cons_zero, List.set_cons_succ])
    refine wpAnyH_take (i := 1) (oi := ⟨some 22, _, _, _, _, _⟩) (v := .agg (tn zeroF)) rfl (by kernel_rfl) (by kernel_rfl) (by kernel_rfl) (fun _ _ _ h => h) (Or.inl ⟨by rfl, fun w' hSw => exec_load_box (w.heap.size + 4) 28 _ _ w' rfl rfl hSw.1 Try.underlying28 rfl (by kernel_rfl)⟩) (by assumption) ?_
    (try simp only [Act.put, List.setIfInBounds_toArray, List.set_cons_zero, List.set_cons_succ])
    refine wpAnyH_ready (rs := [2]) (by kernel_rfl) (by simp) ?_
    refine AllReadyH.cons (o := ⟨none, _, _, _, _, _⟩) rfl (fun K hK => ?_) AllReadyH.nil
    refine wp_store_any 25 _ _ rfl (w.heap.size + 2) (mt .zero) rfl rfl 25 (mt .zero) CD.res (by kernel_rfl) rfl (mt_one _) (fun w6 u => ?_)
    refine hK.out _ _ ⟨u.bx hHeld.1 (by omega), u.bx hHeld.2 (by omega)⟩ (fun hHeld => ?_)
    clear hK K
    (try simp only [Act.put])
    refine wpAnyH_ready (rs := [3]) (by kernel_rfl) (by simp) ?_
    refine AllReadyH.cons (o := ⟨none, _, _, _, _, _⟩) rfl (fun K hK => ?_) AllReadyH.nil
    refine wp_store_any 28 _ _ rfl (w.heap.size + 3) (tn zeroF) rfl rfl 28 (tn zeroF) (u.bx CD.ref (by omega)) (by kernel_rfl) rfl (tn_one _) (fun w7 u2 => ?_)
    refine hK.out _ _ ⟨u2.bx hHeld.1 (by omega), u2.bx hHeld.2 (by omega)⟩ (fun hHeld => ?_)
    clear hK K
    (try simp only [Act.put])
    refine wpAnyH_take (i := 4) (oi := ⟨some 10, _, _, _, _, _⟩) (v := ?_) rfl (by kernel_rfl) (by kernel_rfl) (by kernel_rfl) (fun _ _ _ h => h) (Or.inl ⟨by rfl, ?_⟩) (by assumption) ?_
    rotate_left
    · (intro w' hSw; clear hSw; go_simp; try (with_reducible rfl))
    (try simp only [Act.put, List.setIfInBounds_toArray, List.set_cons_zero, List.set_cons_succ])
    refine wpAnyH_done (by kernel_rfl) ?_ _
    refine NoPanic.normal ?_
    go_wp2_with fail
    refine bodyPost_ret (results_box22 Try.results8 _ _ (w.heap.size + 2) (w.heap.size + 3) 25 28 (mt .zero) (tn zeroF) _ _ (.int .i64 14) rfl (u2.bx u.box (by omega)) rfl u2.box rfl Try.underlying25 rfl (by kernel_rfl) Try.underlying28 rfl (by kernel_rfl)) rfl ⟨rfl, ?_⟩
    exact (CD.bel.trans (u.bel _ (by omega))).trans (u2.bel _ (by omega))
  simp only [if_pos hx] at C1
  by_cases hm : MayM m
  case neg =>
    have he : err14 x m k = 1 := by unfold err14; rw [if_pos hx, if_neg hm]
    have hv : overV x m k n = (.zero, zeroF, 1) := by unfold overV; rw [he, if_neg (by decide)]
    rw [hv]
    simp only [if_neg hm] at C2
    clear hx hm hv he
    go_enter Try.func8, Try.ntmps8
    go_upto_region 5 with (first | refine wpList_load_bk (by rfl) 23 _ rfl _ _ rfl x _ C.rd Try.underlying23 rfl (by kernel_rfl) ?_ | refine wpList_load_box (by rfl) 25 _ rfl (w.heap.size + 1) rfl 25 (mt m) _ C.cur Try.underlying25 rfl (by kernel_rfl) ?_ | (go_at_call 19; (with_reducible refine (C1 _).mono ?_); rintro e w1 ⟨rfl, hb1⟩; replace C := C.below hb1; clear hb1) | (go_at_call 14; (with_reducible refine (C2 _).mono ?_); rintro e w2 ⟨rfl, hb2⟩; replace C := C.below hb2; clear hb2))
    (try go_frame)
    have CD := C.drew
    refine wp_region_noPanic ?_
    refine wp_region_held_drew (S := fun w' => Bx w' (w.heap.size + 4) 28 (tn zeroF) ∧ Bx w' (w.heap.size + 1) 25 (mt m)) (by kernel_rfl) ?_ (fun hHeld => ?_)
    · exact ⟨CD.fst, CD.cur⟩
    refine wpAnyH_take (i := 0) (oi := ⟨some 26, _, _, _, _, _⟩) (v := .agg (mt .zero)) rfl (by kernel_rfl) (by kernel_rfl) (by kernel_rfl) (fun _ _ _ h => h) (Or.inl ⟨by rfl, fun w' hSw => exec_build _ _ rfl (by kernel_rfl)⟩) (by assumption) ?_
    (try simp only [Act.put, List.setIfInBounds_toArray, List.set_cons_zero, List.set_cons_succ])
    refine wpAnyH_take (i := 1) (oi := ⟨some 27, _, _, _, _, _⟩) (v := .agg (tn zeroF)) rfl (by kernel_rfl) (by kernel_rfl) (by kernel_rfl) (fun _ _ _ h => h) (Or.inl ⟨by rfl, fun w' hSw => exec_load_box (w.heap.size + 4) 28 _ _ w' rfl rfl hSw.1 Try.underlying28 rfl (by kernel_rfl)⟩) (by assumption) ?_
    (try simp only [Act.put, List.setIfInBounds_toArray, List.set_cons_zero, List.set_cons_succ])
    refine wpAnyH_ready (rs := [2]) (by kernel_rfl) (by simp) ?_
    refine AllReadyH.cons (o := ⟨none, _, _, _, _, _⟩) rfl (fun K hK => ?_) AllReadyH.nil
    refine wp_store_any 25 _ _ rfl (w.heap.size + 2) (mt .zero) rfl rfl 25 (mt .zero) CD.res (by kernel_rfl) rfl (mt_one _) (fun w6 u => ?_)
    refine hK.out _ _ ⟨u.bx hHeld.1 (by omega), u.bx hHeld.2 (by omega)⟩ (fun hHeld => ?_)
    clear hK K
    (try simp only [Act.put])
    refine wpAnyH_ready (rs := [3]) (by kernel_rfl) (by simp) ?_
    refine AllReadyH.cons (o := ⟨none, _, _, _, _, _⟩) rfl (fun K hK => ?_) AllReadyH.nil
    refine wp_store_any 28 _ _ rfl (w.heap.size + 3) (tn zeroF) rfl rfl 28 (tn zeroF) (u.bx CD.ref (by omega)) (by kernel_rfl) rfl (tn_one _) (fun w7 u2 => ?_)
    refine hK.out _ _ ⟨u2.bx hHeld.1 (by omega), u2.bx hHeld.2 (by omega)⟩ (fun hHeld => ?_)
    clear hK K
    (try simp only [Act.put])
    refine wpAnyH_take (i := 4) (oi := ⟨some 10, _, _, _, _, _⟩) (v := ?_) rfl (by kernel_rfl) (by kernel_rfl) (by kernel_rfl) (fun _ _ _ h => h) (Or.inl ⟨by rfl, ?_⟩) (by assumption) ?_
    rotate_left
    · (intro w' hSw; clear hSw; go_simp; try (with_reducible rfl))
    (try simp only [Act.put, List.setIfInBounds_toArray, List.set_cons_zero, List.set_cons_succ])
    refine wpAnyH_done (by kernel_rfl) ?_ _
    refine NoPanic.normal ?_
    go_wp2_with fail
    refine bodyPost_ret (results_box22 Try.results8 _ _ (w.heap.size + 2) (w.heap.size + 3) 25 28 (mt .zero) (tn zeroF) _ _ (.int .i64 1) rfl (u2.bx u.box (by omega)) rfl u2.box rfl Try.underlying25 rfl (by kernel_rfl) Try.underlying28 rfl (by kernel_rfl)) rfl ⟨rfl, ?_⟩
    exact (CD.bel.trans (u.bel _ (by omega))).trans (u2.bel _ (by omega))
  simp only [if_pos hm] at C2
  by_cases hk : k < 0 ∨ 3 < k
  case pos =>
    have he : err14 x m k = 2 := by unfold err14; rw [if_pos hx, if_pos hm, if_pos hk]
    have hv : overV x m k n = (.zero, zeroF, 2) := by unfold overV; rw [he, if_neg (by decide)]
    rw [hv]
    clear hx hm hv he
    by_cases h0 : k < 0
    case pos =>
      have d0 : decide (k < 0) = true := decide_eq_true h0
      clear hk
      go_enter Try.func8, Try.ntmps8
      go_upto_region 7 with (first | refine wpList_load_bk (by rfl) 23 _ rfl _ _ rfl x _ C.rd Try.underlying23 rfl (by kernel_rfl) ?_ | refine wpList_load_box (by rfl) 25 _ rfl (w.heap.size + 1) rfl 25 (mt m) _ C.cur Try.underlying25 rfl (by kernel_rfl) ?_ | (go_at_call 19; (with_reducible refine (C1 _).mono ?_); rintro e w1 ⟨rfl, hb1⟩; replace C := C.below hb1; clear hb1) | (go_at_call 14; (with_reducible refine (C2 _).mono ?_); rintro e w2 ⟨rfl, hb2⟩; replace C := C.below hb2; clear hb2))
      (try go_frame)
      have CD := C.drew
      refine wp_region_noPanic ?_
      refine wp_region_held_drew (S := fun w' => Bx w' (w.heap.size + 4) 28 (tn zeroF) ∧ Bx w' (w.heap.size + 1) 25 (mt m)) (by kernel_rfl) ?_ (fun hHeld => ?_)
      · exact ⟨CD.fst, CD.cur⟩
      refine wpAnyH_take (i := 0) (oi := ⟨some 34, _, _, _, _, _⟩) (v := .agg (mt .zero)) rfl (by kernel_rfl) (by kernel_rfl) (by kernel_rfl) (fun _ _ _ h => h) (Or.inl ⟨by rfl, fun w' hSw => exec_build _ _ rfl (by kernel_rfl)⟩) (by assumption) ?_
      (try simp only [Act.put, List.setIfInBounds_toArray, List.set_cons_zero, List.set_cons_succ])
      refine wpAnyH_take (i := 1) (oi := ⟨some 35, _, _, _, _, _⟩) (v := .agg (tn zeroF)) rfl (by kernel_rfl) (by kernel_rfl) (by kernel_rfl) (fun _ _ _ h => h) (Or.inl ⟨by rfl, fun w' hSw => exec_load_box (w.heap.size + 4) 28 _ _ w' rfl rfl hSw.1 Try.underlying28 rfl (by kernel_rfl)⟩) (by assumption) ?_
      (try simp only [Act.put, List.setIfInBounds_toArray, List.set_cons_zero, List.set_cons_succ])
      refine wpAnyH_ready (rs := [2]) (by kernel_rfl) (by simp) ?_
      refine AllReadyH.cons (o := ⟨none, _, _, _, _, _⟩) rfl (fun K hK => ?_) AllReadyH.nil
      refine wp_store_any 25 _ _ rfl (w.heap.size + 2) (mt .zero) rfl rfl 25 (mt .zero) CD.res (by kernel_rfl) rfl (mt_one _) (fun w6 u => ?_)
      refine hK.out _ _ ⟨u.bx hHeld.1 (by omega), u.bx hHeld.2 (by omega)⟩ (fun hHeld => ?_)
      clear hK K
      (try simp only [Act.put])
      refine wpAnyH_ready (rs := [3]) (by kernel_rfl) (by simp) ?_
      refine AllReadyH.cons (o := ⟨none, _, _, _, _, _⟩) rfl (fun K hK => ?_) AllReadyH.nil
      refine wp_store_any 28 _ _ rfl (w.heap.size + 3) (tn zeroF) rfl rfl 28 (tn zeroF) (u.bx CD.ref (by omega)) (by kernel_rfl) rfl (tn_one _) (fun w7 u2 => ?_)
      refine hK.out _ _ ⟨u2.bx hHeld.1 (by omega), u2.bx hHeld.2 (by omega)⟩ (fun hHeld => ?_)
      clear hK K
      (try simp only [Act.put])
      refine wpAnyH_take (i := 4) (oi := ⟨some 10, _, _, _, _, _⟩) (v := ?_) rfl (by kernel_rfl) (by kernel_rfl) (by kernel_rfl) (fun _ _ _ h => h) (Or.inl ⟨by rfl, ?_⟩) (by assumption) ?_
      rotate_left
      · (intro w' hSw; clear hSw; go_simp; try (with_reducible rfl))
      (try simp only [Act.put, List.setIfInBounds_toArray, List.set_cons_zero, List.set_cons_succ])
      refine wpAnyH_done (by kernel_rfl) ?_ _
      refine NoPanic.normal ?_
      go_wp2_with fail
      refine bodyPost_ret (results_box22 Try.results8 _ _ (w.heap.size + 2) (w.heap.size + 3) 25 28 (mt .zero) (tn zeroF) _ _ (.int .i64 2) rfl (u2.bx u.box (by omega)) rfl u2.box rfl Try.underlying25 rfl (by kernel_rfl) Try.underlying28 rfl (by kernel_rfl)) rfl ⟨rfl, ?_⟩
      exact (CD.bel.trans (u.bel _ (by omega))).trans (u2.bel _ (by omega))
    case neg =>
      have d0 : decide (k < 0) = false := decide_eq_false h0
      have d1 : decide (3 < k) = true := decide_eq_true (by omega)
      have d2 : 3 < k := by omega
      clear hk
      go_enter Try.func8, Try.ntmps8
      go_upto_region 7 with (first | refine wpList_load_bk (by rfl) 23 _ rfl _ _ rfl x _ C.rd Try.underlying23 rfl (by kernel_rfl) ?_ | refine wpList_load_box (by rfl) 25 _ rfl (w.heap.size + 1) rfl 25 (mt m) _ C.cur Try.underlying25 rfl (by kernel_rfl) ?_ | (go_at_call 19; (with_reducible refine (C1 _).mono ?_); rintro e w1 ⟨rfl, hb1⟩; replace C := C.below hb1; clear hb1) | (go_at_call 14; (with_reducible refine (C2 _).mono ?_); rintro e w2 ⟨rfl, hb2⟩; replace C := C.below hb2; clear hb2))
      (try go_frame)
      have CD := C.drew
      refine wp_region_noPanic ?_
      refine wp_region_held_drew (S := fun w' => Bx w' (w.heap.size + 4) 28 (tn zeroF) ∧ Bx w' (w.heap.size + 1) 25 (mt m)) (by kernel_rfl) ?_ (fun hHeld => ?_)
      · exact ⟨CD.fst, CD.cur⟩
      refine wpAnyH_take (i := 0) (oi := ⟨some 34, _, _, _, _, _⟩) (v := .agg (mt .zero)) rfl (by kernel_rfl) (by kernel_rfl) (by kernel_rfl) (fun _ _ _ h => h) (Or.inl ⟨by rfl, fun w' hSw => exec_build _ _ rfl (by kernel_rfl)⟩) (by assumption) ?_
      (try simp only [Act.put, List.setIfInBounds_toArray, List.set_cons_zero, List.set_cons_succ])
      refine wpAnyH_take (i := 1) (oi := ⟨some 35, _, _, _, _, _⟩) (v := .agg (tn zeroF)) rfl (by kernel_rfl) (by kernel_rfl) (by kernel_rfl) (fun _ _ _ h => h) (Or.inl ⟨by rfl, fun w' hSw => exec_load_box (w.heap.size + 4) 28 _ _ w' rfl rfl hSw.1 Try.underlying28 rfl (by kernel_rfl)⟩) (by assumption) ?_
      (try simp only [Act.put, List.setIfInBounds_toArray, List.set_cons_zero, List.set_cons_succ])
      refine wpAnyH_ready (rs := [2]) (by kernel_rfl) (by simp) ?_
      refine AllReadyH.cons (o := ⟨none, _, _, _, _, _⟩) rfl (fun K hK => ?_) AllReadyH.nil
      refine wp_store_any 25 _ _ rfl (w.heap.size + 2) (mt .zero) rfl rfl 25 (mt .zero) CD.res (by kernel_rfl) rfl (mt_one _) (fun w6 u => ?_)
      refine hK.out _ _ ⟨u.bx hHeld.1 (by omega), u.bx hHeld.2 (by omega)⟩ (fun hHeld => ?_)
      clear hK K
      (try simp only [Act.put])
      refine wpAnyH_ready (rs := [3]) (by kernel_rfl) (by simp) ?_
      refine AllReadyH.cons (o := ⟨none, _, _, _, _, _⟩) rfl (fun K hK => ?_) AllReadyH.nil
      refine wp_store_any 28 _ _ rfl (w.heap.size + 3) (tn zeroF) rfl rfl 28 (tn zeroF) (u.bx CD.ref (by omega)) (by kernel_rfl) rfl (tn_one _) (fun w7 u2 => ?_)
      refine hK.out _ _ ⟨u2.bx hHeld.1 (by omega), u2.bx hHeld.2 (by omega)⟩ (fun hHeld => ?_)
      clear hK K
      (try simp only [Act.put])
      refine wpAnyH_take (i := 4) (oi := ⟨some 10, _, _, _, _, _⟩) (v := ?_) rfl (by kernel_rfl) (by kernel_rfl) (by kernel_rfl) (fun _ _ _ h => h) (Or.inl ⟨by rfl, ?_⟩) (by assumption) ?_
      rotate_left
      · (intro w' hSw; clear hSw; go_simp; try (with_reducible rfl))
      (try simp only [Act.put, List.setIfInBounds_toArray, List.set_cons_zero, List.set_cons_succ])
      refine wpAnyH_done (by kernel_rfl) ?_ _
      refine NoPanic.normal ?_
      go_wp2_with fail
      refine bodyPost_ret (results_box22 Try.results8 _ _ (w.heap.size + 2) (w.heap.size + 3) 25 28 (mt .zero) (tn zeroF) _ _ (.int .i64 2) rfl (u2.bx u.box (by omega)) rfl u2.box rfl Try.underlying25 rfl (by kernel_rfl) Try.underlying28 rfl (by kernel_rfl)) rfl ⟨rfl, ?_⟩
      exact (CD.bel.trans (u.bel _ (by omega))).trans (u2.bel _ (by omega))
  have he : err14 x m k = 0 := err14_ok.2 ⟨hx, hm, hk⟩
  have hnow := hm.1
  have dk0 : decide (k < 0) = false := decide_eq_false (by omega)
  have dk1 : decide (3 < k) = false := decide_eq_false (by omega)
  have dk2 : ¬ k < 0 := by omega
  have dk3 : ¬ 3 < k := by omega
  have f0 : (mt m)[0]? = some (.int .i64 m.now) := rfl
  by_cases hr : n < 0 ∨ 40320 - m.now < n
  case pos =>
    have hv : overV x m k n = (.zero, zeroF, 4) := by unfold overV; rw [if_pos he, if_pos hr]
    rw [hv]
    obtain ⟨nw, hnw⟩ : ∃ nw, m.now = nw := ⟨_, rfl⟩
    rw [hnw] at f0 hnow hr
    clear hx hm hv he hk hnw
    have hw40 := wrap14 (40320 - nw) (by omega) (by omega)
    by_cases h0 : n < 0
    case pos =>
      have d0 : decide (n < 0) = true := decide_eq_true h0
      clear hr
      go_enter Try.func8, Try.ntmps8
      go_upto_region 9 with (first | refine wpList_load_bk (by rfl) 23 _ rfl _ _ rfl x _ C.rd Try.underlying23 rfl (by kernel_rfl) ?_ | refine wpList_load_box (by rfl) 25 _ rfl (w.heap.size + 1) rfl 25 (mt m) _ C.cur Try.underlying25 rfl (by kernel_rfl) ?_ | (go_at_call 19; (with_reducible refine (C1 _).mono ?_); rintro e w1 ⟨rfl, hb1⟩; replace C := C.below hb1; clear hb1) | (go_at_call 14; (with_reducible refine (C2 _).mono ?_); rintro e w2 ⟨rfl, hb2⟩; replace C := C.below hb2; clear hb2; have g0 : w2.cell? ⟨w.heap.size + 1, 0, none⟩ = some (.int .i64 nw) := C.cur.cell f0))
      (try go_frame)
      have CD := C.drew
      refine wp_region_noPanic ?_
      refine wp_region_held_drew (S := fun w' => Bx w' (w.heap.size + 4) 28 (tn zeroF) ∧ Bx w' (w.heap.size + 1) 25 (mt m)) (by kernel_rfl) ?_ (fun hHeld => ?_)
      · exact ⟨CD.fst, CD.cur⟩
      refine wpAnyH_take (i := 0) (oi := ⟨some 45, _, _, _, _, _⟩) (v := .agg (mt .zero)) rfl (by kernel_rfl) (by kernel_rfl) (by kernel_rfl) (fun _ _ _ h => h) (Or.inl ⟨by rfl, fun w' hSw => exec_build _ _ rfl (by kernel_rfl)⟩) (by assumption) ?_
      (try simp only [Act.put, List.setIfInBounds_toArray, List.set_cons_zero, List.set_cons_succ])
      refine wpAnyH_take (i := 1) (oi := ⟨some 46, _, _, _, _, _⟩) (v := .agg (tn zeroF)) rfl (by kernel_rfl) (by kernel_rfl) (by kernel_rfl) (fun _ _ _ h => h) (Or.inl ⟨by rfl, fun w' hSw => exec_load_box (w.heap.size + 4) 28 _ _ w' rfl rfl hSw.1 Try.underlying28 rfl (by kernel_rfl)⟩) (by assumption) ?_
      (try simp only [Act.put, List.setIfInBounds_toArray, List.set_cons_zero, List.set_cons_succ])
      refine wpAnyH_ready (rs := [2]) (by kernel_rfl) (by simp) ?_
      refine AllReadyH.cons (o := ⟨none, _, _, _, _, _⟩) rfl (fun K hK => ?_) AllReadyH.nil
      refine wp_store_any 25 _ _ rfl (w.heap.size + 2) (mt .zero) rfl rfl 25 (mt .zero) CD.res (by kernel_rfl) rfl (mt_one _) (fun w6 u => ?_)
      refine hK.out _ _ ⟨u.bx hHeld.1 (by omega), u.bx hHeld.2 (by omega)⟩ (fun hHeld => ?_)
      clear hK K
      (try simp only [Act.put])
      refine wpAnyH_ready (rs := [3]) (by kernel_rfl) (by simp) ?_
      refine AllReadyH.cons (o := ⟨none, _, _, _, _, _⟩) rfl (fun K hK => ?_) AllReadyH.nil
      refine wp_store_any 28 _ _ rfl (w.heap.size + 3) (tn zeroF) rfl rfl 28 (tn zeroF) (u.bx CD.ref (by omega)) (by kernel_rfl) rfl (tn_one _) (fun w7 u2 => ?_)
      refine hK.out _ _ ⟨u2.bx hHeld.1 (by omega), u2.bx hHeld.2 (by omega)⟩ (fun hHeld => ?_)
      clear hK K
      (try simp only [Act.put])
      refine wpAnyH_take (i := 4) (oi := ⟨some 10, _, _, _, _, _⟩) (v := ?_) rfl (by kernel_rfl) (by kernel_rfl) (by kernel_rfl) (fun _ _ _ h => h) (Or.inl ⟨by rfl, ?_⟩) (by assumption) ?_
      rotate_left
      · (intro w' hSw; clear hSw; go_simp; try (with_reducible rfl))
      (try simp only [Act.put, List.setIfInBounds_toArray, List.set_cons_zero, List.set_cons_succ])
      refine wpAnyH_done (by kernel_rfl) ?_ _
      refine NoPanic.normal ?_
      go_wp2_with fail
      refine bodyPost_ret (results_box22 Try.results8 _ _ (w.heap.size + 2) (w.heap.size + 3) 25 28 (mt .zero) (tn zeroF) _ _ (.int .i64 4) rfl (u2.bx u.box (by omega)) rfl u2.box rfl Try.underlying25 rfl (by kernel_rfl) Try.underlying28 rfl (by kernel_rfl)) rfl ⟨rfl, ?_⟩
      exact (CD.bel.trans (u.bel _ (by omega))).trans (u2.bel _ (by omega))
    case neg =>
      have d0 : decide (n < 0) = false := decide_eq_false h0
      have d1 : decide (40320 - nw < n) = true := decide_eq_true (by omega)
      have d2 : 40320 - nw < n := by omega
      clear hr
      go_enter Try.func8, Try.ntmps8
      go_upto_region 9 with (first | refine wpList_load_bk (by rfl) 23 _ rfl _ _ rfl x _ C.rd Try.underlying23 rfl (by kernel_rfl) ?_ | refine wpList_load_box (by rfl) 25 _ rfl (w.heap.size + 1) rfl 25 (mt m) _ C.cur Try.underlying25 rfl (by kernel_rfl) ?_ | (go_at_call 19; (with_reducible refine (C1 _).mono ?_); rintro e w1 ⟨rfl, hb1⟩; replace C := C.below hb1; clear hb1) | (go_at_call 14; (with_reducible refine (C2 _).mono ?_); rintro e w2 ⟨rfl, hb2⟩; replace C := C.below hb2; clear hb2; have g0 : w2.cell? ⟨w.heap.size + 1, 0, none⟩ = some (.int .i64 nw) := C.cur.cell f0))
      (try go_frame)
      have CD := C.drew
      refine wp_region_noPanic ?_
      refine wp_region_held_drew (S := fun w' => Bx w' (w.heap.size + 4) 28 (tn zeroF) ∧ Bx w' (w.heap.size + 1) 25 (mt m)) (by kernel_rfl) ?_ (fun hHeld => ?_)
      · exact ⟨CD.fst, CD.cur⟩
      refine wpAnyH_take (i := 0) (oi := ⟨some 45, _, _, _, _, _⟩) (v := .agg (mt .zero)) rfl (by kernel_rfl) (by kernel_rfl) (by kernel_rfl) (fun _ _ _ h => h) (Or.inl ⟨by rfl, fun w' hSw => exec_build _ _ rfl (by kernel_rfl)⟩) (by assumption) ?_
      (try simp only [Act.put, List.setIfInBounds_toArray, List.set_cons_zero, List.set_cons_succ])
      refine wpAnyH_take (i := 1) (oi := ⟨some 46, _, _, _, _, _⟩) (v := .agg (tn zeroF)) rfl (by kernel_rfl) (by kernel_rfl) (by kernel_rfl) (fun _ _ _ h => h) (Or.inl ⟨by rfl, fun w' hSw => exec_load_box (w.heap.size + 4) 28 _ _ w' rfl rfl hSw.1 Try.underlying28 rfl (by kernel_rfl)⟩) (by assumption) ?_
      (try simp only [Act.put, List.setIfInBounds_toArray, List.set_cons_zero, List.set_cons_succ])
      refine wpAnyH_ready (rs := [2]) (by kernel_rfl) (by simp) ?_
      refine AllReadyH.cons (o := ⟨none, _, _, _, _, _⟩) rfl (fun K hK => ?_) AllReadyH.nil
      refine wp_store_any 25 _ _ rfl (w.heap.size + 2) (mt .zero) rfl rfl 25 (mt .zero) CD.res (by kernel_rfl) rfl (mt_one _) (fun w6 u => ?_)
      refine hK.out _ _ ⟨u.bx hHeld.1 (by omega), u.bx hHeld.2 (by omega)⟩ (fun hHeld => ?_)
      clear hK K
      (try simp only [Act.put])
      refine wpAnyH_ready (rs := [3]) (by kernel_rfl) (by simp) ?_
      refine AllReadyH.cons (o := ⟨none, _, _, _, _, _⟩) rfl (fun K hK => ?_) AllReadyH.nil
      refine wp_store_any 28 _ _ rfl (w.heap.size + 3) (tn zeroF) rfl rfl 28 (tn zeroF) (u.bx CD.ref (by omega)) (by kernel_rfl) rfl (tn_one _) (fun w7 u2 => ?_)
      refine hK.out _ _ ⟨u2.bx hHeld.1 (by omega), u2.bx hHeld.2 (by omega)⟩ (fun hHeld => ?_)
      clear hK K
      (try simp only [Act.put])
      refine wpAnyH_take (i := 4) (oi := ⟨some 10, _, _, _, _, _⟩) (v := ?_) rfl (by kernel_rfl) (by kernel_rfl) (by kernel_rfl) (fun _ _ _ h => h) (Or.inl ⟨by rfl, ?_⟩) (by assumption) ?_
      rotate_left
      · (intro w' hSw; clear hSw; go_simp; try (with_reducible rfl))
      (try simp only [Act.put, List.setIfInBounds_toArray, List.set_cons_zero, List.set_cons_succ])
      refine wpAnyH_done (by kernel_rfl) ?_ _
      refine NoPanic.normal ?_
      go_wp2_with fail
      refine bodyPost_ret (results_box22 Try.results8 _ _ (w.heap.size + 2) (w.heap.size + 3) 25 28 (mt .zero) (tn zeroF) _ _ (.int .i64 4) rfl (u2.bx u.box (by omega)) rfl u2.box rfl Try.underlying25 rfl (by kernel_rfl) Try.underlying28 rfl (by kernel_rfl)) rfl ⟨rfl, ?_⟩
      exact (CD.bel.trans (u.bel _ (by omega))).trans (u2.bel _ (by omega))
  have hv : overV x m k n = ((walkV x k n.toNat m noneF).1, (walkV x k n.toNat m noneF).2, 0) := by unfold overV; rw [if_pos he, if_neg hr]
  rw [hv]
  dsimp only
  obtain ⟨n', rfl⟩ : ∃ n' : Nat, n = (n' : Int) := ⟨n.toNat, by omega⟩
  rw [Int.toNat_natCast]
  exact refover_good x m k n' w hx hm hk (by omega)

end Go.Proofs.Ytndhagflfbblaaa
