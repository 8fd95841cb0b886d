/- What the document's Run of layer 13 returns. Conditions: as the theorem says. -/
import Derived.Test.YteepjpegojlihaaRows
import Derived.Test.YteepjpegojlihaaBase
import Derived.Test.YteepjpegojlihaaRow
import Derived.Test.YteepjpegojlihaaBookRow
import Derived.Test.YteepjpegojlihaaBookLim
import Derived.Test.YteepjpegojlihaaBookMayR
import Derived.Test.YteepjpegojlihaaBookLaws
import Derived.Test.YteepjpegojlihaaRecMath
import Derived.Test.YteepjpegojlihaaRecHeap
import Derived.Test.YteepjpegojlihaaBox
import Derived.Test.YteepjpegojlihaaSpellMath
import Derived.Test.YteepjpegojlihaaMeterMath
import Derived.Test.YteepjpegojlihaaMeterBit
import Derived.Test.YteepjpegojlihaaMeterStR
import Derived.Test.YteepjpegojlihaaMeterMin
import Derived.Test.YteepjpegojlihaaMeterChk
import Derived.Test.YteepjpegojlihaaMeterRun
import Derived.Test.YteepjpegojlihaaMeterMayR
import Derived.Test.YteepjpegojlihaaMeterRStep
import Derived.WalkKit
import Derived.WalkSpells
import Derived.WalkSmall
import Derived.Below
import Derived.Lib.Hide
import Derived.BigQuiet
import Derived.OwnWalk
import Derived.Outline
import Derived.Great.BuildSlice
import Derived.Maps.RangeWalk
import Derived.Deep.RegionHeld3
import Derived.OrdersHeld
namespace Go.Proofs.Yteepjpegojlihaa
open Go.RowKit

set_option maxRecDepth 100000 in
set_option maxHeartbeats 4000000 in
open Classical in
theorem refrun_any (x : Nat → Int) (m : Mt) (A : Option Addr) (c : Nat) (l : List Int) (w : World) (h : RdN w A l) (hl : l.length ≤ 1000000) :
    Calls Try.prog 8 #[.agg (bk x), .agg (mt m), .slice A l.length c] w fun e w' => e = .returned (.tuple #[.agg (mt (meterV x m l).1), .int .i64 ((meterV x m l).2.1 : Nat), .int .i64 (meterV x m l).2.2]) ∧ Below w.heap.size w w' := by
  have C1 := fun W => refmay_any x W
  have C2 := fun W => refmay13_any m W
  have C := MtW.new w x m
  by_cases hx : May x
  case neg =>
    rw [meterV_bad l (by unfold bmErr; rw [if_neg hx]; decide), show bmErr x m = 14 from by unfold bmErr; rw [if_neg hx]]
    simp only [if_neg hx] at C1
    clear hx C2 h
    go_enter Try.func8, Try.ntmps8
    go_wp2_with (first
      | refine wpList_load_bk (by rfl) 23 _ rfl _ _ rfl x _ C.rd Try.underlying23 rfl (by kernel_rfl) ?_
      | (go_at_call 16; (with_reducible refine (C1 _).mono ?_); rintro e w1 ⟨rfl, hb1⟩; replace C := C.below hb1)
      | refine wpList_load_box (by rfl) 25 _ rfl (w.heap.size + 1) rfl 25 (mt m) _ C.cur Try.underlying25 rfl (by kernel_rfl) ?_
      | (go_at_call 9; (with_reducible refine (C2 _).mono ?_); rintro e w2 ⟨rfl, hb2⟩; replace C := C.below hb2)
      | refine wpList_build_as rfl 25 _ rfl (mt .zero) (by kernel_rfl) ?_
      | refine wpList_store_box rfl 25 _ _ rfl (w.heap.size + 2) (mt .zero) rfl rfl 25 (mt .zero) C.res (by kernel_rfl) rfl (mt_one _) (fun w5 u => ?_))
    refine bodyPost_ret (results_box3 Try.results8 _ _ (w.heap.size + 2) 25 (mt .zero) _ (.int .i64 0) (.int .i64 14) rfl u.box rfl rfl Try.underlying25 rfl (by kernel_rfl)) rfl ⟨rfl, C.bel.trans (u.bel _ (by omega))⟩
  simp only [if_pos hx] at C1
  by_cases hm : MayM m
  case neg =>
    rw [meterV_bad l (by unfold bmErr; rw [if_pos hx, if_neg hm]; decide), show bmErr x m = 1 from by unfold bmErr; rw [if_pos hx, if_neg hm]]
    simp only [if_neg hm] at C2
    clear hx hm h
    go_enter Try.func8, Try.ntmps8
    go_wp2_with (first
      | refine wpList_load_bk (by rfl) 23 _ rfl _ _ rfl x _ C.rd Try.underlying23 rfl (by kernel_rfl) ?_
      | (go_at_call 16; (with_reducible refine (C1 _).mono ?_); rintro e w1 ⟨rfl, hb1⟩; replace C := C.below hb1)
      | refine wpList_load_box (by rfl) 25 _ rfl (w.heap.size + 1) rfl 25 (mt m) _ C.cur Try.underlying25 rfl (by kernel_rfl) ?_
      | (go_at_call 9; (with_reducible refine (C2 _).mono ?_); rintro e w2 ⟨rfl, hb2⟩; replace C := C.below hb2)
      | refine wpList_build_as rfl 25 _ rfl (mt .zero) (by kernel_rfl) ?_
      | refine wpList_store_box rfl 25 _ _ rfl (w.heap.size + 2) (mt .zero) rfl rfl 25 (mt .zero) C.res (by kernel_rfl) rfl (mt_one _) (fun w5 u => ?_))
    refine bodyPost_ret (results_box3 Try.results8 _ _ (w.heap.size + 2) 25 (mt .zero) _ (.int .i64 0) (.int .i64 1) rfl u.box rfl rfl Try.underlying25 rfl (by kernel_rfl)) rfl ⟨rfl, C.bel.trans (u.bel _ (by omega))⟩
  simp only [if_pos hm] at C2
  rw [meterV_good l hx hm]
  have HM := Lib.hid hm
  have HX := Lib.hid hx
  clear hm hx
  have HR := Lib.hid h
  clear h
  obtain ⟨V, hV⟩ : ∃ V, runV x m 0 l = V := ⟨_, rfl⟩
  rw [hV]
  have HV := Lib.hid hV
  clear hV
  go_enter Try.func8, Try.ntmps8
  go_wp2_with (first
    | refine wpList_load_bk (by rfl) 23 _ rfl _ _ rfl x _ C.rd Try.underlying23 rfl (by kernel_rfl) ?_
    | (go_at_call 16; (with_reducible refine (C1 _).mono ?_); rintro e w1 ⟨rfl, hb1⟩; replace C := C.below hb1)
    | refine wpList_load_box (by rfl) 25 _ rfl (w.heap.size + 1) rfl 25 (mt m) _ C.cur Try.underlying25 rfl (by kernel_rfl) ?_
    | (go_at_call 9; (with_reducible refine (C2 _).mono ?_); rintro e w2 ⟨rfl, hb2⟩; replace C := C.below hb2))
  clear hb1 hb2 C1 C2
  go_loopw [9, 10] (fun br i wr => ∃ (k : Nat) (m' : Mt) (n' : Nat), k ≤ l.length ∧ i = .int .i64 k ∧ br = .int .i64 (n' : Nat) ∧ Hid (MayM m') ∧ Hid (n' < 1024) ∧ Hid (runV x m' n' (l.drop k) = V) ∧ Hid (MtW w x m' wr)) (fun _ i _ => l.length - (intOf i).toNat)
  case atStart => exact ⟨0, m, 0, Nat.zero_le _, rfl, rfl, HM, Lib.hid (by decide), Lib.hid HV.out, Lib.hid C⟩
  case round =>
    clear C
    obtain ⟨k, m', n', hk, rfl, rfl, HM', HN', HV', HC⟩ := hrel
    obtain ⟨w3, rfl⟩ : ∃ w3 : World, w3 = wr := ⟨_, rfl⟩
    have C := HC.out
    by_cases hlt : k < l.length
    case neg =>
      obtain rfl : k = l.length := by omega
      have hVe := HV'.out
      rw [List.drop_length] at hVe
      go_wp2_with (first
        | refine wpList_load_box (by rfl) 25 _ rfl (w.heap.size + 1) rfl 25 (mt m') _ C.cur Try.underlying25 rfl (by kernel_rfl) ?_
        | refine wpList_store_box rfl 25 _ _ rfl (w.heap.size + 2) (mt m') rfl rfl 25 (mt .zero) C.res (by kernel_rfl) rfl (mt_one _) (fun w5 u => ?_))
      refine bodyPost_ret (results_box3 Try.results8 _ _ (w.heap.size + 2) 25 (mt m') _ (.int .i64 (n' : Int)) (.int .i64 0) rfl u.box rfl rfl Try.underlying25 rfl (by kernel_rfl)) rfl ⟨?_, C.bel.trans (u.bel _ (by omega))⟩
      rw [← hVe]
      rfl
    obtain ⟨b, off, y, rfl, hbb, hc0, hs⟩ := HR.out.at_ hlt
    have hc0 : w3.cell? ⟨b, off + k, none⟩ = some (.int .i64 y) := by
      rw [C.bel.cell (p := ⟨b, off + k, none⟩) hbb]
      exact hc0
    have hVe : runV x m' n' (y :: l.drop (k + 1)) = V := by rw [← drop_at hs.out]; exact HV'.out
    rw [runV_cons] at hVe
    have hkl : (k : Int) < (l.length : Int) := by omega
    have f0 : w3.cell? ⟨w.heap.size + 1, 0, none⟩ = some (.int .i64 m'.now) := C.cur.cell rfl
    clear hs
    by_cases y0 : y < 0
    case pos =>
      have d0 : decide (y < 0) = true := decide_eq_true y0
      rw [if_pos (Or.inl y0)] at hVe
      subst hVe
      clear y0
      go_wp2_with (first
        | refine wpList_build_as rfl 25 _ rfl (mt .zero) (by kernel_rfl) ?_
        | refine wpList_store_box rfl 25 _ _ rfl (w.heap.size + 2) (mt .zero) rfl rfl 25 (mt .zero) C.res (by kernel_rfl) rfl (mt_one _) (fun w5 u => ?_))
      refine bodyPost_ret (results_box3 Try.results8 _ _ (w.heap.size + 2) 25 (mt .zero) _ (.int .i64 0) (.int .i64 2) rfl u.box rfl rfl Try.underlying25 rfl (by kernel_rfl)) rfl ⟨rfl, C.bel.trans (u.bel _ (by omega))⟩
    have d0 : decide (y < 0) = false := decide_eq_false y0
    by_cases y3 : 3 < y
    case pos =>
      have d3 : decide (3 < y) = true := decide_eq_true y3
      rw [if_pos (Or.inr y3)] at hVe
      subst hVe
      clear y0 y3
      go_wp2_with (first
        | refine wpList_build_as rfl 25 _ rfl (mt .zero) (by kernel_rfl) ?_
        | refine wpList_store_box rfl 25 _ _ rfl (w.heap.size + 2) (mt .zero) rfl rfl 25 (mt .zero) C.res (by kernel_rfl) rfl (mt_one _) (fun w5 u => ?_))
      refine bodyPost_ret (results_box3 Try.results8 _ _ (w.heap.size + 2) 25 (mt .zero) _ (.int .i64 0) (.int .i64 2) rfl u.box rfl rfl Try.underlying25 rfl (by kernel_rfl)) rfl ⟨rfl, C.bel.trans (u.bel _ (by omega))⟩
    have d3 : decide (3 < y) = false := decide_eq_false y3
    rw [if_neg (by omega)] at hVe
    by_cases hf : m'.now = 40320
    case pos =>
      have df : (m'.now == 40320) = true := by simpa using hf
      rw [if_pos hf] at hVe
      subst hVe
      rw [hf] at f0
      clear hf y0 y3 df
      go_wp2_with (first
        | refine wpList_build_as rfl 25 _ rfl (mt .zero) (by kernel_rfl) ?_
        | refine wpList_store_box rfl 25 _ _ rfl (w.heap.size + 2) (mt .zero) rfl rfl 25 (mt .zero) C.res (by kernel_rfl) rfl (mt_one _) (fun w5 u => ?_))
      refine bodyPost_ret (results_box3 Try.results8 _ _ (w.heap.size + 2) 25 (mt .zero) _ (.int .i64 0) (.int .i64 4) rfl u.box rfl rfl Try.underlying25 rfl (by kernel_rfl)) rfl ⟨rfl, C.bel.trans (u.bel _ (by omega))⟩
    have df : (m'.now == 40320) = false := by simpa using hf
    rw [if_neg hf] at hVe
    have hlt' : m'.now < 40320 := by have := HM'.out.1; omega
    have ST := fun W => refstep_any x m' y W HM'.out hlt' HX.out
    have HM2 := Lib.hid (may_step (x := x) y HM'.out hlt').1
    have hs4 := stepC_lt x m' y
    have HN2 : Hid (n' ||| stepC x m' y < 1024) := Lib.hid (Nat.or_lt_two_pow (n := 10) HN'.out hs4)
    have HV2 := Lib.hid hVe
    have OR := fun W => or13_any n' (stepC x m' y) W HN'.out hs4
    clear hVe hf hlt' y0 y3
    generalize stepM x m' y = m4 at ST HM2 HV2
    generalize stepC x m' y = s4 at ST HN2 HV2 OR hs4
    go_upto_region 13 with fail
    refine wp_region_noPanic ?_
    refine wp_region_held_drew (S := fun w' => Below w3.heap.size w3 w') (by kernel_rfl) ?_ (fun hHeld => ?_)
    · exact b_dr (Below.refl _ _)
    refine wpAnyH_take (i := 0) (oi := ⟨some 45, _, _, _, _, _⟩) (v := .agg (bk x)) rfl (by kernel_rfl) (by kernel_rfl) (by kernel_rfl) (fun _ _ _ h => h) (Or.inl ⟨by rfl, fun w' hSw => exec_load w.heap.size 0 x _ w' rfl rfl (C.rd.below hSw) Try.underlying23 rfl (by kernel_rfl)⟩) (by assumption) ?_
    (try simp only [Act.put, List.setIfInBounds_toArray, List.set_cons_zero, List.set_cons_succ])
    refine wpAnyH_take (i := 1) (oi := ⟨some 46, _, _, _, _, _⟩) (v := (.agg (mt m'))) rfl (by kernel_rfl) (by kernel_rfl) (by kernel_rfl) (fun _ _ _ h => h) (Or.inl ⟨by rfl, fun w' hSw => exec_load_box (w.heap.size + 1) 25 _ _ w' rfl rfl (C.cur.below hSw) Try.underlying25 rfl (by kernel_rfl)⟩) (by assumption) ?_
    (try simp only [Act.put, List.setIfInBounds_toArray, List.set_cons_zero, List.set_cons_succ])
    refine wpAnyH_take (i := 2) (oi := ⟨some 47, _, _, _, _, _⟩) (v := ?_) rfl (by kernel_rfl) (by kernel_rfl) (by kernel_rfl) (fun _ _ _ h => h) (Or.inl ⟨by rfl, ?_⟩) (by assumption) ?_
    rotate_left
    · (intro w' hSw; clear hSw; go_simp; try (with_reducible rfl))
    (try simp only [Act.put, List.setIfInBounds_toArray, List.set_cons_zero, List.set_cons_succ])
    refine wpAnyH_take (i := 3) (oi := ⟨some 48, _, _, _, _, _⟩) (v := ?_) rfl (by kernel_rfl) (by kernel_rfl) (by kernel_rfl) (fun _ _ _ h => h) (Or.inl ⟨by rfl, ?_⟩) (by assumption) ?_
    rotate_left
    · (intro w' hSw; clear hSw; go_simp; try (with_reducible rfl))
    (try simp only [Act.put, List.setIfInBounds_toArray, List.set_cons_zero, List.set_cons_succ])
    refine wpAnyH_take (i := 4) (oi := ⟨some 49, _, _, _, _, _⟩) (v := ?_) rfl (by kernel_rfl) (by kernel_rfl) (by kernel_rfl) (fun _ _ _ h => h) (Or.inl ⟨by rfl, ?_⟩) (by assumption) ?_
    rotate_left
    · (intro w' hSw; clear hSw; go_simp; try (with_reducible rfl))
    (try simp only [Act.put, List.setIfInBounds_toArray, List.set_cons_zero, List.set_cons_succ])
    refine wpAnyH_take (i := 5) (oi := ⟨some 50, _, _, _, _, _⟩) (v := ?_) rfl (by kernel_rfl) (by kernel_rfl) (by kernel_rfl) (fun _ _ _ h => h) (Or.inl ⟨by rfl, ?_⟩) (by assumption) ?_
    rotate_left
    · (intro w' hSw; have q0 := c_cl hc0 hSw; clear hSw; go_simp; try (with_reducible rfl))
    (try simp only [Act.put, List.setIfInBounds_toArray, List.set_cons_zero, List.set_cons_succ])
    refine wpAnyH_ready (rs := [6, 10]) (by kernel_rfl) (by simp) ?_
    refine AllReadyH.cons (o := ⟨some 51, _, _, _, _, _⟩) rfl (fun K hK => ?_) (AllReadyH.cons (o := ⟨some 11, _, _, _, _, _⟩) rfl (fun K hK => ?_) AllReadyH.nil)
    ·
      go_simp
      (go_at_call 17; (with_reducible refine (ST _).mono ?_); rintro e w4 ⟨rfl, hb4⟩)
      go_wp2_with fail
      refine hK.out _ _ (b_cl hHeld (Nat.le_refl _) (by assumption)) (fun hHeld => ?_)
      clear hK K
      (try simp only [Act.put, List.setIfInBounds_toArray, List.set_cons_zero, List.set_cons_succ])
      refine wpAnyH_take (i := 7) (oi := ⟨some 44, _, _, _, _, _⟩) (v := ?_) rfl (by kernel_rfl) (by kernel_rfl) (by kernel_rfl) (fun _ _ _ h => h) (Or.inl ⟨by rfl, ?_⟩) (by assumption) ?_
      rotate_left
      · (intro w' hSw; clear hSw; go_simp; try (with_reducible rfl))
      (try simp only [Act.put, List.setIfInBounds_toArray, List.set_cons_zero, List.set_cons_succ])
      refine wpAnyH_take (i := 8) (oi := ⟨some 52, _, _, _, _, _⟩) (v := ?_) rfl (by kernel_rfl) (by kernel_rfl) (by kernel_rfl) (fun _ _ _ h => h) (Or.inl ⟨by rfl, ?_⟩) (by assumption) ?_
      rotate_left
      · (intro w' hSw; clear hSw; go_simp; try (with_reducible rfl))
      (try simp only [Act.put, List.setIfInBounds_toArray, List.set_cons_zero, List.set_cons_succ])
      refine wpAnyH_take (i := 9) (oi := ⟨some 53, _, _, _, _, _⟩) (v := ?_) rfl (by kernel_rfl) (by kernel_rfl) (by kernel_rfl) (fun _ _ _ h => h) (Or.inl ⟨by rfl, ?_⟩) (by assumption) ?_
      rotate_left
      · (intro w' hSw; clear hSw; go_simp; try (with_reducible rfl))
      (try simp only [Act.put, List.setIfInBounds_toArray, List.set_cons_zero, List.set_cons_succ])
      refine wpAnyH_ready (rs := [10]) (by kernel_rfl) (by simp) ?_
      refine AllReadyH.cons (o := ⟨some 11, _, _, _, _, _⟩) rfl (fun K hK => ?_) AllReadyH.nil
      refine wp_alloc_any 25 (mt .zero) (by kernel_rfl) (fun g W' hg hA hbA => ?_)
      have hgN := Nat.le_trans hHeld.size hg
      refine hK.out _ _ (b_cl hHeld (Nat.le_refl _) hbA) (fun hHeld => ?_)
      clear hK K hbA hg
      (try simp only [Act.put, List.setIfInBounds_toArray, List.set_cons_zero, List.set_cons_succ])
      refine wpAnyH_ready (rs := [11]) (by kernel_rfl) (by simp) ?_
      refine AllReadyH.cons (o := ⟨none, _, _, _, _, _⟩) rfl (fun K hK => ?_) AllReadyH.nil
      refine wp_store_any 25 _ _ rfl g (mt m4) rfl rfl 25 (mt .zero) hA (by kernel_rfl) rfl (mt_one _) (fun W' u => ?_)
      refine hK.out _ _ (hHeld.trans (u.bel _ hgN)) (fun hHeld => ?_)
      clear hK K
      (try simp only [Act.put])
      refine wpAnyH_take (i := 12) (oi := ⟨some 12, _, _, _, _, _⟩) (v := ?_) rfl (by kernel_rfl) (by kernel_rfl) (by kernel_rfl) (fun _ _ _ h => h) (Or.inl ⟨by rfl, ?_⟩) (by assumption) ?_
      rotate_left
      · (intro w' hSw; clear hSw; go_simp; try (with_reducible rfl))
      (try simp only [Act.put, List.setIfInBounds_toArray, List.set_cons_zero, List.set_cons_succ])
      refine wpAnyH_done (by kernel_rfl) ?_ _
      refine NoPanic.normal ?_
      replace C := C.below hHeld
      have hbx := u.box
      have hgl : w.heap.size + 2 < g := Nat.lt_of_lt_of_le HC.out.res.lt hgN
      clear u
      go_wp2_with (first
        | refine wpList_load_box (by rfl) 25 _ rfl g rfl 25 (mt m4) _ hbx Try.underlying25 rfl (by kernel_rfl) ?_
        | (refine wpList_store_box rfl 25 _ _ rfl (w.heap.size + 1) (mt m4) rfl rfl 25 (mt m') C.cur (by kernel_rfl) rfl (mt_one _) (fun w7 u => ?_); replace C := C.upd u)
        | (go_at_call 15; (with_reducible refine (OR _).mono ?_); rintro e w8 ⟨rfl, rfl⟩))
      go_roundw
      case rel => exact ⟨k + 1, m4, n' ||| s4, by omega, by go_num, rfl, HM2, HN2, HV2, Lib.hid C⟩
      case measure => simp [intOf]; omega
    ·
      refine wp_alloc_any 25 (mt .zero) (by kernel_rfl) (fun g W' hg hA hbA => ?_)
      have hgN := Nat.le_trans hHeld.size hg
      refine hK.out _ _ (b_cl hHeld (Nat.le_refl _) hbA) (fun hHeld => ?_)
      clear hK K hbA hg
      (try simp only [Act.put, List.setIfInBounds_toArray, List.set_cons_zero, List.set_cons_succ])
      refine wpAnyH_ready (rs := [6]) (by kernel_rfl) (by simp) ?_
      refine AllReadyH.cons (o := ⟨some 51, _, _, _, _, _⟩) rfl (fun K hK => ?_) AllReadyH.nil
      go_simp
      (go_at_call 17; (with_reducible refine (ST _).mono ?_); rintro e w4 ⟨rfl, hb4⟩)
      go_wp2_with fail
      refine hK.out _ _ (b_cl hHeld (Nat.le_refl _) (by assumption)) (fun hHeld => ?_)
      replace hA := hA.below (by assumption)
      clear hK K
      (try simp only [Act.put, List.setIfInBounds_toArray, List.set_cons_zero, List.set_cons_succ])
      refine wpAnyH_take (i := 7) (oi := ⟨some 44, _, _, _, _, _⟩) (v := ?_) rfl (by kernel_rfl) (by kernel_rfl) (by kernel_rfl) (fun _ _ _ h => h) (Or.inl ⟨by rfl, ?_⟩) (by assumption) ?_
      rotate_left
      · (intro w' hSw; clear hSw; go_simp; try (with_reducible rfl))
      (try simp only [Act.put, List.setIfInBounds_toArray, List.set_cons_zero, List.set_cons_succ])
      refine wpAnyH_take (i := 8) (oi := ⟨some 52, _, _, _, _, _⟩) (v := ?_) rfl (by kernel_rfl) (by kernel_rfl) (by kernel_rfl) (fun _ _ _ h => h) (Or.inl ⟨by rfl, ?_⟩) (by assumption) ?_
      rotate_left
      · (intro w' hSw; clear hSw; go_simp; try (with_reducible rfl))
      (try simp only [Act.put, List.setIfInBounds_toArray, List.set_cons_zero, List.set_cons_succ])
      refine wpAnyH_take (i := 9) (oi := ⟨some 53, _, _, _, _, _⟩) (v := ?_) rfl (by kernel_rfl) (by kernel_rfl) (by kernel_rfl) (fun _ _ _ h => h) (Or.inl ⟨by rfl, ?_⟩) (by assumption) ?_
      rotate_left
      · (intro w' hSw; clear hSw; go_simp; try (with_reducible rfl))
      (try simp only [Act.put, List.setIfInBounds_toArray, List.set_cons_zero, List.set_cons_succ])
      refine wpAnyH_ready (rs := [11]) (by kernel_rfl) (by simp) ?_
      refine AllReadyH.cons (o := ⟨none, _, _, _, _, _⟩) rfl (fun K hK => ?_) AllReadyH.nil
      refine wp_store_any 25 _ _ rfl g (mt m4) rfl rfl 25 (mt .zero) hA (by kernel_rfl) rfl (mt_one _) (fun W' u => ?_)
      refine hK.out _ _ (hHeld.trans (u.bel _ hgN)) (fun hHeld => ?_)
      clear hK K
      (try simp only [Act.put])
      refine wpAnyH_take (i := 12) (oi := ⟨some 12, _, _, _, _, _⟩) (v := ?_) rfl (by kernel_rfl) (by kernel_rfl) (by kernel_rfl) (fun _ _ _ h => h) (Or.inl ⟨by rfl, ?_⟩) (by assumption) ?_
      rotate_left
      · (intro w' hSw; clear hSw; go_simp; try (with_reducible rfl))
      (try simp only [Act.put, List.setIfInBounds_toArray, List.set_cons_zero, List.set_cons_succ])
      refine wpAnyH_done (by kernel_rfl) ?_ _
      refine NoPanic.normal ?_
      replace C := C.below hHeld
      have hbx := u.box
      have hgl : w.heap.size + 2 < g := Nat.lt_of_lt_of_le HC.out.res.lt hgN
      clear u
      go_wp2_with (first
        | refine wpList_load_box (by rfl) 25 _ rfl g rfl 25 (mt m4) _ hbx Try.underlying25 rfl (by kernel_rfl) ?_
        | (refine wpList_store_box rfl 25 _ _ rfl (w.heap.size + 1) (mt m4) rfl rfl 25 (mt m') C.cur (by kernel_rfl) rfl (mt_one _) (fun w7 u => ?_); replace C := C.upd u)
        | (go_at_call 15; (with_reducible refine (OR _).mono ?_); rintro e w8 ⟨rfl, rfl⟩))
      go_roundw
      case rel => exact ⟨k + 1, m4, n' ||| s4, by omega, by go_num, rfl, HM2, HN2, HV2, Lib.hid C⟩
      case measure => simp [intOf]; omega

end Go.Proofs.Yteepjpegojlihaa
