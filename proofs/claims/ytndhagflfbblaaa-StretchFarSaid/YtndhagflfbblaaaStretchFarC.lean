/- What Far of layer 14 returns. Conditions: none. -/
import Derived.Test.YtndhagflfbblaaaRows
import Derived.Test.YtndhagflfbblaaaBase
import Derived.Test.YtndhagflfbblaaaBookRow
import Derived.Test.YtndhagflfbblaaaBox
import Derived.Test.YtndhagflfbblaaaSpellMath
import Derived.Test.YtndhagflfbblaaaMeterMath
import Derived.Test.YtndhagflfbblaaaMeterSt
import Derived.Test.YtndhagflfbblaaaMeterChk
import Derived.Test.YtndhagflfbblaaaStretchMath
import Derived.Test.YtndhagflfbblaaaStretchOn
import Derived.Test.YtndhagflfbblaaaStretchSt
import Derived.Test.YtndhagflfbblaaaBookLim
import Derived.Test.YtndhagflfbblaaaBookLaws
import Derived.Test.YtndhagflfbblaaaMeterRun
import Derived.Test.YtndhagflfbblaaaStretchFarM
import Derived.Test.YtndhagflfbblaaaStretchChk
import Derived.Test.YtndhagflfbblaaaStretchOnC
import Derived.Test.YtndhagflfbblaaaStretchFirst
import Derived.Test.YtndhagflfbblaaaStretchOverC
import Derived.Test.YtndhagflfbblaaaStretchLeast
import Derived.Test.YtndhagflfbblaaaStretchEq
import Derived.WalkKit
import Derived.WalkSpells
import Derived.WalkSmall
import Derived.Below
import Derived.Lib.Hide
import Derived.Shelf.Abstract
import Derived.BigQuiet
import Derived.OwnWalk
import Derived.Outline
import Derived.Deep.DeepCutAuto
import Derived.StillTailTactics
import Derived.Maps.RangeWalk
import Derived.OrdersHeld
import Derived.Deep.RegionHeld3
namespace Go.Proofs.Ytndhagflfbblaaa
open Go.RowKit

/-- How far, or the error. -/
noncomputable def farV (x : Nat → Int) (m : Mt) (k : Int) : Int × Int := if err14 x m k = 0 then ((farR x k (40320 - m.now).toNat m : Int), 0) else (0, err14 x m k)

theorem over_bad {x : Nat → Int} {m : Mt} {k : Int} (n : Int) (h : err14 x m k ≠ 0) : overV x m k n = (.zero, zeroF, err14 x m k) := by unfold overV; rw [if_neg h]
theorem over_good {x : Nat → Int} {m : Mt} {k : Int} (n : Nat) (h : err14 x m k = 0) (hn : m.now + n ≤ 40320) : overV x m k n = ((walkV x k n m noneF).1, (walkV x k n m noneF).2, 0) := by
  unfold overV
  rw [if_pos h, if_neg (by omega), Int.toNat_natCast]

set_option maxRecDepth 100000 in
set_option maxHeartbeats 4000000 in
theorem far14_any (x : Nat → Int) (m : Mt) (k : Int) (w : World) :
    Calls Try.prog 10 #[.agg (bk x), .agg (mt m), .int .i64 k] w fun e w' => e = .returned (.tuple #[.int .i64 (farV x m k).1, .int .i64 (farV x m k).2]) ∧ Below w.heap.size w w' := by
  have OV := fun n W => over14_any x m k n W
  have r0 : RdI ((w.alloc (.cells (bk x) 23)).alloc (.cells (mt m) 25)) w.heap.size 0 x := (RdI.new x 23 rfl).alloc _
  have ya0 : Bx ((w.alloc (.cells (bk x) 23)).alloc (.cells (mt m) 25)) (w.heap.size + 1) 25 (mt m) := Bx.new (W := w.alloc (.cells (bk x) 23)) _ _ (by simp)
  have B0 : Below w.heap.size w ((w.alloc (.cells (bk x) 23)).alloc (.cells (mt m) 25)) := b_al (b_al (Below.refl _ _) (Nat.le_refl _) _) (Nat.le_refl _) _
  have f0 : ((w.alloc (.cells (bk x) 23)).alloc (.cells (mt m) 25)).cell? ⟨w.heap.size + 1, 0, none⟩ = some (.int .i64 m.now) := ya0.cell rfl
  by_cases he : err14 x m k = 0
  case neg =>
    have hv : farV x m k = (0, err14 x m k) := by unfold farV; rw [if_neg he]
    rw [hv]
    simp only [over_bad _ he] at OV
    clear hv
    generalize err14 x m k = er at he OV ⊢
    have ne : (er != 0) = true := by simpa using he
    have ne2 : (er == 0) = false := by simpa using he
    generalize m.now = nw at f0
    clear he
    go_enter Try.func10, Try.ntmps10
    go_wp2_with (first
      | go_skip
      | refine wpList_load_bk (by rfl) 23 _ rfl _ _ rfl x _ (by assumption) Try.underlying23 rfl (by kernel_rfl) ?_
      | refine wpList_load_box (by rfl) 25 _ rfl (w.heap.size + 1) rfl 25 (mt m) _ (by assumption) Try.underlying25 rfl (by kernel_rfl) ?_
      | (go_at_call 7; (with_reducible refine (OV _ _).mono ?_); rintro e w1 ⟨rfl, hb1⟩; have B1 := b_cl B0 (Nat.le_refl _) hb1)
      | refine wpList_store_box rfl 25 _ _ rfl w1.heap.size (mt .zero) rfl rfl 25 (mt .zero) ((Bx.new (W := w1) 25 (mt .zero) rfl).alloc _) (by kernel_rfl) rfl (mt_one _) (fun w2 u => ?_)
      | refine wpList_store_box rfl 29 _ _ rfl (w1.heap.size + 1) (tn zeroF) rfl rfl 29 (tn zeroF) (u.bx (Bx.new (W := w1.alloc _) 29 (tn zeroF) (by simp)) (by omega)) (by kernel_rfl) rfl (tn_one _) (fun w3 u2 => ?_))
    go_ret2
    exact ⟨rfl, ((b_al (b_al B1 (Nat.le_refl _) _) (Nat.le_refl _) _).trans (u.bel _ B1.size)).trans (u2.bel _ (by have := B1.size; omega))⟩
  obtain ⟨hx, hm, hk⟩ := err14_ok.1 he
  have hnow := hm.1
  obtain ⟨fu, hfu⟩ : ∃ fu : Nat, (40320 - m.now).toNat = fu := ⟨_, rfl⟩
  have hfn : m.now + fu = 40320 := by omega
  have hv : farV x m k = ((farR x k fu m : Int), 0) := by unfold farV; rw [if_pos he, hfu]
  rw [hv]
  have OV := fun W => OV (40320 - m.now) W
  rw [show 40320 - m.now = (fu : Int) by omega, over_good fu he (by omega), show (fu : Int) = 40320 - m.now by omega] at OV
  have hle := farR_le x k fu m
  have h1 : farR x k fu m = fu → (walkV x k fu m noneF).2 = noneF := fun h => far_none x k fu m fu (by omega)
  have h2 : farR x k fu m < fu → firstV (walkV x k fu m noneF).2 = m.now + farR x k fu m := fun h => far_first x k fu fu hm (by omega) h h (Nat.le_refl _)
  clear hv he hfu hx hm hk
  generalize farR x k fu m = r at hle h1 h2 ⊢
  generalize (walkV x k fu m noneF).1 = M1 at OV
  generalize (walkV x k fu m noneF).2 = Y1 at OV h1 h2
  have h3 : r < fu → eqT Y1 noneF = false := fun h => by
    cases hq : eqT Y1 noneF with
    | false => rfl
    | true =>
      have e := eqT_iff.1 hq
      have := least_none (y := Y1) 10 (fun i hi => by rw [e i hi]; show (-1 : Int) < 0; decide)
      have h2 := h2 h
      unfold firstV at h2
      omega
  dsimp only at OV
  have LE := fun W => first14_any Y1 W
  obtain ⟨nw, hnw⟩ : ∃ nw, m.now = nw := ⟨_, rfl⟩
  have f0' : (mt m)[0]? = some (.int .i64 m.now) := rfl
  rw [hnw] at f0 f0' hnow hfn h2 OV
  clear hnw
  have hw40 := wrap14 (40320 - nw) (by omega) (by omega)
  go_enter Try.func10, Try.ntmps10
  go_upto_region 5 with (first
    | go_skip
    | refine wpList_load_bk (by rfl) 23 _ rfl _ _ rfl x _ (by assumption) Try.underlying23 rfl (by kernel_rfl) ?_
    | refine wpList_load_box (by rfl) 25 _ rfl (w.heap.size + 1) rfl 25 (mt m) _ (by assumption) Try.underlying25 rfl (by kernel_rfl) ?_
    | (go_at_call 7; (with_reducible refine (OV _).mono ?_); rintro e w1 ⟨rfl, hb1⟩; have B1 := b_cl B0 (Nat.le_refl _) hb1; have ya1 := ya0.below hb1)
    | refine wpList_store_box rfl 25 _ _ rfl w1.heap.size (mt M1) rfl rfl 25 (mt .zero) ((Bx.new (W := w1) 25 (mt .zero) rfl).alloc _) (by kernel_rfl) rfl (mt_one _) (fun w2 u => ?_)
    | refine wpList_store_box rfl 29 _ _ rfl (w1.heap.size + 1) (tn Y1) rfl rfl 29 (tn zeroF) (u.bx (Bx.new (W := w1.alloc _) 29 (tn zeroF) (by simp)) (by omega)) (by kernel_rfl) rfl (tn_one _) (fun w3 u2 => ?_))
  (try go_frame)
  have YB : Bx w3 (w1.heap.size + 1) 29 (tn Y1) := u2.box
  have lt1 := ya1.lt
  have B3 : Below w.heap.size w w3 := ((b_al (b_al B1 (Nat.le_refl _) _) (Nat.le_refl _) _).trans (u.bel _ B1.size)).trans (u2.bel _ (by have := B1.size; omega))
  have g0 : w3.cell? ⟨w.heap.size + 1, 0, none⟩ = some (.int .i64 nw) := (u2.bx (u.bx ((ya1.alloc _).alloc _) (by omega)) (by omega)).cell f0'
  generalize w1.heap.size + 1 = R at YB lt1 ⊢
  clear ya0 ya1 f0 f0' r0 B0 B1 hb1 OV u u2
  by_cases hr : r = fu
  case pos =>
    have hE : eqT Y1 noneF = true := by rw [h1 hr]; exact eqT_self _
    clear h1 h2 h3 LE
    refine wp_region_noPanic ?_
    refine wp_region_held_drew (S := fun w' => Below w3.heap.size w3 w') (by kernel_rfl) ?_ (fun hHeld => ?_)
    · exact b_dr (Below.refl _ _)
    refine wpAnyH_take (i := 0) (oi := ⟨some 29, _, _, _, _, _⟩) (v := .agg (tn Y1)) rfl (by kernel_rfl) (by kernel_rfl) (by kernel_rfl) (fun _ _ _ h => h) (Or.inl ⟨by rfl, fun w' hSw => exec_load_box R 29 _ _ w' rfl rfl (YB.below hSw) Try.underlying29 rfl (by kernel_rfl)⟩) (by assumption) ?_
    (try simp only [Act.put, List.setIfInBounds_toArray, List.set_cons_zero, List.set_cons_succ])
    refine wpAnyH_ready (rs := [1]) (by kernel_rfl) (by simp) ?_
    refine AllReadyH.cons (o := ⟨some 30, _, _, _, _, _⟩) rfl (fun K hK => ?_) AllReadyH.nil
    go_simp
    (go_at_call 16; (with_reducible refine (none_any _).mono ?_); rintro e w4 ⟨rfl, hb4⟩)
    go_wp2_with fail
    refine hK.out _ _ (b_cl hHeld (Nat.le_refl _) (by assumption)) (fun hHeld => ?_)
    clear hK K
    (try simp only [Act.put, List.setIfInBounds_toArray, List.set_cons_zero, List.set_cons_succ])
    refine wpAnyH_take (i := 2) (oi := ⟨some 31, _, _, _, _, _⟩) (v := .bool true) rfl (by kernel_rfl) (by kernel_rfl) (by kernel_rfl) (fun _ _ _ h => h) (Or.inl ⟨by rfl, fun w' hSw => exec_eqv_fi Y1 noneF true hE w' rfl rfl rfl⟩) (by assumption) ?_
    (try simp only [Act.put, List.setIfInBounds_toArray, List.set_cons_zero, List.set_cons_succ])
    refine wpAnyH_take (i := 3) (oi := ⟨some 28, _, _, _, _, _⟩) (v := ?_) rfl (by kernel_rfl) (by kernel_rfl) (by kernel_rfl) (fun _ _ _ h => h) (Or.inl ⟨by rfl, ?_⟩) (by assumption) ?_
    rotate_left
    · (intro w' hSw; clear hSw; go_simp; try (with_reducible rfl))
    (try simp only [Act.put, List.setIfInBounds_toArray, List.set_cons_zero, List.set_cons_succ])
    refine wpAnyH_done (by kernel_rfl) ?_ _
    refine NoPanic.normal ?_
    go_wp2
    go_ret2
    exact ⟨by rw [show (r : Int) = 40320 - nw by omega]; rfl, b_cl B3 (Nat.le_refl _) hHeld⟩
  have hE : eqT Y1 noneF = false := h3 (by omega)
  have h2 := h2 (by omega)
  rw [h2] at LE
  clear h1 h3
  have wr1 := wrap14 (r : Int) (by omega) (by omega)
  have wr2 : IntKind.i64.wrap (nw + (r : Int) - nw) = (r : Int) := by rw [show nw + (r : Int) - nw = (r : Int) by omega]; exact wr1
  refine wp_region_noPanic ?_
  refine wp_region_held_drew (S := fun w' => Below w3.heap.size w3 w') (by kernel_rfl) ?_ (fun hHeld => ?_)
  · exact b_dr (Below.refl _ _)
  refine wpAnyH_take (i := 0) (oi := ⟨some 29, _, _, _, _, _⟩) (v := .agg (tn Y1)) rfl (by kernel_rfl) (by kernel_rfl) (by kernel_rfl) (fun _ _ _ h => h) (Or.inl ⟨by rfl, fun w' hSw => exec_load_box R 29 _ _ w' rfl rfl (YB.below hSw) Try.underlying29 rfl (by kernel_rfl)⟩) (by assumption) ?_
  (try simp only [Act.put, List.setIfInBounds_toArray, List.set_cons_zero, List.set_cons_succ])
  refine wpAnyH_ready (rs := [1]) (by kernel_rfl) (by simp) ?_
  refine AllReadyH.cons (o := ⟨some 30, _, _, _, _, _⟩) rfl (fun K hK => ?_) AllReadyH.nil
  go_simp
  (go_at_call 16; (with_reducible refine (none_any _).mono ?_); rintro e w4 ⟨rfl, hb4⟩)
  go_wp2_with fail
  refine hK.out _ _ (b_cl hHeld (Nat.le_refl _) (by assumption)) (fun hHeld => ?_)
  clear hK K
  (try simp only [Act.put, List.setIfInBounds_toArray, List.set_cons_zero, List.set_cons_succ])
  refine wpAnyH_take (i := 2) (oi := ⟨some 31, _, _, _, _, _⟩) (v := .bool false) rfl (by kernel_rfl) (by kernel_rfl) (by kernel_rfl) (fun _ _ _ h => h) (Or.inl ⟨by rfl, fun w' hSw => exec_eqv_fi Y1 noneF false hE w' rfl rfl rfl⟩) (by assumption) ?_
  (try simp only [Act.put, List.setIfInBounds_toArray, List.set_cons_zero, List.set_cons_succ])
  refine wpAnyH_take (i := 3) (oi := ⟨some 28, _, _, _, _, _⟩) (v := ?_) rfl (by kernel_rfl) (by kernel_rfl) (by kernel_rfl) (fun _ _ _ h => h) (Or.inl ⟨by rfl, ?_⟩) (by assumption) ?_
  rotate_left
  · (intro w' hSw; clear hSw; go_simp; try (with_reducible rfl))
  (try simp only [Act.put, List.setIfInBounds_toArray, List.set_cons_zero, List.set_cons_succ])
  refine wpAnyH_done (by kernel_rfl) ?_ _
  refine NoPanic.normal ?_
  go_upto_region 7 with fail
  have YB5 := YB.below hHeld
  have g5 := c_cl g0 hHeld
  have B5 := b_cl B3 (Nat.le_refl _) hHeld
  clear YB g0 B3 hHeld
  refine wp_region_noPanic ?_
  refine wp_region_held_drew (S := fun w' => Below w4.heap.size w4 w') (by kernel_rfl) ?_ (fun hHeld => ?_)
  · exact b_dr (Below.refl _ _)
  refine wpAnyH_take (i := 0) (oi := ⟨some 33, _, _, _, _, _⟩) (v := .agg (tn Y1)) rfl (by kernel_rfl) (by kernel_rfl) (by kernel_rfl) (fun _ _ _ h => h) (Or.inl ⟨by rfl, fun w' hSw => exec_load_box R 29 _ _ w' rfl rfl (YB5.below hSw) Try.underlying29 rfl (by kernel_rfl)⟩) (by assumption) ?_
  (try simp only [Act.put, List.setIfInBounds_toArray, List.set_cons_zero, List.set_cons_succ])
  refine wpAnyH_take (i := 2) (oi := ⟨some 35, _, _, _, _, _⟩) (v := ?_) rfl (by kernel_rfl) (by kernel_rfl) (by kernel_rfl) (fun _ _ _ h => h) (Or.inl ⟨by rfl, ?_⟩) (by assumption) ?_
  rotate_left
  · (intro w' hSw; clear hSw; go_simp; try (with_reducible rfl))
  (try simp only [Act.put, List.setIfInBounds_toArray, List.set_cons_zero, List.set_cons_succ])
  refine wpAnyH_take (i := 3) (oi := ⟨some 36, _, _, _, _, _⟩) (v := ?_) rfl (by kernel_rfl) (by kernel_rfl) (by kernel_rfl) (fun _ _ _ h => h) (Or.inl ⟨by rfl, ?_⟩) (by assumption) ?_
  rotate_left
  · (intro w' hSw; have q0 := c_cl g5 hSw; clear hSw; go_simp; try (with_reducible rfl))
  (try simp only [Act.put, List.setIfInBounds_toArray, List.set_cons_zero, List.set_cons_succ])
  refine wpAnyH_ready (rs := [1]) (by kernel_rfl) (by simp) ?_
  refine AllReadyH.cons (o := ⟨some 34, _, _, _, _, _⟩) rfl (fun K hK => ?_) AllReadyH.nil
  go_simp
  (go_at_call 12; (with_reducible refine (LE _).mono ?_); rintro e w5 ⟨rfl, hb5⟩)
  go_wp2_with fail
  refine hK.out _ _ (b_cl hHeld (Nat.le_refl _) (by assumption)) (fun hHeld => ?_)
  clear hK K
  (try simp only [Act.put, List.setIfInBounds_toArray, List.set_cons_zero, List.set_cons_succ])
  refine wpAnyH_take (i := 4) (oi := ⟨some 37, _, _, _, _, _⟩) (v := ?_) rfl (by kernel_rfl) (by kernel_rfl) (by kernel_rfl) (fun _ _ _ h => h) (Or.inl ⟨by rfl, ?_⟩) (by assumption) ?_
  rotate_left
  · (intro w' hSw; clear hSw; go_simp; try (with_reducible rfl))
  (try simp only [Act.put, List.setIfInBounds_toArray, List.set_cons_zero, List.set_cons_succ])
  refine wpAnyH_take (i := 5) (oi := ⟨some 6, _, _, _, _, _⟩) (v := ?_) rfl (by kernel_rfl) (by kernel_rfl) (by kernel_rfl) (fun _ _ _ h => h) (Or.inl ⟨by rfl, ?_⟩) (by assumption) ?_
  rotate_left
  · (intro w' hSw; clear hSw; go_simp; try (with_reducible rfl))
  (try simp only [Act.put, List.setIfInBounds_toArray, List.set_cons_zero, List.set_cons_succ])
  refine wpAnyH_take (i := 6) (oi := ⟨some 7, _, _, _, _, _⟩) (v := ?_) rfl (by kernel_rfl) (by kernel_rfl) (by kernel_rfl) (fun _ _ _ h => h) (Or.inl ⟨by rfl, ?_⟩) (by assumption) ?_
  rotate_left
  · (intro w' hSw; clear hSw; go_simp; try (with_reducible rfl))
  (try simp only [Act.put, List.setIfInBounds_toArray, List.set_cons_zero, List.set_cons_succ])
  refine wpAnyH_done (by kernel_rfl) ?_ _
  refine NoPanic.normal ?_
  go_wp2
  go_ret2
  exact ⟨rfl, b_cl B5 (Nat.le_refl _) hHeld⟩

end Go.Proofs.Ytndhagflfbblaaa
