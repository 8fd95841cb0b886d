/- What the document's Step says of a minute of rest. Conditions: the tasks can be read and may be, the spot is right. -/
import Derived.Test.YtolbihfnogbjaaaRows
import Derived.Test.YtolbihfnogbjaaaBase
import Derived.Test.YtolbihfnogbjaaaZ2
import Derived.Test.YtolbihfnogbjaaaZ3
import Derived.Test.YtolbihfnogbjaaaZ1
import Derived.Test.YtolbihfnogbjaaaZ7
import Derived.Test.YtolbihfnogbjaaaErrandSpot
import Derived.Test.YtolbihfnogbjaaaZ5
import Derived.Test.YtolbihfnogbjaaaZ8
import Derived.WalkKit
import Derived.WalkSpells
import Derived.WalkSmall
import Derived.Below
import Derived.Lib.Hide
import Derived.Outline
import Derived.Deep.DeepCutAuto
import Derived.OwnWalk
import Derived.BigQuiet
import Derived.Deep.QuietTactic
import Derived.Deep.LoopGhost
import Derived.WalkMore
import Derived.OrdersHeld
import Derived.Deep.RegionHeld3
namespace Go.Proofs.Ytolbihfnogbjaaa
open Go.RowKit

set_option linter.unusedVariables false in
set_option maxRecDepth 20000 in
set_option maxHeartbeats 2000000 in
theorem refstep_rest (A : Option Addr) (n c : Nat) (l : List Tk) (hn : l.length = n) (i x y m k : Int) (w : World) (h : RdK w A l) (few : Few l) (hl : n ≤ 2001) (ok : ∀ t ∈ l, TkOk t) (fit : Fits l (i, x, y)) (k3 : ¬ k = 3) (k2 : ¬ k = 2) :
    Calls Try.prog 25 #[.slice A n c, .agg #[.int .i64 i, .int .i64 x, .int .i64 y], .int .i64 m, .int .i64 k] w fun e w' => e = .returned (.tuple #[.agg (sp3 (stepT l (i, x, y) k)), .agg #[.bool (b0 l (i, x, y) k), .bool (b1 l (i, x, y) k), .bool (b2 l (i, x, y) m k), .bool (b3 (i, x, y) k)]]) ∧ Below w.heap.size w w' := by
  have fit0 := fit
  obtain ⟨i0, i1, fend, _⟩ := fit0
  simp only at i0 i1
  rw [hn] at i1
  obtain ⟨j, rfl⟩ : ∃ j : Nat, i = j := ⟨i.toNat, by omega⟩
  have HK := Lib.hid h
  have E0 : b0 l ((j : Int), x, y) k = false := by unfold b0; exact decide_eq_false (fun c => k3 c.1)
  have E1 : b1 l ((j : Int), x, y) k = false := by unfold b1; exact decide_eq_false (fun c => k2 c.1)
  have E2 : b2 l ((j : Int), x, y) m k = false := by unfold b2; exact decide_eq_false (fun c => k2 c.1)
  have kk3 : (k == 3) = false := by simp [k3]
  have kk2 : (k == 2) = false := by simp [k2]
  have kk1 : (k != 2) = true := by simp [k2]
  by_cases hy : 0 < y
  · have E3 : b3 ((j : Int), x, y) k = true := by unfold b3; exact decide_eq_true ⟨hy, k2⟩
    clear fend
    rw [E0, E1, E2, E3, go_stay (s := ((j : Int), x, y)) (fun c => k3 c.1) (fun c => k2 c.1)]
    have NR : Near l ((j : Int), x, y) := fit.near
    have CP := fun W (h : RdK W A l) => refpast19_any A n c l hn (j : Int) (x) (y) W h (by omega) ok NR
    obtain ⟨⟨i2, x2, y2⟩, hP⟩ : ∃ P, pastT l ((j : Int), x, y) = P := ⟨_, rfl⟩
    try simp only at ⊢
    rw [hP] at CP ⊢
    unfold sp3 at CP ⊢
    simp only at CP ⊢
    clear k3 k2
    clear E0 E1 E2 E3 NR hP ok few fit h i0 i1 hn
    have S0 : Bx ((((w.alloc (.cells #[.int .i64 (j : Int), .int .i64 x, .int .i64 y] 28)).alloc (.cells #[.int .i64 0, .int .i64 0, .int .i64 0] 28)).alloc (.cells #[.bool false, .bool false, .bool false, .bool false] 70)).alloc (.cells #[.bool false, .bool false, .bool false, .bool false] 70)) (w.heap.size) 28 #[.int .i64 (j : Int), .int .i64 x, .int .i64 y] := (((Bx.new (W := w) _ _ rfl).alloc _).alloc _).alloc _
    have P0 : Bx ((((w.alloc (.cells #[.int .i64 (j : Int), .int .i64 x, .int .i64 y] 28)).alloc (.cells #[.int .i64 0, .int .i64 0, .int .i64 0] 28)).alloc (.cells #[.bool false, .bool false, .bool false, .bool false] 70)).alloc (.cells #[.bool false, .bool false, .bool false, .bool false] 70)) (w.heap.size + 1) 28 #[.int .i64 0, .int .i64 0, .int .i64 0] := ((Bx.new (W := w.alloc (.cells #[.int .i64 (j : Int), .int .i64 x, .int .i64 y] 28)) _ _ (by simp)).alloc _).alloc _
    have Q0 : Bx ((((w.alloc (.cells #[.int .i64 (j : Int), .int .i64 x, .int .i64 y] 28)).alloc (.cells #[.int .i64 0, .int .i64 0, .int .i64 0] 28)).alloc (.cells #[.bool false, .bool false, .bool false, .bool false] 70)).alloc (.cells #[.bool false, .bool false, .bool false, .bool false] 70)) (w.heap.size + 1 + 1) 70 #[.bool false, .bool false, .bool false, .bool false] := (Bx.new (W := (w.alloc (.cells #[.int .i64 (j : Int), .int .i64 x, .int .i64 y] 28)).alloc (.cells #[.int .i64 0, .int .i64 0, .int .i64 0] 28)) _ _ (by simp)).alloc _
    have X0 : Bx ((((w.alloc (.cells #[.int .i64 (j : Int), .int .i64 x, .int .i64 y] 28)).alloc (.cells #[.int .i64 0, .int .i64 0, .int .i64 0] 28)).alloc (.cells #[.bool false, .bool false, .bool false, .bool false] 70)).alloc (.cells #[.bool false, .bool false, .bool false, .bool false] 70)) (w.heap.size + 1 + 1 + 1) 70 #[.bool false, .bool false, .bool false, .bool false] := Bx.new (W := ((w.alloc (.cells #[.int .i64 (j : Int), .int .i64 x, .int .i64 y] 28)).alloc (.cells #[.int .i64 0, .int .i64 0, .int .i64 0] 28)).alloc (.cells #[.bool false, .bool false, .bool false, .bool false] 70)) _ _ (by simp)
    have B0 : Below w.heap.size w ((((w.alloc (.cells #[.int .i64 (j : Int), .int .i64 x, .int .i64 y] 28)).alloc (.cells #[.int .i64 0, .int .i64 0, .int .i64 0] 28)).alloc (.cells #[.bool false, .bool false, .bool false, .bool false] 70)).alloc (.cells #[.bool false, .bool false, .bool false, .bool false] 70)) := by (repeat (first | exact Below.refl _ _ | (refine b_st ?_ (by first | (simp; done) | (simp; omega))) | (refine b_al ?_ (Nat.le_refl _) _) | refine b_dn ?_ | refine b_dr ?_ | (refine b_cl ?_ (Nat.le_refl _) (by assumption))))
    have HS0 := Lib.hid S0
    have HP0 := Lib.hid P0
    have HQ0 := Lib.hid Q0
    have HX0 := Lib.hid X0
    have HB0 := Lib.hid B0
    clear S0 P0 Q0 X0 B0
    go_enter Try.func25, Try.ntmps25
    go_upto_region 14 with (refine wpList_store_fld (by rfl) 4 (.tmp 24) (.tmp 23) rfl (w.heap.size + 1 + 1 + 1) 3 (.bool true) rfl rfl rfl 70 #[.bool false, .bool false, .bool false, .bool false] HX0.out (show 3 < 4 by decide) (by kernel_rfl) (fun w3 u3 => ?_); have HX3 := Lib.hid u3.box; have HS3 := Lib.hid (u3.bx HS0.out (by omega)); have HP3 := Lib.hid (u3.bx HP0.out (by omega)); have HQ3 := Lib.hid (u3.bx HQ0.out (by omega)); have HB3 := Lib.hid (HB0.out.trans (u3.bel _ (by omega))); clear u3; have ls3 : w.heap.size + 1 + 1 + 1 < w3.heap.size := HX3.out.lt; have p0_3 := HS3.out.cell (k := 0) rfl; have p1_3 := HS3.out.cell (k := 1) rfl; have p2_3 := HS3.out.cell (k := 2) rfl)
    have YS := Lib.hid (show Bx w3 (w.heap.size) 28 #[.int .i64 (j : Int), .int .i64 x, .int .i64 y] from HS3.out)
    have YX := Lib.hid (show Bx w3 (w.heap.size + 1 + 1 + 1) 70 #[.bool false, .bool false, .bool false, .bool true] from HX3.out)
    have HKW := Lib.hid (HK.out.below HB3.out)
    refine wp_region_noPanic ?_
    refine wp_region_held_drew (S := fun w' => Bx w' (w.heap.size) 28 #[.int .i64 (j : Int), .int .i64 x, .int .i64 y] ∧ Bx w' (w.heap.size + 1 + 1 + 1) 70 #[.bool false, .bool false, .bool false, .bool true]) (by kernel_rfl) ?_ (fun hHeld => ?_)
    · exact ⟨YS.out.drew, YX.out.drew⟩
    refine wpAnyH_take (i := 0) (oi := ⟨some 90, _, _, _, _, _⟩) (v := ?_) rfl (by kernel_rfl) (by kernel_rfl) (by kernel_rfl) (fun _ _ _ h => h) (Or.inl ⟨by rfl, ?_⟩) (by assumption) ?_
    rotate_left
    · (intro w' hSw; clear hSw; go_simp; try (with_reducible rfl))
    (try simp only [Act.put, List.setIfInBounds_toArray, List.set_cons_zero, List.set_cons_succ])
    refine wpAnyH_take (i := 1) (oi := ⟨some 91, _, _, _, _, _⟩) (v := .agg #[.int .i64 (j : Int), .int .i64 x, .int .i64 y]) rfl (by kernel_rfl) (by kernel_rfl) (by kernel_rfl) (fun _ _ _ h => h) (Or.inl ⟨by rfl, fun w' hSw => exec_load_box (w.heap.size) 28 #[.int .i64 (j : Int), .int .i64 x, .int .i64 y] _ w' rfl rfl hSw.1 Try.underlying28 rfl (by kernel_rfl)⟩) (by assumption) ?_
    (try simp only [Act.put, List.setIfInBounds_toArray, List.set_cons_zero, List.set_cons_succ])
    refine wpAnyH_take (i := 3) (oi := ⟨some 93, _, _, _, _, _⟩) (v := .agg #[.bool false, .bool false, .bool false, .bool true]) rfl (by kernel_rfl) (by kernel_rfl) (by kernel_rfl) (fun _ _ _ h => h) (Or.inl ⟨by rfl, fun w' hSw => exec_load_box (w.heap.size + 1 + 1 + 1) 70 #[.bool false, .bool false, .bool false, .bool true] _ w' rfl rfl hSw.2 Try.underlying70 rfl (by kernel_rfl)⟩) (by assumption) ?_
    (try simp only [Act.put, List.setIfInBounds_toArray, List.set_cons_zero, List.set_cons_succ])
    refine wpAnyH_ready (rs := [2]) (by kernel_rfl) (by simp) ?_
    refine AllReadyH.cons (o := ⟨some 92, _, _, _, _, _⟩) rfl (fun K hK => ?_) AllReadyH.nil
    go_simp
    (go_at_call 39; refine (CP _ (HKW.out.below (b_dr (Below.refl _ _)))).mono ?_; rintro e w7 ⟨rfl, hb7⟩)
    go_wp2_with fail
    refine hK.out _ _ ⟨hHeld.1.below hb7, hHeld.2.below hb7⟩ (fun hHeld => ?_)
    clear hK K
    (try simp only [Act.put, List.setIfInBounds_toArray, List.set_cons_zero, List.set_cons_succ])
    refine wpAnyH_ready (rs := [4]) (by kernel_rfl) (by simp) ?_
    refine AllReadyH.cons (o := ⟨none, _, _, _, _, _⟩) rfl (fun K hK => ?_) AllReadyH.nil
    refine wp_store_any 28 _ _ rfl (w.heap.size + 1) #[.int .i64 i2, .int .i64 x2, .int .i64 y2] rfl rfl 28 #[.int .i64 0, .int .i64 0, .int .i64 0] (HP3.out.drew.below hb7) (by kernel_rfl) rfl (one3 _ _ _) (fun w8 u => ?_)
    refine hK.out _ _ ⟨u.bx hHeld.1 (by omega), u.bx hHeld.2 (by omega)⟩ (fun hHeld => ?_)
    clear hK K
    (try simp only [Act.put])
    refine wpAnyH_ready (rs := [5]) (by kernel_rfl) (by simp) ?_
    refine AllReadyH.cons (o := ⟨none, _, _, _, _, _⟩) rfl (fun K hK => ?_) AllReadyH.nil
    refine wp_store_any 70 _ _ rfl (w.heap.size + 1 + 1) #[.bool false, .bool false, .bool false, .bool true] rfl rfl 70 #[.bool false, .bool false, .bool false, .bool false] (u.bx (HQ3.out.drew.below hb7) (by omega)) (by kernel_rfl) rfl (oneb _ _ _ _) (fun w9 u2 => ?_)
    refine hK.out _ _ ⟨u2.bx hHeld.1 (by omega), u2.bx hHeld.2 (by omega)⟩ (fun hHeld => ?_)
    clear hK K
    (try simp only [Act.put])
    refine wpAnyH_done (by kernel_rfl) ?_ _
    refine NoPanic.normal ?_
    go_wp2_with fail
    refine bodyPost_ret (results_boxes Try.results25 _ _ (w.heap.size + 1) (w.heap.size + 1 + 1) 28 70 #[.int .i64 i2, .int .i64 x2, .int .i64 y2] #[.bool false, .bool false, .bool false, .bool true] _ _ rfl (u2.bx u.box (by omega)) rfl u2.box Try.underlying28 rfl (by kernel_rfl) Try.underlying70 rfl (by kernel_rfl)) rfl ⟨rfl, ?_⟩
    have hbd := b_dr (b_dr HB3.out)
    exact ((b_cl (b_dr HB3.out) (Nat.le_refl _) hb7).trans (u.bel _ (by omega))).trans (u2.bel _ (by omega))
  · have E3 : b3 ((j : Int), x, y) k = false := by unfold b3; exact decide_eq_false (fun c => hy c.1)
    have hy' : y ≤ 0 := by omega
    clear fend hy
    rw [E0, E1, E2, E3, go_stay (s := ((j : Int), x, y)) (fun c => k3 c.1) (fun c => k2 c.1)]
    have NR : Near l ((j : Int), x, y) := fit.near
    have CP := fun W (h : RdK W A l) => refpast19_any A n c l hn (j : Int) (x) (y) W h (by omega) ok NR
    obtain ⟨⟨i2, x2, y2⟩, hP⟩ : ∃ P, pastT l ((j : Int), x, y) = P := ⟨_, rfl⟩
    try simp only at ⊢
    rw [hP] at CP ⊢
    unfold sp3 at CP ⊢
    simp only at CP ⊢
    clear k3 k2
    clear E0 E1 E2 E3 NR hP ok few fit h i0 i1 hn
    have S0 : Bx ((((w.alloc (.cells #[.int .i64 (j : Int), .int .i64 x, .int .i64 y] 28)).alloc (.cells #[.int .i64 0, .int .i64 0, .int .i64 0] 28)).alloc (.cells #[.bool false, .bool false, .bool false, .bool false] 70)).alloc (.cells #[.bool false, .bool false, .bool false, .bool false] 70)) (w.heap.size) 28 #[.int .i64 (j : Int), .int .i64 x, .int .i64 y] := (((Bx.new (W := w) _ _ rfl).alloc _).alloc _).alloc _
    have P0 : Bx ((((w.alloc (.cells #[.int .i64 (j : Int), .int .i64 x, .int .i64 y] 28)).alloc (.cells #[.int .i64 0, .int .i64 0, .int .i64 0] 28)).alloc (.cells #[.bool false, .bool false, .bool false, .bool false] 70)).alloc (.cells #[.bool false, .bool false, .bool false, .bool false] 70)) (w.heap.size + 1) 28 #[.int .i64 0, .int .i64 0, .int .i64 0] := ((Bx.new (W := w.alloc (.cells #[.int .i64 (j : Int), .int .i64 x, .int .i64 y] 28)) _ _ (by simp)).alloc _).alloc _
    have Q0 : Bx ((((w.alloc (.cells #[.int .i64 (j : Int), .int .i64 x, .int .i64 y] 28)).alloc (.cells #[.int .i64 0, .int .i64 0, .int .i64 0] 28)).alloc (.cells #[.bool false, .bool false, .bool false, .bool false] 70)).alloc (.cells #[.bool false, .bool false, .bool false, .bool false] 70)) (w.heap.size + 1 + 1) 70 #[.bool false, .bool false, .bool false, .bool false] := (Bx.new (W := (w.alloc (.cells #[.int .i64 (j : Int), .int .i64 x, .int .i64 y] 28)).alloc (.cells #[.int .i64 0, .int .i64 0, .int .i64 0] 28)) _ _ (by simp)).alloc _
    have X0 : Bx ((((w.alloc (.cells #[.int .i64 (j : Int), .int .i64 x, .int .i64 y] 28)).alloc (.cells #[.int .i64 0, .int .i64 0, .int .i64 0] 28)).alloc (.cells #[.bool false, .bool false, .bool false, .bool false] 70)).alloc (.cells #[.bool false, .bool false, .bool false, .bool false] 70)) (w.heap.size + 1 + 1 + 1) 70 #[.bool false, .bool false, .bool false, .bool false] := Bx.new (W := ((w.alloc (.cells #[.int .i64 (j : Int), .int .i64 x, .int .i64 y] 28)).alloc (.cells #[.int .i64 0, .int .i64 0, .int .i64 0] 28)).alloc (.cells #[.bool false, .bool false, .bool false, .bool false] 70)) _ _ (by simp)
    have B0 : Below w.heap.size w ((((w.alloc (.cells #[.int .i64 (j : Int), .int .i64 x, .int .i64 y] 28)).alloc (.cells #[.int .i64 0, .int .i64 0, .int .i64 0] 28)).alloc (.cells #[.bool false, .bool false, .bool false, .bool false] 70)).alloc (.cells #[.bool false, .bool false, .bool false, .bool false] 70)) := by (repeat (first | exact Below.refl _ _ | (refine b_st ?_ (by first | (simp; done) | (simp; omega))) | (refine b_al ?_ (Nat.le_refl _) _) | refine b_dn ?_ | refine b_dr ?_ | (refine b_cl ?_ (Nat.le_refl _) (by assumption))))
    have HS0 := Lib.hid S0
    have HP0 := Lib.hid P0
    have HQ0 := Lib.hid Q0
    have HX0 := Lib.hid X0
    have HB0 := Lib.hid B0
    clear S0 P0 Q0 X0 B0
    go_enter Try.func25, Try.ntmps25
    go_upto_region 14 with (refine wpList_store_fld (by rfl) 4 (.tmp 24) (.tmp 23) rfl (w.heap.size + 1 + 1 + 1) 3 (.bool false) rfl rfl rfl 70 #[.bool false, .bool false, .bool false, .bool false] HX0.out (show 3 < 4 by decide) (by kernel_rfl) (fun w3 u3 => ?_); have HX3 := Lib.hid u3.box; have HS3 := Lib.hid (u3.bx HS0.out (by omega)); have HP3 := Lib.hid (u3.bx HP0.out (by omega)); have HQ3 := Lib.hid (u3.bx HQ0.out (by omega)); have HB3 := Lib.hid (HB0.out.trans (u3.bel _ (by omega))); clear u3; have ls3 : w.heap.size + 1 + 1 + 1 < w3.heap.size := HX3.out.lt; have p0_3 := HS3.out.cell (k := 0) rfl; have p1_3 := HS3.out.cell (k := 1) rfl; have p2_3 := HS3.out.cell (k := 2) rfl)
    have YS := Lib.hid (show Bx w3 (w.heap.size) 28 #[.int .i64 (j : Int), .int .i64 x, .int .i64 y] from HS3.out)
    have YX := Lib.hid (show Bx w3 (w.heap.size + 1 + 1 + 1) 70 #[.bool false, .bool false, .bool false, .bool false] from HX3.out)
    have HKW := Lib.hid (HK.out.below HB3.out)
    refine wp_region_noPanic ?_
    refine wp_region_held_drew (S := fun w' => Bx w' (w.heap.size) 28 #[.int .i64 (j : Int), .int .i64 x, .int .i64 y] ∧ Bx w' (w.heap.size + 1 + 1 + 1) 70 #[.bool false, .bool false, .bool false, .bool false]) (by kernel_rfl) ?_ (fun hHeld => ?_)
    · exact ⟨YS.out.drew, YX.out.drew⟩
    refine wpAnyH_take (i := 0) (oi := ⟨some 90, _, _, _, _, _⟩) (v := ?_) rfl (by kernel_rfl) (by kernel_rfl) (by kernel_rfl) (fun _ _ _ h => h) (Or.inl ⟨by rfl, ?_⟩) (by assumption) ?_
    rotate_left
    · (intro w' hSw; clear hSw; go_simp; try (with_reducible rfl))
    (try simp only [Act.put, List.setIfInBounds_toArray, List.set_cons_zero, List.set_cons_succ])
    refine wpAnyH_take (i := 1) (oi := ⟨some 91, _, _, _, _, _⟩) (v := .agg #[.int .i64 (j : Int), .int .i64 x, .int .i64 y]) rfl (by kernel_rfl) (by kernel_rfl) (by kernel_rfl) (fun _ _ _ h => h) (Or.inl ⟨by rfl, fun w' hSw => exec_load_box (w.heap.size) 28 #[.int .i64 (j : Int), .int .i64 x, .int .i64 y] _ w' rfl rfl hSw.1 Try.underlying28 rfl (by kernel_rfl)⟩) (by assumption) ?_
    (try simp only [Act.put, List.setIfInBounds_toArray, List.set_cons_zero, List.set_cons_succ])
    refine wpAnyH_take (i := 3) (oi := ⟨some 93, _, _, _, _, _⟩) (v := .agg #[.bool false, .bool false, .bool false, .bool false]) rfl (by kernel_rfl) (by kernel_rfl) (by kernel_rfl) (fun _ _ _ h => h) (Or.inl ⟨by rfl, fun w' hSw => exec_load_box (w.heap.size + 1 + 1 + 1) 70 #[.bool false, .bool false, .bool false, .bool false] _ w' rfl rfl hSw.2 Try.underlying70 rfl (by kernel_rfl)⟩) (by assumption) ?_
    (try simp only [Act.put, List.setIfInBounds_toArray, List.set_cons_zero, List.set_cons_succ])
    refine wpAnyH_ready (rs := [2]) (by kernel_rfl) (by simp) ?_
    refine AllReadyH.cons (o := ⟨some 92, _, _, _, _, _⟩) rfl (fun K hK => ?_) AllReadyH.nil
    go_simp
    (go_at_call 39; refine (CP _ (HKW.out.below (b_dr (Below.refl _ _)))).mono ?_; rintro e w7 ⟨rfl, hb7⟩)
    go_wp2_with fail
    refine hK.out _ _ ⟨hHeld.1.below hb7, hHeld.2.below hb7⟩ (fun hHeld => ?_)
    clear hK K
    (try simp only [Act.put, List.setIfInBounds_toArray, List.set_cons_zero, List.set_cons_succ])
    refine wpAnyH_ready (rs := [4]) (by kernel_rfl) (by simp) ?_
    refine AllReadyH.cons (o := ⟨none, _, _, _, _, _⟩) rfl (fun K hK => ?_) AllReadyH.nil
    refine wp_store_any 28 _ _ rfl (w.heap.size + 1) #[.int .i64 i2, .int .i64 x2, .int .i64 y2] rfl rfl 28 #[.int .i64 0, .int .i64 0, .int .i64 0] (HP3.out.drew.below hb7) (by kernel_rfl) rfl (one3 _ _ _) (fun w8 u => ?_)
    refine hK.out _ _ ⟨u.bx hHeld.1 (by omega), u.bx hHeld.2 (by omega)⟩ (fun hHeld => ?_)
    clear hK K
    (try simp only [Act.put])
    refine wpAnyH_ready (rs := [5]) (by kernel_rfl) (by simp) ?_
    refine AllReadyH.cons (o := ⟨none, _, _, _, _, _⟩) rfl (fun K hK => ?_) AllReadyH.nil
    refine wp_store_any 70 _ _ rfl (w.heap.size + 1 + 1) #[.bool false, .bool false, .bool false, .bool false] rfl rfl 70 #[.bool false, .bool false, .bool false, .bool false] (u.bx (HQ3.out.drew.below hb7) (by omega)) (by kernel_rfl) rfl (oneb _ _ _ _) (fun w9 u2 => ?_)
    refine hK.out _ _ ⟨u2.bx hHeld.1 (by omega), u2.bx hHeld.2 (by omega)⟩ (fun hHeld => ?_)
    clear hK K
    (try simp only [Act.put])
    refine wpAnyH_done (by kernel_rfl) ?_ _
    refine NoPanic.normal ?_
    go_wp2_with fail
    refine bodyPost_ret (results_boxes Try.results25 _ _ (w.heap.size + 1) (w.heap.size + 1 + 1) 28 70 #[.int .i64 i2, .int .i64 x2, .int .i64 y2] #[.bool false, .bool false, .bool false, .bool false] _ _ rfl (u2.bx u.box (by omega)) rfl u2.box Try.underlying28 rfl (by kernel_rfl) Try.underlying70 rfl (by kernel_rfl)) rfl ⟨rfl, ?_⟩
    have hbd := b_dr (b_dr HB3.out)
    exact ((b_cl (b_dr HB3.out) (Nat.le_refl _) hb7).trans (u.bel _ (by omega))).trans (u2.bel _ (by omega))

end Go.Proofs.Ytolbihfnogbjaaa
