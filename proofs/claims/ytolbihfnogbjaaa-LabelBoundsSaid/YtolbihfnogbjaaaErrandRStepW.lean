/- What the document's Step says of a minute of work. Conditions: the tasks can be read and may be, the spot is right. -/
import Derived.Test.YtolbihfnogbjaaaRows
import Derived.Test.YtolbihfnogbjaaaBase
import Derived.Test.YtolbihfnogbjaaaZ2
import Derived.Test.YtolbihfnogbjaaaZ3
import Derived.Test.YtolbihfnogbjaaaZ1
import Derived.Test.YtolbihfnogbjaaaZ7
import Derived.Test.YtolbihfnogbjaaaErrandSpot
import Derived.Test.YtolbihfnogbjaaaZ5
import Derived.Test.YtolbihfnogbjaaaZ8
import Derived.WalkKit
import Derived.WalkSpells
import Derived.WalkSmall
import Derived.Below
import Derived.Lib.Hide
import Derived.Outline
import Derived.Deep.DeepCutAuto
import Derived.OwnWalk
import Derived.BigQuiet
import Derived.Deep.QuietTactic
import Derived.Deep.LoopGhost
import Derived.WalkMore
import Derived.OrdersHeld
import Derived.Deep.RegionHeld3
namespace Go.Proofs.Ytolbihfnogbjaaa
open Go.RowKit

set_option linter.unusedVariables false in
set_option maxRecDepth 20000 in
set_option maxHeartbeats 8000000 in
theorem refstep_work (A : Option Addr) (n c : Nat) (l : List Tk) (hn : l.length = n) (i x y m : Int) (w : World) (h : RdK w A l) (few : Few l) (hl : n ≤ 2001) (ok : ∀ t ∈ l, TkOk t) (fit : Fits l (i, x, y)) :
    Calls Try.prog 25 #[.slice A n c, .agg #[.int .i64 i, .int .i64 x, .int .i64 y], .int .i64 m, .int .i64 2] w fun e w' => e = .returned (.tuple #[.agg (sp3 (stepT l (i, x, y) 2)), .agg #[.bool (b0 l (i, x, y) 2), .bool (b1 l (i, x, y) 2), .bool (b2 l (i, x, y) m 2), .bool (b3 (i, x, y) 2)]]) ∧ Below w.heap.size w w' := by
  have fit0 := fit
  obtain ⟨i0, i1, fend, _⟩ := fit0
  simp only at i0 i1
  rw [hn] at i1
  obtain ⟨j, rfl⟩ : ∃ j : Nat, i = j := ⟨i.toNat, by omega⟩
  have HK := Lib.hid h
  refine id ?_
  ·
    have E0 : b0 l ((j : Int), x, y) 2 = false := by unfold b0; simp
    have E3 : b3 ((j : Int), x, y) 2 = false := by unfold b3; simp
    by_cases hj : j < n
    case pos =>
      obtain ⟨b, off, d, v, B, q, u, rfl, hbb, h0, h1, h2, hs⟩ := h.at_ (k := j) (by omega)
      obtain ⟨o, ho, hoq, hro⟩ := hs.out
      have e9 : tk l (j : Int) = (d, v, o) := ho
      have jlt : (j : Int) < (n : Int) := by omega
      have dl : decide ((j : Int) < (n : Int)) = true := decide_eq_true (by omega)
      have tok := ok _ (tk_mem (l := l) (i := (j : Int)) (by omega) (by omega))
      have ft := fit.2.2.2 (by simp only; omega)
      rw [e9] at tok ft
      simp only at ft
      obtain ⟨ft1, ft2, ft3, ft4, ft5, ft6⟩ := ft
      obtain ⟨tk1, tk2, tk3, tk4⟩ := tok
      simp only at tk1 tk2 tk3 tk4
      by_cases hd : x = d
      case pos =>
        have hv : y < v := by omega
        have can : CanW l ((j : Int), x, y) := ⟨by simp only; omega, by simp only; rw [e9]; exact hd, by simp only; rw [e9]; exact hv⟩
        have E1 : b1 l ((j : Int), x, y) 2 = false := by unfold b1; exact decide_eq_false (fun c => c.2 can)
        have NR0 := (go_near fit 2)
        unfold goT at NR0
        rw [if_neg (fun c => absurd c.1 (by decide)), if_pos ⟨rfl, can⟩] at NR0
        simp only at NR0
        have ed : (x == d) = true := by simp [hd]
        have dv : decide (y < v) = true := decide_eq_true hv
        have CH := fun W (h : RdS W B o) => refhasl_any B u o m W h (few.at_ (by omega) ho)
        rw [hoq] at CH
        have HRo := Lib.hid hro
        by_cases hy : y = 0
        · have ey : (y == 0) = true := by simp [hy]
          have hy' : y ≤ 0 := by omega
          have yb : 0 ≤ y := by omega
          cases hh : hasL o m with
          | true =>
            have E2 : b2 l ((j : Int), x, y) m 2 = false := by unfold b2; exact decide_eq_false (fun c => by have := c.2.2.2; rw [e9] at this; simp only at this; rw [hh] at this; cases this)
            rw [hh] at CH
            clear hd ho hs e9 hoq hro fend ft5 ft6 hy hh
            rw [E0, E1, E2, E3, go_work can]
            have NR : Near l ((j : Int), x, y + 1) := NR0
            have CP := fun W (h : RdK W (some ⟨b, off, none⟩) l) => refpast19_any (some ⟨b, off, none⟩) n c l hn (j : Int) (x) (y + 1) W h (by omega) ok NR
            obtain ⟨⟨i2, x2, y2⟩, hP⟩ : ∃ P, pastT l ((j : Int), x, y + 1) = P := ⟨_, rfl⟩
            try simp only at ⊢
            rw [hP] at CP ⊢
            unfold sp3 at CP ⊢
            simp only at CP ⊢
            clear can NR0
            clear E0 E1 E2 E3 NR hP ok few fit h i0 i1 hn
            have S0 : Bx ((((w.alloc (.cells #[.int .i64 (j : Int), .int .i64 x, .int .i64 y] 28)).alloc (.cells #[.int .i64 0, .int .i64 0, .int .i64 0] 28)).alloc (.cells #[.bool false, .bool false, .bool false, .bool false] 70)).alloc (.cells #[.bool false, .bool false, .bool false, .bool false] 70)) (w.heap.size) 28 #[.int .i64 (j : Int), .int .i64 x, .int .i64 y] := (((Bx.new (W := w) _ _ rfl).alloc _).alloc _).alloc _
            have P0 : Bx ((((w.alloc (.cells #[.int .i64 (j : Int), .int .i64 x, .int .i64 y] 28)).alloc (.cells #[.int .i64 0, .int .i64 0, .int .i64 0] 28)).alloc (.cells #[.bool false, .bool false, .bool false, .bool false] 70)).alloc (.cells #[.bool false, .bool false, .bool false, .bool false] 70)) (w.heap.size + 1) 28 #[.int .i64 0, .int .i64 0, .int .i64 0] := ((Bx.new (W := w.alloc (.cells #[.int .i64 (j : Int), .int .i64 x, .int .i64 y] 28)) _ _ (by simp)).alloc _).alloc _
            have Q0 : Bx ((((w.alloc (.cells #[.int .i64 (j : Int), .int .i64 x, .int .i64 y] 28)).alloc (.cells #[.int .i64 0, .int .i64 0, .int .i64 0] 28)).alloc (.cells #[.bool false, .bool false, .bool false, .bool false] 70)).alloc (.cells #[.bool false, .bool false, .bool false, .bool false] 70)) (w.heap.size + 1 + 1) 70 #[.bool false, .bool false, .bool false, .bool false] := (Bx.new (W := (w.alloc (.cells #[.int .i64 (j : Int), .int .i64 x, .int .i64 y] 28)).alloc (.cells #[.int .i64 0, .int .i64 0, .int .i64 0] 28)) _ _ (by simp)).alloc _
            have X0 : Bx ((((w.alloc (.cells #[.int .i64 (j : Int), .int .i64 x, .int .i64 y] 28)).alloc (.cells #[.int .i64 0, .int .i64 0, .int .i64 0] 28)).alloc (.cells #[.bool false, .bool false, .bool false, .bool false] 70)).alloc (.cells #[.bool false, .bool false, .bool false, .bool false] 70)) (w.heap.size + 1 + 1 + 1) 70 #[.bool false, .bool false, .bool false, .bool false] := Bx.new (W := ((w.alloc (.cells #[.int .i64 (j : Int), .int .i64 x, .int .i64 y] 28)).alloc (.cells #[.int .i64 0, .int .i64 0, .int .i64 0] 28)).alloc (.cells #[.bool false, .bool false, .bool false, .bool false] 70)) _ _ (by simp)
            have B0 : Below w.heap.size w ((((w.alloc (.cells #[.int .i64 (j : Int), .int .i64 x, .int .i64 y] 28)).alloc (.cells #[.int .i64 0, .int .i64 0, .int .i64 0] 28)).alloc (.cells #[.bool false, .bool false, .bool false, .bool false] 70)).alloc (.cells #[.bool false, .bool false, .bool false, .bool false] 70)) := by (repeat (first | exact Below.refl _ _ | (refine b_st ?_ (by first | (simp; done) | (simp; omega))) | (refine b_al ?_ (Nat.le_refl _) _) | refine b_dn ?_ | refine b_dr ?_ | (refine b_cl ?_ (Nat.le_refl _) (by assumption))))
            have HS0 := Lib.hid S0
            have HP0 := Lib.hid P0
            have HQ0 := Lib.hid Q0
            have HX0 := Lib.hid X0
            have HB0 := Lib.hid B0
            clear S0 P0 Q0 X0 B0
            go_enter Try.func25, Try.ntmps25
            go_upto_region 10 with (refine wpList_store_fld (by rfl) 4 (.tmp 24) (.tmp 23) rfl (w.heap.size + 1 + 1 + 1) 3 (.bool false) rfl rfl rfl 70 #[.bool false, .bool false, .bool false, .bool false] HX0.out (show 3 < 4 by decide) (by kernel_rfl) (fun w3 u3 => ?_); have HX3 := Lib.hid u3.box; have HS3 := Lib.hid (u3.bx HS0.out (by omega)); have HP3 := Lib.hid (u3.bx HP0.out (by omega)); have HQ3 := Lib.hid (u3.bx HQ0.out (by omega)); have HB3 := Lib.hid (HB0.out.trans (u3.bel _ (by omega))); clear u3; have ls3 : w.heap.size + 1 + 1 + 1 < w3.heap.size := HX3.out.lt; have p0_3 := HS3.out.cell (k := 0) rfl; have p1_3 := HS3.out.cell (k := 1) rfl; have p2_3 := HS3.out.cell (k := 2) rfl)
            have t0_3 : w3.cell? ⟨b, off + j * 3, none⟩ = some (.int .i64 d) := (HB3.out.cell (p := ⟨b, _, none⟩) hbb).trans h0
            have t1_3 : w3.cell? ⟨b, off + j * 3 + 1, none⟩ = some (.int .i64 v) := (HB3.out.cell (p := ⟨b, _, none⟩) hbb).trans h1
            have t2_3 : w3.cell? ⟨b, off + j * 3 + 2, none⟩ = some (.slice B q u) := (HB3.out.cell (p := ⟨b, _, none⟩) hbb).trans h2
            have bb3 : b < w3.heap.size := Nat.lt_of_lt_of_le hbb HB3.out.size
            go_quiet (fail)
            have HS4 := Lib.hid (HS3.out.drewN (n := nq))
            have HP4 := Lib.hid (HP3.out.drewN (n := nq))
            have HQ4 := Lib.hid (HQ3.out.drewN (n := nq))
            have HX4 := Lib.hid (HX3.out.drewN (n := nq))
            have HB4 := Lib.hid (b_dn (k := nq) HB3.out)
            have t2_4 : (w3.drewN nq).cell? ⟨b, off + j * 3 + 2, none⟩ = some (.slice B q u) := t2_3
            have bb4 : b < (w3.drewN nq).heap.size := bb3
            generalize w3.drewN nq = w4 at *
            have ls4 : w.heap.size + 1 + 1 + 1 < w4.heap.size := HX4.out.lt
            have p0_4 := HS4.out.cell (k := 0) rfl
            have p1_4 := HS4.out.cell (k := 1) rfl
            have p2_4 := HS4.out.cell (k := 2) rfl
            clear p0_3 p1_3 p2_3 t0_3 t1_3 t2_3 bb3 ls3
            go_upto_region 14 with (first
              | (go_at_call 38; refine (CH _ (HRo.out.below HB4.out)).mono ?_; rintro e w5 ⟨rfl, hb5⟩; have HS5 := Lib.hid (HS4.out.below hb5); have HP5 := Lib.hid (HP4.out.below hb5); have HQ5 := Lib.hid (HQ4.out.below hb5); have HX5 := Lib.hid (HX4.out.below hb5); have HB5 := Lib.hid (b_cl HB4.out (Nat.le_refl _) hb5); clear hb5; have ls5 : w.heap.size + 1 + 1 + 1 < w5.heap.size := HX5.out.lt; have p0_5 := HS5.out.cell (k := 0) rfl; have p1_5 := HS5.out.cell (k := 1) rfl; have p2_5 := HS5.out.cell (k := 2) rfl)
              | (refine wpList_store_fld (by rfl) 4 (.tmp 84) (.tmp 83) rfl (w.heap.size + 1 + 1 + 1) 2 (.bool false) rfl rfl rfl 70 #[.bool false, .bool false, .bool false, .bool false] HX5.out (show 2 < 4 by decide) (by kernel_rfl) (fun w6 u6 => ?_); have HX6 := Lib.hid u6.box; have HS6 := Lib.hid (u6.bx HS5.out (by omega)); have HP6 := Lib.hid (u6.bx HP5.out (by omega)); have HQ6 := Lib.hid (u6.bx HQ5.out (by omega)); have HB6 := Lib.hid (HB5.out.trans (u6.bel _ (by omega))); clear u6; have ls6 : w.heap.size + 1 + 1 + 1 < w6.heap.size := HX6.out.lt; have p0_6 := HS6.out.cell (k := 0) rfl; have p1_6 := HS6.out.cell (k := 1) rfl; have p2_6 := HS6.out.cell (k := 2) rfl)
              | (refine wpList_store_fld (by rfl) 3 (.tmp 88) (.tmp 87) rfl (w.heap.size) 2 (.int .i64 (y + 1)) rfl rfl rfl 28 #[.int .i64 (j : Int), .int .i64 x, .int .i64 y] HS6.out (show 2 < 3 by decide) (by kernel_rfl) (fun w7 u7 => ?_); have HS7 := Lib.hid u7.box; have HX7 := Lib.hid (u7.bx HX6.out (by omega)); have HP7 := Lib.hid (u7.bx HP6.out (by omega)); have HQ7 := Lib.hid (u7.bx HQ6.out (by omega)); have HB7 := Lib.hid (HB6.out.trans (u7.bel _ (Nat.le_refl _))); have ls7 : w.heap.size + 1 + 1 + 1 < w7.heap.size := HX7.out.lt; clear u7))
            have YS := Lib.hid (show Bx w7 (w.heap.size) 28 #[.int .i64 (j : Int), .int .i64 x, .int .i64 (y + 1)] from HS7.out)
            have YX := Lib.hid (show Bx w7 (w.heap.size + 1 + 1 + 1) 70 #[.bool false, .bool false, .bool false, .bool false] from HX7.out)
            have HKW := Lib.hid (HK.out.below HB7.out)
            refine wp_region_noPanic ?_
            refine wp_region_held_drew (S := fun w' => Bx w' (w.heap.size) 28 #[.int .i64 (j : Int), .int .i64 x, .int .i64 (y + 1)] ∧ Bx w' (w.heap.size + 1 + 1 + 1) 70 #[.bool false, .bool false, .bool false, .bool false]) (by kernel_rfl) ?_ (fun hHeld => ?_)
            · exact ⟨YS.out.drew, YX.out.drew⟩
            refine wpAnyH_take (i := 0) (oi := ⟨some 90, _, _, _, _, _⟩) (v := ?_) rfl (by kernel_rfl) (by kernel_rfl) (by kernel_rfl) (fun _ _ _ h => h) (Or.inl ⟨by rfl, ?_⟩) (by assumption) ?_
            rotate_left
            · (intro w' hSw; clear hSw; go_simp; try (with_reducible rfl))
            (try simp only [Act.put, List.setIfInBounds_toArray, List.set_cons_zero, List.set_cons_succ])
            refine wpAnyH_take (i := 1) (oi := ⟨some 91, _, _, _, _, _⟩) (v := .agg #[.int .i64 (j : Int), .int .i64 x, .int .i64 (y + 1)]) rfl (by kernel_rfl) (by kernel_rfl) (by kernel_rfl) (fun _ _ _ h => h) (Or.inl ⟨by rfl, fun w' hSw => exec_load_box (w.heap.size) 28 #[.int .i64 (j : Int), .int .i64 x, .int .i64 (y + 1)] _ w' rfl rfl hSw.1 Try.underlying28 rfl (by kernel_rfl)⟩) (by assumption) ?_
            (try simp only [Act.put, List.setIfInBounds_toArray, List.set_cons_zero, List.set_cons_succ])
            refine wpAnyH_take (i := 3) (oi := ⟨some 93, _, _, _, _, _⟩) (v := .agg #[.bool false, .bool false, .bool false, .bool false]) rfl (by kernel_rfl) (by kernel_rfl) (by kernel_rfl) (fun _ _ _ h => h) (Or.inl ⟨by rfl, fun w' hSw => exec_load_box (w.heap.size + 1 + 1 + 1) 70 #[.bool false, .bool false, .bool false, .bool false] _ w' rfl rfl hSw.2 Try.underlying70 rfl (by kernel_rfl)⟩) (by assumption) ?_
            (try simp only [Act.put, List.setIfInBounds_toArray, List.set_cons_zero, List.set_cons_succ])
            refine wpAnyH_ready (rs := [2]) (by kernel_rfl) (by simp) ?_
            refine AllReadyH.cons (o := ⟨some 92, _, _, _, _, _⟩) rfl (fun K hK => ?_) AllReadyH.nil
            go_simp
            (go_at_call 39; refine (CP _ (HKW.out.below (b_dr (Below.refl _ _)))).mono ?_; rintro e w7 ⟨rfl, hb7⟩)
            go_wp2_with fail
            refine hK.out _ _ ⟨hHeld.1.below hb7, hHeld.2.below hb7⟩ (fun hHeld => ?_)
            clear hK K
            (try simp only [Act.put, List.setIfInBounds_toArray, List.set_cons_zero, List.set_cons_succ])
            refine wpAnyH_ready (rs := [4]) (by kernel_rfl) (by simp) ?_
            refine AllReadyH.cons (o := ⟨none, _, _, _, _, _⟩) rfl (fun K hK => ?_) AllReadyH.nil
            refine wp_store_any 28 _ _ rfl (w.heap.size + 1) #[.int .i64 i2, .int .i64 x2, .int .i64 y2] rfl rfl 28 #[.int .i64 0, .int .i64 0, .int .i64 0] (HP7.out.drew.below hb7) (by kernel_rfl) rfl (one3 _ _ _) (fun w8 u => ?_)
            refine hK.out _ _ ⟨u.bx hHeld.1 (by omega), u.bx hHeld.2 (by omega)⟩ (fun hHeld => ?_)
            clear hK K
            (try simp only [Act.put])
            refine wpAnyH_ready (rs := [5]) (by kernel_rfl) (by simp) ?_
            refine AllReadyH.cons (o := ⟨none, _, _, _, _, _⟩) rfl (fun K hK => ?_) AllReadyH.nil
            refine wp_store_any 70 _ _ rfl (w.heap.size + 1 + 1) #[.bool false, .bool false, .bool false, .bool false] rfl rfl 70 #[.bool false, .bool false, .bool false, .bool false] (u.bx (HQ7.out.drew.below hb7) (by omega)) (by kernel_rfl) rfl (oneb _ _ _ _) (fun w9 u2 => ?_)
            refine hK.out _ _ ⟨u2.bx hHeld.1 (by omega), u2.bx hHeld.2 (by omega)⟩ (fun hHeld => ?_)
            clear hK K
            (try simp only [Act.put])
            refine wpAnyH_done (by kernel_rfl) ?_ _
            refine NoPanic.normal ?_
            go_wp2_with fail
            refine bodyPost_ret (results_boxes Try.results25 _ _ (w.heap.size + 1) (w.heap.size + 1 + 1) 28 70 #[.int .i64 i2, .int .i64 x2, .int .i64 y2] #[.bool false, .bool false, .bool false, .bool false] _ _ rfl (u2.bx u.box (by omega)) rfl u2.box Try.underlying28 rfl (by kernel_rfl) Try.underlying70 rfl (by kernel_rfl)) rfl ⟨rfl, ?_⟩
            have hbd := b_dr (b_dr HB7.out)
            exact ((b_cl (b_dr HB7.out) (Nat.le_refl _) hb7).trans (u.bel _ (by omega))).trans (u2.bel _ (by omega))
          | false =>
            have E2 : b2 l ((j : Int), x, y) m 2 = true := by unfold b2; exact decide_eq_true ⟨rfl, can, hy, by rw [e9]; exact hh⟩
            rw [hh] at CH
            clear hd ho hs e9 hoq hro fend ft5 ft6 hy hh
            rw [E0, E1, E2, E3, go_work can]
            have NR : Near l ((j : Int), x, y + 1) := NR0
            have CP := fun W (h : RdK W (some ⟨b, off, none⟩) l) => refpast19_any (some ⟨b, off, none⟩) n c l hn (j : Int) (x) (y + 1) W h (by omega) ok NR
            obtain ⟨⟨i2, x2, y2⟩, hP⟩ : ∃ P, pastT l ((j : Int), x, y + 1) = P := ⟨_, rfl⟩
            try simp only at ⊢
            rw [hP] at CP ⊢
            unfold sp3 at CP ⊢
            simp only at CP ⊢
            clear can NR0
            clear E0 E1 E2 E3 NR hP ok few fit h i0 i1 hn
            have S0 : Bx ((((w.alloc (.cells #[.int .i64 (j : Int), .int .i64 x, .int .i64 y] 28)).alloc (.cells #[.int .i64 0, .int .i64 0, .int .i64 0] 28)).alloc (.cells #[.bool false, .bool false, .bool false, .bool false] 70)).alloc (.cells #[.bool false, .bool false, .bool false, .bool false] 70)) (w.heap.size) 28 #[.int .i64 (j : Int), .int .i64 x, .int .i64 y] := (((Bx.new (W := w) _ _ rfl).alloc _).alloc _).alloc _
            have P0 : Bx ((((w.alloc (.cells #[.int .i64 (j : Int), .int .i64 x, .int .i64 y] 28)).alloc (.cells #[.int .i64 0, .int .i64 0, .int .i64 0] 28)).alloc (.cells #[.bool false, .bool false, .bool false, .bool false] 70)).alloc (.cells #[.bool false, .bool false, .bool false, .bool false] 70)) (w.heap.size + 1) 28 #[.int .i64 0, .int .i64 0, .int .i64 0] := ((Bx.new (W := w.alloc (.cells #[.int .i64 (j : Int), .int .i64 x, .int .i64 y] 28)) _ _ (by simp)).alloc _).alloc _
            have Q0 : Bx ((((w.alloc (.cells #[.int .i64 (j : Int), .int .i64 x, .int .i64 y] 28)).alloc (.cells #[.int .i64 0, .int .i64 0, .int .i64 0] 28)).alloc (.cells #[.bool false, .bool false, .bool false, .bool false] 70)).alloc (.cells #[.bool false, .bool false, .bool false, .bool false] 70)) (w.heap.size + 1 + 1) 70 #[.bool false, .bool false, .bool false, .bool false] := (Bx.new (W := (w.alloc (.cells #[.int .i64 (j : Int), .int .i64 x, .int .i64 y] 28)).alloc (.cells #[.int .i64 0, .int .i64 0, .int .i64 0] 28)) _ _ (by simp)).alloc _
            have X0 : Bx ((((w.alloc (.cells #[.int .i64 (j : Int), .int .i64 x, .int .i64 y] 28)).alloc (.cells #[.int .i64 0, .int .i64 0, .int .i64 0] 28)).alloc (.cells #[.bool false, .bool false, .bool false, .bool false] 70)).alloc (.cells #[.bool false, .bool false, .bool false, .bool false] 70)) (w.heap.size + 1 + 1 + 1) 70 #[.bool false, .bool false, .bool false, .bool false] := Bx.new (W := ((w.alloc (.cells #[.int .i64 (j : Int), .int .i64 x, .int .i64 y] 28)).alloc (.cells #[.int .i64 0, .int .i64 0, .int .i64 0] 28)).alloc (.cells #[.bool false, .bool false, .bool false, .bool false] 70)) _ _ (by simp)
            have B0 : Below w.heap.size w ((((w.alloc (.cells #[.int .i64 (j : Int), .int .i64 x, .int .i64 y] 28)).alloc (.cells #[.int .i64 0, .int .i64 0, .int .i64 0] 28)).alloc (.cells #[.bool false, .bool false, .bool false, .bool false] 70)).alloc (.cells #[.bool false, .bool false, .bool false, .bool false] 70)) := by (repeat (first | exact Below.refl _ _ | (refine b_st ?_ (by first | (simp; done) | (simp; omega))) | (refine b_al ?_ (Nat.le_refl _) _) | refine b_dn ?_ | refine b_dr ?_ | (refine b_cl ?_ (Nat.le_refl _) (by assumption))))
            have HS0 := Lib.hid S0
            have HP0 := Lib.hid P0
            have HQ0 := Lib.hid Q0
            have HX0 := Lib.hid X0
            have HB0 := Lib.hid B0
            clear S0 P0 Q0 X0 B0
            go_enter Try.func25, Try.ntmps25
            go_upto_region 10 with (refine wpList_store_fld (by rfl) 4 (.tmp 24) (.tmp 23) rfl (w.heap.size + 1 + 1 + 1) 3 (.bool false) rfl rfl rfl 70 #[.bool false, .bool false, .bool false, .bool false] HX0.out (show 3 < 4 by decide) (by kernel_rfl) (fun w3 u3 => ?_); have HX3 := Lib.hid u3.box; have HS3 := Lib.hid (u3.bx HS0.out (by omega)); have HP3 := Lib.hid (u3.bx HP0.out (by omega)); have HQ3 := Lib.hid (u3.bx HQ0.out (by omega)); have HB3 := Lib.hid (HB0.out.trans (u3.bel _ (by omega))); clear u3; have ls3 : w.heap.size + 1 + 1 + 1 < w3.heap.size := HX3.out.lt; have p0_3 := HS3.out.cell (k := 0) rfl; have p1_3 := HS3.out.cell (k := 1) rfl; have p2_3 := HS3.out.cell (k := 2) rfl)
            have t0_3 : w3.cell? ⟨b, off + j * 3, none⟩ = some (.int .i64 d) := (HB3.out.cell (p := ⟨b, _, none⟩) hbb).trans h0
            have t1_3 : w3.cell? ⟨b, off + j * 3 + 1, none⟩ = some (.int .i64 v) := (HB3.out.cell (p := ⟨b, _, none⟩) hbb).trans h1
            have t2_3 : w3.cell? ⟨b, off + j * 3 + 2, none⟩ = some (.slice B q u) := (HB3.out.cell (p := ⟨b, _, none⟩) hbb).trans h2
            have bb3 : b < w3.heap.size := Nat.lt_of_lt_of_le hbb HB3.out.size
            go_quiet (fail)
            have HS4 := Lib.hid (HS3.out.drewN (n := nq))
            have HP4 := Lib.hid (HP3.out.drewN (n := nq))
            have HQ4 := Lib.hid (HQ3.out.drewN (n := nq))
            have HX4 := Lib.hid (HX3.out.drewN (n := nq))
            have HB4 := Lib.hid (b_dn (k := nq) HB3.out)
            have t2_4 : (w3.drewN nq).cell? ⟨b, off + j * 3 + 2, none⟩ = some (.slice B q u) := t2_3
            have bb4 : b < (w3.drewN nq).heap.size := bb3
            generalize w3.drewN nq = w4 at *
            have ls4 : w.heap.size + 1 + 1 + 1 < w4.heap.size := HX4.out.lt
            have p0_4 := HS4.out.cell (k := 0) rfl
            have p1_4 := HS4.out.cell (k := 1) rfl
            have p2_4 := HS4.out.cell (k := 2) rfl
            clear p0_3 p1_3 p2_3 t0_3 t1_3 t2_3 bb3 ls3
            go_upto_region 14 with (first
              | (go_at_call 38; refine (CH _ (HRo.out.below HB4.out)).mono ?_; rintro e w5 ⟨rfl, hb5⟩; have HS5 := Lib.hid (HS4.out.below hb5); have HP5 := Lib.hid (HP4.out.below hb5); have HQ5 := Lib.hid (HQ4.out.below hb5); have HX5 := Lib.hid (HX4.out.below hb5); have HB5 := Lib.hid (b_cl HB4.out (Nat.le_refl _) hb5); clear hb5; have ls5 : w.heap.size + 1 + 1 + 1 < w5.heap.size := HX5.out.lt; have p0_5 := HS5.out.cell (k := 0) rfl; have p1_5 := HS5.out.cell (k := 1) rfl; have p2_5 := HS5.out.cell (k := 2) rfl)
              | (refine wpList_store_fld (by rfl) 4 (.tmp 84) (.tmp 83) rfl (w.heap.size + 1 + 1 + 1) 2 (.bool true) rfl rfl rfl 70 #[.bool false, .bool false, .bool false, .bool false] HX5.out (show 2 < 4 by decide) (by kernel_rfl) (fun w6 u6 => ?_); have HX6 := Lib.hid u6.box; have HS6 := Lib.hid (u6.bx HS5.out (by omega)); have HP6 := Lib.hid (u6.bx HP5.out (by omega)); have HQ6 := Lib.hid (u6.bx HQ5.out (by omega)); have HB6 := Lib.hid (HB5.out.trans (u6.bel _ (by omega))); clear u6; have ls6 : w.heap.size + 1 + 1 + 1 < w6.heap.size := HX6.out.lt; have p0_6 := HS6.out.cell (k := 0) rfl; have p1_6 := HS6.out.cell (k := 1) rfl; have p2_6 := HS6.out.cell (k := 2) rfl)
              | (refine wpList_store_fld (by rfl) 3 (.tmp 88) (.tmp 87) rfl (w.heap.size) 2 (.int .i64 (y + 1)) rfl rfl rfl 28 #[.int .i64 (j : Int), .int .i64 x, .int .i64 y] HS6.out (show 2 < 3 by decide) (by kernel_rfl) (fun w7 u7 => ?_); have HS7 := Lib.hid u7.box; have HX7 := Lib.hid (u7.bx HX6.out (by omega)); have HP7 := Lib.hid (u7.bx HP6.out (by omega)); have HQ7 := Lib.hid (u7.bx HQ6.out (by omega)); have HB7 := Lib.hid (HB6.out.trans (u7.bel _ (Nat.le_refl _))); have ls7 : w.heap.size + 1 + 1 + 1 < w7.heap.size := HX7.out.lt; clear u7))
            have YS := Lib.hid (show Bx w7 (w.heap.size) 28 #[.int .i64 (j : Int), .int .i64 x, .int .i64 (y + 1)] from HS7.out)
            have YX := Lib.hid (show Bx w7 (w.heap.size + 1 + 1 + 1) 70 #[.bool false, .bool false, .bool true, .bool false] from HX7.out)
            have HKW := Lib.hid (HK.out.below HB7.out)
            refine wp_region_noPanic ?_
            refine wp_region_held_drew (S := fun w' => Bx w' (w.heap.size) 28 #[.int .i64 (j : Int), .int .i64 x, .int .i64 (y + 1)] ∧ Bx w' (w.heap.size + 1 + 1 + 1) 70 #[.bool false, .bool false, .bool true, .bool false]) (by kernel_rfl) ?_ (fun hHeld => ?_)
            · exact ⟨YS.out.drew, YX.out.drew⟩
            refine wpAnyH_take (i := 0) (oi := ⟨some 90, _, _, _, _, _⟩) (v := ?_) rfl (by kernel_rfl) (by kernel_rfl) (by kernel_rfl) (fun _ _ _ h => h) (Or.inl ⟨by rfl, ?_⟩) (by assumption) ?_
            rotate_left
            · (intro w' hSw; clear hSw; go_simp; try (with_reducible rfl))
            (try simp only [Act.put, List.setIfInBounds_toArray, List.set_cons_zero, List.set_cons_succ])
            refine wpAnyH_take (i := 1) (oi := ⟨some 91, _, _, _, _, _⟩) (v := .agg #[.int .i64 (j : Int), .int .i64 x, .int .i64 (y + 1)]) rfl (by kernel_rfl) (by kernel_rfl) (by kernel_rfl) (fun _ _ _ h => h) (Or.inl ⟨by rfl, fun w' hSw => exec_load_box (w.heap.size) 28 #[.int .i64 (j : Int), .int .i64 x, .int .i64 (y + 1)] _ w' rfl rfl hSw.1 Try.underlying28 rfl (by kernel_rfl)⟩) (by assumption) ?_
            (try simp only [Act.put, List.setIfInBounds_toArray, List.set_cons_zero, List.set_cons_succ])
            refine wpAnyH_take (i := 3) (oi := ⟨some 93, _, _, _, _, _⟩) (v := .agg #[.bool false, .bool false, .bool true, .bool false]) rfl (by kernel_rfl) (by kernel_rfl) (by kernel_rfl) (fun _ _ _ h => h) (Or.inl ⟨by rfl, fun w' hSw => exec_load_box (w.heap.size + 1 + 1 + 1) 70 #[.bool false, .bool false, .bool true, .bool false] _ w' rfl rfl hSw.2 Try.underlying70 rfl (by kernel_rfl)⟩) (by assumption) ?_
            (try simp only [Act.put, List.setIfInBounds_toArray, List.set_cons_zero, List.set_cons_succ])
            refine wpAnyH_ready (rs := [2]) (by kernel_rfl) (by simp) ?_
            refine AllReadyH.cons (o := ⟨some 92, _, _, _, _, _⟩) rfl (fun K hK => ?_) AllReadyH.nil
            go_simp
            (go_at_call 39; refine (CP _ (HKW.out.below (b_dr (Below.refl _ _)))).mono ?_; rintro e w7 ⟨rfl, hb7⟩)
            go_wp2_with fail
            refine hK.out _ _ ⟨hHeld.1.below hb7, hHeld.2.below hb7⟩ (fun hHeld => ?_)
            clear hK K
            (try simp only [Act.put, List.setIfInBounds_toArray, List.set_cons_zero, List.set_cons_succ])
            refine wpAnyH_ready (rs := [4]) (by kernel_rfl) (by simp) ?_
            refine AllReadyH.cons (o := ⟨none, _, _, _, _, _⟩) rfl (fun K hK => ?_) AllReadyH.nil
            refine wp_store_any 28 _ _ rfl (w.heap.size + 1) #[.int .i64 i2, .int .i64 x2, .int .i64 y2] rfl rfl 28 #[.int .i64 0, .int .i64 0, .int .i64 0] (HP7.out.drew.below hb7) (by kernel_rfl) rfl (one3 _ _ _) (fun w8 u => ?_)
            refine hK.out _ _ ⟨u.bx hHeld.1 (by omega), u.bx hHeld.2 (by omega)⟩ (fun hHeld => ?_)
            clear hK K
            (try simp only [Act.put])
            refine wpAnyH_ready (rs := [5]) (by kernel_rfl) (by simp) ?_
            refine AllReadyH.cons (o := ⟨none, _, _, _, _, _⟩) rfl (fun K hK => ?_) AllReadyH.nil
            refine wp_store_any 70 _ _ rfl (w.heap.size + 1 + 1) #[.bool false, .bool false, .bool true, .bool false] rfl rfl 70 #[.bool false, .bool false, .bool false, .bool false] (u.bx (HQ7.out.drew.below hb7) (by omega)) (by kernel_rfl) rfl (oneb _ _ _ _) (fun w9 u2 => ?_)
            refine hK.out _ _ ⟨u2.bx hHeld.1 (by omega), u2.bx hHeld.2 (by omega)⟩ (fun hHeld => ?_)
            clear hK K
            (try simp only [Act.put])
            refine wpAnyH_done (by kernel_rfl) ?_ _
            refine NoPanic.normal ?_
            go_wp2_with fail
            refine bodyPost_ret (results_boxes Try.results25 _ _ (w.heap.size + 1) (w.heap.size + 1 + 1) 28 70 #[.int .i64 i2, .int .i64 x2, .int .i64 y2] #[.bool false, .bool false, .bool true, .bool false] _ _ rfl (u2.bx u.box (by omega)) rfl u2.box Try.underlying28 rfl (by kernel_rfl) Try.underlying70 rfl (by kernel_rfl)) rfl ⟨rfl, ?_⟩
            have hbd := b_dr (b_dr HB7.out)
            exact ((b_cl (b_dr HB7.out) (Nat.le_refl _) hb7).trans (u.bel _ (by omega))).trans (u2.bel _ (by omega))
        · have ey : (y == 0) = false := by simp [hy]
          have hy' : 0 < y := by omega
          have E2 : b2 l ((j : Int), x, y) m 2 = false := by unfold b2; exact decide_eq_false (fun c => hy c.2.2.1)
          clear hd ho hs e9 hoq hro fend ft5 ft6 hy CH HRo
          rw [E0, E1, E2, E3, go_work can]
          have NR : Near l ((j : Int), x, y + 1) := NR0
          have CP := fun W (h : RdK W (some ⟨b, off, none⟩) l) => refpast19_any (some ⟨b, off, none⟩) n c l hn (j : Int) (x) (y + 1) W h (by omega) ok NR
          obtain ⟨⟨i2, x2, y2⟩, hP⟩ : ∃ P, pastT l ((j : Int), x, y + 1) = P := ⟨_, rfl⟩
          try simp only at ⊢
          rw [hP] at CP ⊢
          unfold sp3 at CP ⊢
          simp only at CP ⊢
          clear can NR0
          clear E0 E1 E2 E3 NR hP ok few fit h i0 i1 hn
          have S0 : Bx ((((w.alloc (.cells #[.int .i64 (j : Int), .int .i64 x, .int .i64 y] 28)).alloc (.cells #[.int .i64 0, .int .i64 0, .int .i64 0] 28)).alloc (.cells #[.bool false, .bool false, .bool false, .bool false] 70)).alloc (.cells #[.bool false, .bool false, .bool false, .bool false] 70)) (w.heap.size) 28 #[.int .i64 (j : Int), .int .i64 x, .int .i64 y] := (((Bx.new (W := w) _ _ rfl).alloc _).alloc _).alloc _
          have P0 : Bx ((((w.alloc (.cells #[.int .i64 (j : Int), .int .i64 x, .int .i64 y] 28)).alloc (.cells #[.int .i64 0, .int .i64 0, .int .i64 0] 28)).alloc (.cells #[.bool false, .bool false, .bool false, .bool false] 70)).alloc (.cells #[.bool false, .bool false, .bool false, .bool false] 70)) (w.heap.size + 1) 28 #[.int .i64 0, .int .i64 0, .int .i64 0] := ((Bx.new (W := w.alloc (.cells #[.int .i64 (j : Int), .int .i64 x, .int .i64 y] 28)) _ _ (by simp)).alloc _).alloc _
          have Q0 : Bx ((((w.alloc (.cells #[.int .i64 (j : Int), .int .i64 x, .int .i64 y] 28)).alloc (.cells #[.int .i64 0, .int .i64 0, .int .i64 0] 28)).alloc (.cells #[.bool false, .bool false, .bool false, .bool false] 70)).alloc (.cells #[.bool false, .bool false, .bool false, .bool false] 70)) (w.heap.size + 1 + 1) 70 #[.bool false, .bool false, .bool false, .bool false] := (Bx.new (W := (w.alloc (.cells #[.int .i64 (j : Int), .int .i64 x, .int .i64 y] 28)).alloc (.cells #[.int .i64 0, .int .i64 0, .int .i64 0] 28)) _ _ (by simp)).alloc _
          have X0 : Bx ((((w.alloc (.cells #[.int .i64 (j : Int), .int .i64 x, .int .i64 y] 28)).alloc (.cells #[.int .i64 0, .int .i64 0, .int .i64 0] 28)).alloc (.cells #[.bool false, .bool false, .bool false, .bool false] 70)).alloc (.cells #[.bool false, .bool false, .bool false, .bool false] 70)) (w.heap.size + 1 + 1 + 1) 70 #[.bool false, .bool false, .bool false, .bool false] := Bx.new (W := ((w.alloc (.cells #[.int .i64 (j : Int), .int .i64 x, .int .i64 y] 28)).alloc (.cells #[.int .i64 0, .int .i64 0, .int .i64 0] 28)).alloc (.cells #[.bool false, .bool false, .bool false, .bool false] 70)) _ _ (by simp)
          have B0 : Below w.heap.size w ((((w.alloc (.cells #[.int .i64 (j : Int), .int .i64 x, .int .i64 y] 28)).alloc (.cells #[.int .i64 0, .int .i64 0, .int .i64 0] 28)).alloc (.cells #[.bool false, .bool false, .bool false, .bool false] 70)).alloc (.cells #[.bool false, .bool false, .bool false, .bool false] 70)) := by (repeat (first | exact Below.refl _ _ | (refine b_st ?_ (by first | (simp; done) | (simp; omega))) | (refine b_al ?_ (Nat.le_refl _) _) | refine b_dn ?_ | refine b_dr ?_ | (refine b_cl ?_ (Nat.le_refl _) (by assumption))))
          have HS0 := Lib.hid S0
          have HP0 := Lib.hid P0
          have HQ0 := Lib.hid Q0
          have HX0 := Lib.hid X0
          have HB0 := Lib.hid B0
          clear S0 P0 Q0 X0 B0
          go_enter Try.func25, Try.ntmps25
          go_upto_region 10 with (refine wpList_store_fld (by rfl) 4 (.tmp 24) (.tmp 23) rfl (w.heap.size + 1 + 1 + 1) 3 (.bool false) rfl rfl rfl 70 #[.bool false, .bool false, .bool false, .bool false] HX0.out (show 3 < 4 by decide) (by kernel_rfl) (fun w3 u3 => ?_); have HX3 := Lib.hid u3.box; have HS3 := Lib.hid (u3.bx HS0.out (by omega)); have HP3 := Lib.hid (u3.bx HP0.out (by omega)); have HQ3 := Lib.hid (u3.bx HQ0.out (by omega)); have HB3 := Lib.hid (HB0.out.trans (u3.bel _ (by omega))); clear u3; have ls3 : w.heap.size + 1 + 1 + 1 < w3.heap.size := HX3.out.lt; have p0_3 := HS3.out.cell (k := 0) rfl; have p1_3 := HS3.out.cell (k := 1) rfl; have p2_3 := HS3.out.cell (k := 2) rfl)
          have t0_3 : w3.cell? ⟨b, off + j * 3, none⟩ = some (.int .i64 d) := (HB3.out.cell (p := ⟨b, _, none⟩) hbb).trans h0
          have t1_3 : w3.cell? ⟨b, off + j * 3 + 1, none⟩ = some (.int .i64 v) := (HB3.out.cell (p := ⟨b, _, none⟩) hbb).trans h1
          have t2_3 : w3.cell? ⟨b, off + j * 3 + 2, none⟩ = some (.slice B q u) := (HB3.out.cell (p := ⟨b, _, none⟩) hbb).trans h2
          have bb3 : b < w3.heap.size := Nat.lt_of_lt_of_le hbb HB3.out.size
          go_quiet (fail)
          have HS4 := Lib.hid (HS3.out.drewN (n := nq))
          have HP4 := Lib.hid (HP3.out.drewN (n := nq))
          have HQ4 := Lib.hid (HQ3.out.drewN (n := nq))
          have HX4 := Lib.hid (HX3.out.drewN (n := nq))
          have HB4 := Lib.hid (b_dn (k := nq) HB3.out)
          have t2_4 : (w3.drewN nq).cell? ⟨b, off + j * 3 + 2, none⟩ = some (.slice B q u) := t2_3
          have bb4 : b < (w3.drewN nq).heap.size := bb3
          generalize w3.drewN nq = w4 at *
          have ls4 : w.heap.size + 1 + 1 + 1 < w4.heap.size := HX4.out.lt
          have p0_4 := HS4.out.cell (k := 0) rfl
          have p1_4 := HS4.out.cell (k := 1) rfl
          have p2_4 := HS4.out.cell (k := 2) rfl
          clear p0_3 p1_3 p2_3 t0_3 t1_3 t2_3 bb3 ls3
          have r2_4 : w4.cell? ⟨w.heap.size + 1 + 1 + 1, 2, none⟩ = some (.bool false) := HX4.out.cell (k := 2) rfl
          have z2_4 : w4.frozen? ⟨w.heap.size + 1 + 1 + 1, 2, none⟩ = false := HX4.out.free 2
          have z0_4 : w4.frozen? ⟨w.heap.size, 2, none⟩ = false := HS4.out.free 2
          go_upto_region 14 with fail
          have U1 := HX4.out.setOne (k := 2) (v := .bool false)
          have U2 := (U1.bx HS4.out (by omega)).setOne (k := 2) (v := .int .i64 (y + 1))
          have HX7 := Lib.hid (U2.bx U1.box (by omega))
          have HS7 := Lib.hid U2.box
          have HP7 := Lib.hid (U2.bx (U1.bx HP4.out (by omega)) (by omega))
          have HQ7 := Lib.hid (U2.bx (U1.bx HQ4.out (by omega)) (by omega))
          have HB7 := Lib.hid ((HB4.out.trans (U1.bel _ (by omega))).trans (U2.bel _ (Nat.le_refl _)))
          clear U1 U2
          generalize (w4.setCell ⟨w.heap.size + 1 + 1 + 1, 2, none⟩ (.bool false)).setCell ⟨w.heap.size, 2, none⟩ (.int .i64 (y + 1)) = w7 at *
          have ls7 : w.heap.size + 1 + 1 + 1 < w7.heap.size := HX7.out.lt
          have YS := Lib.hid (show Bx w7 (w.heap.size) 28 #[.int .i64 (j : Int), .int .i64 x, .int .i64 (y + 1)] from HS7.out)
          have YX := Lib.hid (show Bx w7 (w.heap.size + 1 + 1 + 1) 70 #[.bool false, .bool false, .bool false, .bool false] from HX7.out)
          have HKW := Lib.hid (HK.out.below HB7.out)
          refine wp_region_noPanic ?_
          refine wp_region_held_drew (S := fun w' => Bx w' (w.heap.size) 28 #[.int .i64 (j : Int), .int .i64 x, .int .i64 (y + 1)] ∧ Bx w' (w.heap.size + 1 + 1 + 1) 70 #[.bool false, .bool false, .bool false, .bool false]) (by kernel_rfl) ?_ (fun hHeld => ?_)
          · exact ⟨YS.out.drew, YX.out.drew⟩
          refine wpAnyH_take (i := 0) (oi := ⟨some 90, _, _, _, _, _⟩) (v := ?_) rfl (by kernel_rfl) (by kernel_rfl) (by kernel_rfl) (fun _ _ _ h => h) (Or.inl ⟨by rfl, ?_⟩) (by assumption) ?_
          rotate_left
          · (intro w' hSw; clear hSw; go_simp; try (with_reducible rfl))
          (try simp only [Act.put, List.setIfInBounds_toArray, List.set_cons_zero, List.set_cons_succ])
          refine wpAnyH_take (i := 1) (oi := ⟨some 91, _, _, _, _, _⟩) (v := .agg #[.int .i64 (j : Int), .int .i64 x, .int .i64 (y + 1)]) rfl (by kernel_rfl) (by kernel_rfl) (by kernel_rfl) (fun _ _ _ h => h) (Or.inl ⟨by rfl, fun w' hSw => exec_load_box (w.heap.size) 28 #[.int .i64 (j : Int), .int .i64 x, .int .i64 (y + 1)] _ w' rfl rfl hSw.1 Try.underlying28 rfl (by kernel_rfl)⟩) (by assumption) ?_
          (try simp only [Act.put, List.setIfInBounds_toArray, List.set_cons_zero, List.set_cons_succ])
          refine wpAnyH_take (i := 3) (oi := ⟨some 93, _, _, _, _, _⟩) (v := .agg #[.bool false, .bool false, .bool false, .bool false]) rfl (by kernel_rfl) (by kernel_rfl) (by kernel_rfl) (fun _ _ _ h => h) (Or.inl ⟨by rfl, fun w' hSw => exec_load_box (w.heap.size + 1 + 1 + 1) 70 #[.bool false, .bool false, .bool false, .bool false] _ w' rfl rfl hSw.2 Try.underlying70 rfl (by kernel_rfl)⟩) (by assumption) ?_
          (try simp only [Act.put, List.setIfInBounds_toArray, List.set_cons_zero, List.set_cons_succ])
          refine wpAnyH_ready (rs := [2]) (by kernel_rfl) (by simp) ?_
          refine AllReadyH.cons (o := ⟨some 92, _, _, _, _, _⟩) rfl (fun K hK => ?_) AllReadyH.nil
          go_simp
          (go_at_call 39; refine (CP _ (HKW.out.below (b_dr (Below.refl _ _)))).mono ?_; rintro e w7 ⟨rfl, hb7⟩)
          go_wp2_with fail
          refine hK.out _ _ ⟨hHeld.1.below hb7, hHeld.2.below hb7⟩ (fun hHeld => ?_)
          clear hK K
          (try simp only [Act.put, List.setIfInBounds_toArray, List.set_cons_zero, List.set_cons_succ])
          refine wpAnyH_ready (rs := [4]) (by kernel_rfl) (by simp) ?_
          refine AllReadyH.cons (o := ⟨none, _, _, _, _, _⟩) rfl (fun K hK => ?_) AllReadyH.nil
          refine wp_store_any 28 _ _ rfl (w.heap.size + 1) #[.int .i64 i2, .int .i64 x2, .int .i64 y2] rfl rfl 28 #[.int .i64 0, .int .i64 0, .int .i64 0] (HP7.out.drew.below hb7) (by kernel_rfl) rfl (one3 _ _ _) (fun w8 u => ?_)
          refine hK.out _ _ ⟨u.bx hHeld.1 (by omega), u.bx hHeld.2 (by omega)⟩ (fun hHeld => ?_)
          clear hK K
          (try simp only [Act.put])
          refine wpAnyH_ready (rs := [5]) (by kernel_rfl) (by simp) ?_
          refine AllReadyH.cons (o := ⟨none, _, _, _, _, _⟩) rfl (fun K hK => ?_) AllReadyH.nil
          refine wp_store_any 70 _ _ rfl (w.heap.size + 1 + 1) #[.bool false, .bool false, .bool false, .bool false] rfl rfl 70 #[.bool false, .bool false, .bool false, .bool false] (u.bx (HQ7.out.drew.below hb7) (by omega)) (by kernel_rfl) rfl (oneb _ _ _ _) (fun w9 u2 => ?_)
          refine hK.out _ _ ⟨u2.bx hHeld.1 (by omega), u2.bx hHeld.2 (by omega)⟩ (fun hHeld => ?_)
          clear hK K
          (try simp only [Act.put])
          refine wpAnyH_done (by kernel_rfl) ?_ _
          refine NoPanic.normal ?_
          go_wp2_with fail
          refine bodyPost_ret (results_boxes Try.results25 _ _ (w.heap.size + 1) (w.heap.size + 1 + 1) 28 70 #[.int .i64 i2, .int .i64 x2, .int .i64 y2] #[.bool false, .bool false, .bool false, .bool false] _ _ rfl (u2.bx u.box (by omega)) rfl u2.box Try.underlying28 rfl (by kernel_rfl) Try.underlying70 rfl (by kernel_rfl)) rfl ⟨rfl, ?_⟩
          have hbd := b_dr (b_dr HB7.out)
          exact ((b_cl (b_dr HB7.out) (Nat.le_refl _) hb7).trans (u.bel _ (by omega))).trans (u2.bel _ (by omega))
      case neg =>
        have nw : ¬ CanW l ((j : Int), x, y) := fun c => by have := c.2.1; rw [e9] at this; exact hd this
        have y0 : y = 0 := by omega
        subst y0
        have E1 : b1 l ((j : Int), x, 0) 2 = true := by unfold b1; exact decide_eq_true ⟨rfl, nw⟩
        have E2 : b2 l ((j : Int), x, 0) m 2 = false := by unfold b2; exact decide_eq_false (fun c => nw c.2.1)
        have ed : (x == d) = false := by simp [hd]
        clear hd ho hs e9 hoq hro fend ft5 ft6
        rw [E0, E1, E2, E3, go_stay (s := ((j : Int), x, 0)) (fun c => absurd c.1 (by decide)) (fun c => nw c.2)]
        have NR : Near l ((j : Int), x, 0) := fit.near
        have CP := fun W (h : RdK W (some ⟨b, off, none⟩) l) => refpast19_any (some ⟨b, off, none⟩) n c l hn (j : Int) (x) (0) W h (by omega) ok NR
        obtain ⟨⟨i2, x2, y2⟩, hP⟩ : ∃ P, pastT l ((j : Int), x, 0) = P := ⟨_, rfl⟩
        try simp only at ⊢
        rw [hP] at CP ⊢
        unfold sp3 at CP ⊢
        simp only at CP ⊢
        clear nw
        clear E0 E1 E2 E3 NR hP ok few fit h i0 i1 hn
        have S0 : Bx ((((w.alloc (.cells #[.int .i64 (j : Int), .int .i64 x, .int .i64 0] 28)).alloc (.cells #[.int .i64 0, .int .i64 0, .int .i64 0] 28)).alloc (.cells #[.bool false, .bool false, .bool false, .bool false] 70)).alloc (.cells #[.bool false, .bool false, .bool false, .bool false] 70)) (w.heap.size) 28 #[.int .i64 (j : Int), .int .i64 x, .int .i64 0] := (((Bx.new (W := w) _ _ rfl).alloc _).alloc _).alloc _
        have P0 : Bx ((((w.alloc (.cells #[.int .i64 (j : Int), .int .i64 x, .int .i64 0] 28)).alloc (.cells #[.int .i64 0, .int .i64 0, .int .i64 0] 28)).alloc (.cells #[.bool false, .bool false, .bool false, .bool false] 70)).alloc (.cells #[.bool false, .bool false, .bool false, .bool false] 70)) (w.heap.size + 1) 28 #[.int .i64 0, .int .i64 0, .int .i64 0] := ((Bx.new (W := w.alloc (.cells #[.int .i64 (j : Int), .int .i64 x, .int .i64 0] 28)) _ _ (by simp)).alloc _).alloc _
        have Q0 : Bx ((((w.alloc (.cells #[.int .i64 (j : Int), .int .i64 x, .int .i64 0] 28)).alloc (.cells #[.int .i64 0, .int .i64 0, .int .i64 0] 28)).alloc (.cells #[.bool false, .bool false, .bool false, .bool false] 70)).alloc (.cells #[.bool false, .bool false, .bool false, .bool false] 70)) (w.heap.size + 1 + 1) 70 #[.bool false, .bool false, .bool false, .bool false] := (Bx.new (W := (w.alloc (.cells #[.int .i64 (j : Int), .int .i64 x, .int .i64 0] 28)).alloc (.cells #[.int .i64 0, .int .i64 0, .int .i64 0] 28)) _ _ (by simp)).alloc _
        have X0 : Bx ((((w.alloc (.cells #[.int .i64 (j : Int), .int .i64 x, .int .i64 0] 28)).alloc (.cells #[.int .i64 0, .int .i64 0, .int .i64 0] 28)).alloc (.cells #[.bool false, .bool false, .bool false, .bool false] 70)).alloc (.cells #[.bool false, .bool false, .bool false, .bool false] 70)) (w.heap.size + 1 + 1 + 1) 70 #[.bool false, .bool false, .bool false, .bool false] := Bx.new (W := ((w.alloc (.cells #[.int .i64 (j : Int), .int .i64 x, .int .i64 0] 28)).alloc (.cells #[.int .i64 0, .int .i64 0, .int .i64 0] 28)).alloc (.cells #[.bool false, .bool false, .bool false, .bool false] 70)) _ _ (by simp)
        have B0 : Below w.heap.size w ((((w.alloc (.cells #[.int .i64 (j : Int), .int .i64 x, .int .i64 0] 28)).alloc (.cells #[.int .i64 0, .int .i64 0, .int .i64 0] 28)).alloc (.cells #[.bool false, .bool false, .bool false, .bool false] 70)).alloc (.cells #[.bool false, .bool false, .bool false, .bool false] 70)) := by (repeat (first | exact Below.refl _ _ | (refine b_st ?_ (by first | (simp; done) | (simp; omega))) | (refine b_al ?_ (Nat.le_refl _) _) | refine b_dn ?_ | refine b_dr ?_ | (refine b_cl ?_ (Nat.le_refl _) (by assumption))))
        have HS0 := Lib.hid S0
        have HP0 := Lib.hid P0
        have HQ0 := Lib.hid Q0
        have HX0 := Lib.hid X0
        have HB0 := Lib.hid B0
        clear S0 P0 Q0 X0 B0
        go_enter Try.func25, Try.ntmps25
        go_upto_region 10 with (refine wpList_store_fld (by rfl) 4 (.tmp 24) (.tmp 23) rfl (w.heap.size + 1 + 1 + 1) 3 (.bool false) rfl rfl rfl 70 #[.bool false, .bool false, .bool false, .bool false] HX0.out (show 3 < 4 by decide) (by kernel_rfl) (fun w3 u3 => ?_); have HX3 := Lib.hid u3.box; have HS3 := Lib.hid (u3.bx HS0.out (by omega)); have HP3 := Lib.hid (u3.bx HP0.out (by omega)); have HQ3 := Lib.hid (u3.bx HQ0.out (by omega)); have HB3 := Lib.hid (HB0.out.trans (u3.bel _ (by omega))); clear u3; have ls3 : w.heap.size + 1 + 1 + 1 < w3.heap.size := HX3.out.lt; have p0_3 := HS3.out.cell (k := 0) rfl; have p1_3 := HS3.out.cell (k := 1) rfl; have p2_3 := HS3.out.cell (k := 2) rfl)
        have t0_3 : w3.cell? ⟨b, off + j * 3, none⟩ = some (.int .i64 d) := (HB3.out.cell (p := ⟨b, _, none⟩) hbb).trans h0
        have t1_3 : w3.cell? ⟨b, off + j * 3 + 1, none⟩ = some (.int .i64 v) := (HB3.out.cell (p := ⟨b, _, none⟩) hbb).trans h1
        have t2_3 : w3.cell? ⟨b, off + j * 3 + 2, none⟩ = some (.slice B q u) := (HB3.out.cell (p := ⟨b, _, none⟩) hbb).trans h2
        have bb3 : b < w3.heap.size := Nat.lt_of_lt_of_le hbb HB3.out.size
        go_quiet (fail)
        go_upto_region 14 with (refine wpList_store_fld (by rfl) 4 (.tmp 89) (.const (.bool true)) rfl (w.heap.size + 1 + 1 + 1) 1 (.bool true) rfl rfl rfl 70 #[.bool false, .bool false, .bool false, .bool false] (HX3.out.drewN (n := nq)) (show 1 < 4 by decide) (by kernel_rfl) (fun w5 u5 => ?_); have HX5 := Lib.hid u5.box; have HS5 := Lib.hid (u5.bx (HS3.out.drewN (n := nq)) (by omega)); have HP5 := Lib.hid (u5.bx (HP3.out.drewN (n := nq)) (by omega)); have HQ5 := Lib.hid (u5.bx (HQ3.out.drewN (n := nq)) (by omega)); have HB5 := Lib.hid ((b_dn HB3.out).trans (u5.bel _ (by omega))); clear u5; have ls5 : w.heap.size + 1 + 1 + 1 < w5.heap.size := HX5.out.lt; have p0_5 := HS5.out.cell (k := 0) rfl; have p1_5 := HS5.out.cell (k := 1) rfl; have p2_5 := HS5.out.cell (k := 2) rfl)
        have YS := Lib.hid (show Bx w5 (w.heap.size) 28 #[.int .i64 (j : Int), .int .i64 x, .int .i64 0] from HS5.out)
        have YX := Lib.hid (show Bx w5 (w.heap.size + 1 + 1 + 1) 70 #[.bool false, .bool true, .bool false, .bool false] from HX5.out)
        have HKW := Lib.hid (HK.out.below HB5.out)
        refine wp_region_noPanic ?_
        refine wp_region_held_drew (S := fun w' => Bx w' (w.heap.size) 28 #[.int .i64 (j : Int), .int .i64 x, .int .i64 0] ∧ Bx w' (w.heap.size + 1 + 1 + 1) 70 #[.bool false, .bool true, .bool false, .bool false]) (by kernel_rfl) ?_ (fun hHeld => ?_)
        · exact ⟨YS.out.drew, YX.out.drew⟩
        refine wpAnyH_take (i := 0) (oi := ⟨some 90, _, _, _, _, _⟩) (v := ?_) rfl (by kernel_rfl) (by kernel_rfl) (by kernel_rfl) (fun _ _ _ h => h) (Or.inl ⟨by rfl, ?_⟩) (by assumption) ?_
        rotate_left
        · (intro w' hSw; clear hSw; go_simp; try (with_reducible rfl))
        (try simp only [Act.put, List.setIfInBounds_toArray, List.set_cons_zero, List.set_cons_succ])
        refine wpAnyH_take (i := 1) (oi := ⟨some 91, _, _, _, _, _⟩) (v := .agg #[.int .i64 (j : Int), .int .i64 x, .int .i64 0]) rfl (by kernel_rfl) (by kernel_rfl) (by kernel_rfl) (fun _ _ _ h => h) (Or.inl ⟨by rfl, fun w' hSw => exec_load_box (w.heap.size) 28 #[.int .i64 (j : Int), .int .i64 x, .int .i64 0] _ w' rfl rfl hSw.1 Try.underlying28 rfl (by kernel_rfl)⟩) (by assumption) ?_
        (try simp only [Act.put, List.setIfInBounds_toArray, List.set_cons_zero, List.set_cons_succ])
        refine wpAnyH_take (i := 3) (oi := ⟨some 93, _, _, _, _, _⟩) (v := .agg #[.bool false, .bool true, .bool false, .bool false]) rfl (by kernel_rfl) (by kernel_rfl) (by kernel_rfl) (fun _ _ _ h => h) (Or.inl ⟨by rfl, fun w' hSw => exec_load_box (w.heap.size + 1 + 1 + 1) 70 #[.bool false, .bool true, .bool false, .bool false] _ w' rfl rfl hSw.2 Try.underlying70 rfl (by kernel_rfl)⟩) (by assumption) ?_
        (try simp only [Act.put, List.setIfInBounds_toArray, List.set_cons_zero, List.set_cons_succ])
        refine wpAnyH_ready (rs := [2]) (by kernel_rfl) (by simp) ?_
        refine AllReadyH.cons (o := ⟨some 92, _, _, _, _, _⟩) rfl (fun K hK => ?_) AllReadyH.nil
        go_simp
        (go_at_call 39; refine (CP _ (HKW.out.below (b_dr (Below.refl _ _)))).mono ?_; rintro e w7 ⟨rfl, hb7⟩)
        go_wp2_with fail
        refine hK.out _ _ ⟨hHeld.1.below hb7, hHeld.2.below hb7⟩ (fun hHeld => ?_)
        clear hK K
        (try simp only [Act.put, List.setIfInBounds_toArray, List.set_cons_zero, List.set_cons_succ])
        refine wpAnyH_ready (rs := [4]) (by kernel_rfl) (by simp) ?_
        refine AllReadyH.cons (o := ⟨none, _, _, _, _, _⟩) rfl (fun K hK => ?_) AllReadyH.nil
        refine wp_store_any 28 _ _ rfl (w.heap.size + 1) #[.int .i64 i2, .int .i64 x2, .int .i64 y2] rfl rfl 28 #[.int .i64 0, .int .i64 0, .int .i64 0] (HP5.out.drew.below hb7) (by kernel_rfl) rfl (one3 _ _ _) (fun w8 u => ?_)
        refine hK.out _ _ ⟨u.bx hHeld.1 (by omega), u.bx hHeld.2 (by omega)⟩ (fun hHeld => ?_)
        clear hK K
        (try simp only [Act.put])
        refine wpAnyH_ready (rs := [5]) (by kernel_rfl) (by simp) ?_
        refine AllReadyH.cons (o := ⟨none, _, _, _, _, _⟩) rfl (fun K hK => ?_) AllReadyH.nil
        refine wp_store_any 70 _ _ rfl (w.heap.size + 1 + 1) #[.bool false, .bool true, .bool false, .bool false] rfl rfl 70 #[.bool false, .bool false, .bool false, .bool false] (u.bx (HQ5.out.drew.below hb7) (by omega)) (by kernel_rfl) rfl (oneb _ _ _ _) (fun w9 u2 => ?_)
        refine hK.out _ _ ⟨u2.bx hHeld.1 (by omega), u2.bx hHeld.2 (by omega)⟩ (fun hHeld => ?_)
        clear hK K
        (try simp only [Act.put])
        refine wpAnyH_done (by kernel_rfl) ?_ _
        refine NoPanic.normal ?_
        go_wp2_with fail
        refine bodyPost_ret (results_boxes Try.results25 _ _ (w.heap.size + 1) (w.heap.size + 1 + 1) 28 70 #[.int .i64 i2, .int .i64 x2, .int .i64 y2] #[.bool false, .bool true, .bool false, .bool false] _ _ rfl (u2.bx u.box (by omega)) rfl u2.box Try.underlying28 rfl (by kernel_rfl) Try.underlying70 rfl (by kernel_rfl)) rfl ⟨rfl, ?_⟩
        have hbd := b_dr (b_dr HB5.out)
        exact ((b_cl (b_dr HB5.out) (Nat.le_refl _) hb7).trans (u.bel _ (by omega))).trans (u2.bel _ (by omega))
    case neg =>
      have nw : ¬ CanW l ((j : Int), x, y) := fun c => by have := c.1; simp only at this; omega
      obtain ⟨_, y0⟩ := fend (by simp only; omega)
      simp only at y0
      subst y0
      have E1 : b1 l ((j : Int), x, 0) 2 = true := by unfold b1; exact decide_eq_true ⟨rfl, nw⟩
      have E2 : b2 l ((j : Int), x, 0) m 2 = false := by unfold b2; exact decide_eq_false (fun c => nw c.2.1)
      have dl : decide ((j : Int) < (n : Int)) = false := decide_eq_false (by omega)
      clear fend
      rw [E0, E1, E2, E3, go_stay (s := ((j : Int), x, 0)) (fun c => absurd c.1 (by decide)) (fun c => nw c.2)]
      have NR : Near l ((j : Int), x, 0) := fit.near
      have CP := fun W (h : RdK W A l) => refpast19_any A n c l hn (j : Int) (x) (0) W h (by omega) ok NR
      obtain ⟨⟨i2, x2, y2⟩, hP⟩ : ∃ P, pastT l ((j : Int), x, 0) = P := ⟨_, rfl⟩
      try simp only at ⊢
      rw [hP] at CP ⊢
      unfold sp3 at CP ⊢
      simp only at CP ⊢
      clear nw
      clear E0 E1 E2 E3 NR hP ok few fit h i0 i1 hn
      have S0 : Bx ((((w.alloc (.cells #[.int .i64 (j : Int), .int .i64 x, .int .i64 0] 28)).alloc (.cells #[.int .i64 0, .int .i64 0, .int .i64 0] 28)).alloc (.cells #[.bool false, .bool false, .bool false, .bool false] 70)).alloc (.cells #[.bool false, .bool false, .bool false, .bool false] 70)) (w.heap.size) 28 #[.int .i64 (j : Int), .int .i64 x, .int .i64 0] := (((Bx.new (W := w) _ _ rfl).alloc _).alloc _).alloc _
      have P0 : Bx ((((w.alloc (.cells #[.int .i64 (j : Int), .int .i64 x, .int .i64 0] 28)).alloc (.cells #[.int .i64 0, .int .i64 0, .int .i64 0] 28)).alloc (.cells #[.bool false, .bool false, .bool false, .bool false] 70)).alloc (.cells #[.bool false, .bool false, .bool false, .bool false] 70)) (w.heap.size + 1) 28 #[.int .i64 0, .int .i64 0, .int .i64 0] := ((Bx.new (W := w.alloc (.cells #[.int .i64 (j : Int), .int .i64 x, .int .i64 0] 28)) _ _ (by simp)).alloc _).alloc _
      have Q0 : Bx ((((w.alloc (.cells #[.int .i64 (j : Int), .int .i64 x, .int .i64 0] 28)).alloc (.cells #[.int .i64 0, .int .i64 0, .int .i64 0] 28)).alloc (.cells #[.bool false, .bool false, .bool false, .bool false] 70)).alloc (.cells #[.bool false, .bool false, .bool false, .bool false] 70)) (w.heap.size + 1 + 1) 70 #[.bool false, .bool false, .bool false, .bool false] := (Bx.new (W := (w.alloc (.cells #[.int .i64 (j : Int), .int .i64 x, .int .i64 0] 28)).alloc (.cells #[.int .i64 0, .int .i64 0, .int .i64 0] 28)) _ _ (by simp)).alloc _
      have X0 : Bx ((((w.alloc (.cells #[.int .i64 (j : Int), .int .i64 x, .int .i64 0] 28)).alloc (.cells #[.int .i64 0, .int .i64 0, .int .i64 0] 28)).alloc (.cells #[.bool false, .bool false, .bool false, .bool false] 70)).alloc (.cells #[.bool false, .bool false, .bool false, .bool false] 70)) (w.heap.size + 1 + 1 + 1) 70 #[.bool false, .bool false, .bool false, .bool false] := Bx.new (W := ((w.alloc (.cells #[.int .i64 (j : Int), .int .i64 x, .int .i64 0] 28)).alloc (.cells #[.int .i64 0, .int .i64 0, .int .i64 0] 28)).alloc (.cells #[.bool false, .bool false, .bool false, .bool false] 70)) _ _ (by simp)
      have B0 : Below w.heap.size w ((((w.alloc (.cells #[.int .i64 (j : Int), .int .i64 x, .int .i64 0] 28)).alloc (.cells #[.int .i64 0, .int .i64 0, .int .i64 0] 28)).alloc (.cells #[.bool false, .bool false, .bool false, .bool false] 70)).alloc (.cells #[.bool false, .bool false, .bool false, .bool false] 70)) := by (repeat (first | exact Below.refl _ _ | (refine b_st ?_ (by first | (simp; done) | (simp; omega))) | (refine b_al ?_ (Nat.le_refl _) _) | refine b_dn ?_ | refine b_dr ?_ | (refine b_cl ?_ (Nat.le_refl _) (by assumption))))
      have HS0 := Lib.hid S0
      have HP0 := Lib.hid P0
      have HQ0 := Lib.hid Q0
      have HX0 := Lib.hid X0
      have HB0 := Lib.hid B0
      clear S0 P0 Q0 X0 B0
      go_enter Try.func25, Try.ntmps25
      go_upto_region 10 with (refine wpList_store_fld (by rfl) 4 (.tmp 24) (.tmp 23) rfl (w.heap.size + 1 + 1 + 1) 3 (.bool false) rfl rfl rfl 70 #[.bool false, .bool false, .bool false, .bool false] HX0.out (show 3 < 4 by decide) (by kernel_rfl) (fun w3 u3 => ?_); have HX3 := Lib.hid u3.box; have HS3 := Lib.hid (u3.bx HS0.out (by omega)); have HP3 := Lib.hid (u3.bx HP0.out (by omega)); have HQ3 := Lib.hid (u3.bx HQ0.out (by omega)); have HB3 := Lib.hid (HB0.out.trans (u3.bel _ (by omega))); clear u3; have ls3 : w.heap.size + 1 + 1 + 1 < w3.heap.size := HX3.out.lt; have p0_3 := HS3.out.cell (k := 0) rfl; have p1_3 := HS3.out.cell (k := 1) rfl; have p2_3 := HS3.out.cell (k := 2) rfl)
      go_quiet (fail)
      go_upto_region 14 with (refine wpList_store_fld (by rfl) 4 (.tmp 89) (.const (.bool true)) rfl (w.heap.size + 1 + 1 + 1) 1 (.bool true) rfl rfl rfl 70 #[.bool false, .bool false, .bool false, .bool false] (HX3.out.drewN (n := nq)) (show 1 < 4 by decide) (by kernel_rfl) (fun w5 u5 => ?_); have HX5 := Lib.hid u5.box; have HS5 := Lib.hid (u5.bx (HS3.out.drewN (n := nq)) (by omega)); have HP5 := Lib.hid (u5.bx (HP3.out.drewN (n := nq)) (by omega)); have HQ5 := Lib.hid (u5.bx (HQ3.out.drewN (n := nq)) (by omega)); have HB5 := Lib.hid ((b_dn HB3.out).trans (u5.bel _ (by omega))); clear u5; have ls5 : w.heap.size + 1 + 1 + 1 < w5.heap.size := HX5.out.lt; have p0_5 := HS5.out.cell (k := 0) rfl; have p1_5 := HS5.out.cell (k := 1) rfl; have p2_5 := HS5.out.cell (k := 2) rfl)
      have YS := Lib.hid (show Bx w5 (w.heap.size) 28 #[.int .i64 (j : Int), .int .i64 x, .int .i64 0] from HS5.out)
      have YX := Lib.hid (show Bx w5 (w.heap.size + 1 + 1 + 1) 70 #[.bool false, .bool true, .bool false, .bool false] from HX5.out)
      have HKW := Lib.hid (HK.out.below HB5.out)
      refine wp_region_noPanic ?_
      refine wp_region_held_drew (S := fun w' => Bx w' (w.heap.size) 28 #[.int .i64 (j : Int), .int .i64 x, .int .i64 0] ∧ Bx w' (w.heap.size + 1 + 1 + 1) 70 #[.bool false, .bool true, .bool false, .bool false]) (by kernel_rfl) ?_ (fun hHeld => ?_)
      · exact ⟨YS.out.drew, YX.out.drew⟩
      refine wpAnyH_take (i := 0) (oi := ⟨some 90, _, _, _, _, _⟩) (v := ?_) rfl (by kernel_rfl) (by kernel_rfl) (by kernel_rfl) (fun _ _ _ h => h) (Or.inl ⟨by rfl, ?_⟩) (by assumption) ?_
      rotate_left
      · (intro w' hSw; clear hSw; go_simp; try (with_reducible rfl))
      (try simp only [Act.put, List.setIfInBounds_toArray, List.set_cons_zero, List.set_cons_succ])
      refine wpAnyH_take (i := 1) (oi := ⟨some 91, _, _, _, _, _⟩) (v := .agg #[.int .i64 (j : Int), .int .i64 x, .int .i64 0]) rfl (by kernel_rfl) (by kernel_rfl) (by kernel_rfl) (fun _ _ _ h => h) (Or.inl ⟨by rfl, fun w' hSw => exec_load_box (w.heap.size) 28 #[.int .i64 (j : Int), .int .i64 x, .int .i64 0] _ w' rfl rfl hSw.1 Try.underlying28 rfl (by kernel_rfl)⟩) (by assumption) ?_
      (try simp only [Act.put, List.setIfInBounds_toArray, List.set_cons_zero, List.set_cons_succ])
      refine wpAnyH_take (i := 3) (oi := ⟨some 93, _, _, _, _, _⟩) (v := .agg #[.bool false, .bool true, .bool false, .bool false]) rfl (by kernel_rfl) (by kernel_rfl) (by kernel_rfl) (fun _ _ _ h => h) (Or.inl ⟨by rfl, fun w' hSw => exec_load_box (w.heap.size + 1 + 1 + 1) 70 #[.bool false, .bool true, .bool false, .bool false] _ w' rfl rfl hSw.2 Try.underlying70 rfl (by kernel_rfl)⟩) (by assumption) ?_
      (try simp only [Act.put, List.setIfInBounds_toArray, List.set_cons_zero, List.set_cons_succ])
      refine wpAnyH_ready (rs := [2]) (by kernel_rfl) (by simp) ?_
      refine AllReadyH.cons (o := ⟨some 92, _, _, _, _, _⟩) rfl (fun K hK => ?_) AllReadyH.nil
      go_simp
      (go_at_call 39; refine (CP _ (HKW.out.below (b_dr (Below.refl _ _)))).mono ?_; rintro e w7 ⟨rfl, hb7⟩)
      go_wp2_with fail
      refine hK.out _ _ ⟨hHeld.1.below hb7, hHeld.2.below hb7⟩ (fun hHeld => ?_)
      clear hK K
      (try simp only [Act.put, List.setIfInBounds_toArray, List.set_cons_zero, List.set_cons_succ])
      refine wpAnyH_ready (rs := [4]) (by kernel_rfl) (by simp) ?_
      refine AllReadyH.cons (o := ⟨none, _, _, _, _, _⟩) rfl (fun K hK => ?_) AllReadyH.nil
      refine wp_store_any 28 _ _ rfl (w.heap.size + 1) #[.int .i64 i2, .int .i64 x2, .int .i64 y2] rfl rfl 28 #[.int .i64 0, .int .i64 0, .int .i64 0] (HP5.out.drew.below hb7) (by kernel_rfl) rfl (one3 _ _ _) (fun w8 u => ?_)
      refine hK.out _ _ ⟨u.bx hHeld.1 (by omega), u.bx hHeld.2 (by omega)⟩ (fun hHeld => ?_)
      clear hK K
      (try simp only [Act.put])
      refine wpAnyH_ready (rs := [5]) (by kernel_rfl) (by simp) ?_
      refine AllReadyH.cons (o := ⟨none, _, _, _, _, _⟩) rfl (fun K hK => ?_) AllReadyH.nil
      refine wp_store_any 70 _ _ rfl (w.heap.size + 1 + 1) #[.bool false, .bool true, .bool false, .bool false] rfl rfl 70 #[.bool false, .bool false, .bool false, .bool false] (u.bx (HQ5.out.drew.below hb7) (by omega)) (by kernel_rfl) rfl (oneb _ _ _ _) (fun w9 u2 => ?_)
      refine hK.out _ _ ⟨u2.bx hHeld.1 (by omega), u2.bx hHeld.2 (by omega)⟩ (fun hHeld => ?_)
      clear hK K
      (try simp only [Act.put])
      refine wpAnyH_done (by kernel_rfl) ?_ _
      refine NoPanic.normal ?_
      go_wp2_with fail
      refine bodyPost_ret (results_boxes Try.results25 _ _ (w.heap.size + 1) (w.heap.size + 1 + 1) 28 70 #[.int .i64 i2, .int .i64 x2, .int .i64 y2] #[.bool false, .bool true, .bool false, .bool false] _ _ rfl (u2.bx u.box (by omega)) rfl u2.box Try.underlying28 rfl (by kernel_rfl) Try.underlying70 rfl (by kernel_rfl)) rfl ⟨rfl, ?_⟩
      have hbd := b_dr (b_dr HB5.out)
      exact ((b_cl (b_dr HB5.out) (Nat.le_refl _) hb7).trans (u.bel _ (by omega))).trans (u2.bel _ (by omega))
end Go.Proofs.Ytolbihfnogbjaaa
